/- BAddS. -/
import Derived.Test.YtdalcipmpelifaaGreatDoorMG22
set_option maxRecDepth 100000
namespace Go.Proofs.YtdalcipmpelifaaGreatDoor
open Go.RowKit
structure TwoE (w u:World) (b c:Nat):Prop where
 os:u.os=w.os
 tape:u.tape=w.tape
 output:u.output=w.output
 size:u.heap.size=w.heap.size
 block:∀k,k≠b->k≠c->u.heap[k]?=w.heap[k]?
theorem TwoE.refl(w:World)(b c:Nat):TwoE w w b c:=⟨rfl,rfl,rfl,rfl,fun _ _ _=>rfl⟩
theorem TwoE.set1{w u:World}{b c i:Nat}(h:TwoE w u b c)(v:Value):TwoE w (u.setCell ⟨b,i,none⟩ v) b c:=⟨h.os,h.tape,h.output,by simpa using h.size,fun k h1 h2=>(zM u ⟨b,i,none⟩ v k h1).trans (h.block k h1 h2)⟩
theorem TwoE.set2{w u:World}{b c i:Nat}(h:TwoE w u b c)(v:Value):TwoE w (u.setCell ⟨c,i,none⟩ v) b c:=⟨h.os,h.tape,h.output,by simpa using h.size,fun k h1 h2=>(zM u ⟨c,i,none⟩ v k h2).trans (h.block k h1 h2)⟩
theorem heap_set0{w:World}{b:Nat}{c0 c1 c2 v:Value}{t:TypeId}(h:w.heap[b]?=some (.cells #[c0,c1,c2] t (0,0))):(w.setCell ⟨b,0,none⟩ v).heap[b]?=some (.cells #[v,c1,c2] t (0,0)):=by simp[World.setCell,Array.getElem?_modify,h]
theorem heap_set1{w:World}{b:Nat}{c0 c1 c2 v:Value}{t:TypeId}(h:w.heap[b]?=some (.cells #[c0,c1,c2] t (0,0))):(w.setCell ⟨b,1,none⟩ v).heap[b]?=some (.cells #[c0,v,c2] t (0,0)):=by simp[World.setCell,Array.getElem?_modify,h]
theorem heap_set2{w:World}{b:Nat}{c0 c1 c2 v:Value}{t:TypeId}(h:w.heap[b]?=some (.cells #[c0,c1,c2] t (0,0))):(w.setCell ⟨b,2,none⟩ v).heap[b]?=some (.cells #[c0,c1,v] t (0,0)):=by simp[World.setCell,Array.getElem?_modify,h]
set_option maxHeartbeats 4000000 in
theorem addSeq_any{k:Int}{wd:Wd}{v:Value}{kids:List Vt}(hx:∀x∈kids,AddF 35 x):AddG 56 ⟨k,wd,v,kids⟩ (foldK seqC true kids) ((kids.map fun x=>leaves x.pt).sum):=by
 intro S w mb kb ws ps F wv hS hm hf hv hl;obtain⟨ao,cap,hvv⟩:=hv.parts.1.slice;have hkl:=hv.parts.2.2.1;dsimp only at hvv hkl;subst hvv;have HX:=zA hx;have HKIDS:=zA hv.parts.1;have HKV:=zA hv.parts.2.2.2;dsimp only at HKIDS HKV;obtain⟨n,hn⟩:∃n,n=kids.length:=⟨_,rfl⟩
 rw[<- hn]at HKIDS hkl ⊢;have HN:=zA hn;obtain⟨W1,hW1⟩:∃W,W=((w.alloc (.cells #[.int .i64 k,.string ⟨wd.toArray⟩,.slice ao n cap] 25)).alloc (.cells #[.int .u32 0,.int .u32 0,.bool false] 87)).alloc (.cells #[.int .u32 0,.int .u32 0,.bool true] 87):=⟨_,rfl⟩
 have hbW:Below w.heap.size w W1:=by rw[hW1];exact(((zF _ _).alloc (zD _) _).alloc (by simp) _).alloc (by simp;omega) _
 have hsz:W1.heap.size=w.heap.size+2+1:=by rw[hW1];simp
 have hcb1:W1.heap[w.heap.size+1]?=some (.cells #[.int .u32 0,.int .u32 0,.bool false] 87 (0,0)):=by
  rw[hW1,heap_alloc_old _ _ (by simp)];exact(by simpa using heap_alloc_new (w.alloc (.cells #[.int .i64 k,.string ⟨wd.toArray⟩,.slice ao n cap] 25)) _)
 have hcb2:W1.heap[w.heap.size+2]?=some (.cells #[.int .u32 0,.int .u32 0,.bool true] 87 (0,0)):=by
  rw[hW1];exact(by simpa using heap_alloc_new ((w.alloc (.cells #[.int .i64 k,.string ⟨wd.toArray⟩,.slice ao n cap] 25)).alloc (.cells #[.int .u32 0,.int .u32 0,.bool false] 87)) _)
 have HM1:=zA (hm.plus hS hbW (w.heap.size+2+1));have hFrW:Fr S w W1:=fr_below hS hbW;have HSUM:Hid (ws.length+(kids.map fun x=>leaves x.pt).sum<=24):=zA hl;have HSK:=zA hm.sk;have HW1:=zA hW1;have HFW:=zA hFrW;have HCB1:=zA hcb1;have HCB2:=zA hcb2;have HSZ:=zA hsz;have HLOW:=zA hS;have HF:=zA hf;obtain⟨R,hR⟩:∃R,R=foldK seqC true kids:=⟨_,rfl⟩
 rw[<- hR];have HR:=zA hR;clear hv hm hf hl hx hbW hsz hcb1 hcb2 hFrW hW1 hS hn hR;show Calls Tryz.prog _ #[_,.agg #[.int .i64 k,.string ⟨wd.toArray⟩,.slice ao n cap]] w _;go_enter Tryz.func56,Tryz.ntmps56;go_wp2_with fail;rw[<- HW1.out];go_loopw [13] (fun c wr=>∃(i f l:Nat) (G:Nat->Nat) (wu:Value),i<=n/\c=.int .i64 i/\BitsOf f (up ws.length (foldK seqC true (kids.take i)).first)/\BitsOf l (up ws.length (foldK seqC true (kids.take i)).last)/\MkAt (Plus S w.heap.size (w.heap.size+2+1)) wr mb kb (ws++(foldK seqC true (kids.take i)).words) G wu/\FolOf G (ps++upP ws.length (foldK seqC true (kids.take i)).pairs)/\
  wr.heap[w.heap.size+2]?=some (.cells #[.int .u32 (f:Int),.int .u32 (l:Int),.bool (foldK seqC true (kids.take i)).empty] 87 (0,0))/\Fr (Plus S w.heap.size (w.heap.size+2)) W1 wr) (fun c _=>n-(intOf c).toNat)
 case atStart=>
  refine⟨0,0,0,F,wv,zS _,rfl,?_,?_,?_,?_,?_,Fr.refl _ _⟩
  . exact BitsOf.none.congr (fun k=>by simp[foldK,prt0,up])
  . exact BitsOf.none.congr (fun k=>by simp[foldK,prt0,up])
  . simpa[foldK,prt0]using HM1.out
  . exact HF.out.congr (fun p=>by simp[foldK,prt0,upP])
  . exact HCB2.out
 case round=>
  obtain⟨i,f,l,G,wu,hi,rfl,hbf,hbl,hmk,hfo,hc2,hfr⟩:=hrel;obtain⟨X,hX⟩:∃X,X=foldK seqC true (kids.take i):=⟨_,rfl⟩
  rw[<- hX]at hbf hbl hmk hfo hc2;have hXw:X.words.length=((kids.take i).map fun x=>leaves x.pt).sum:=by rw[hX];exact foldK_words (fun _ _=>rfl) _
  obtain⟨em,hem⟩:∃b,b=X.empty:=⟨_,rfl⟩
  rw[<- hem]at hc2;have HEM:=zA hem;have HXX:=zA hX;have HBF:=zA hbf;have HBL:=zA hbl;have HMK:=zA hmk;have HFO:=zA hfo;have HC2:=zA hc2;have HFR:=zA hfr;have HXW:=zA hXw;have HFS:Hid (Fr S w wr):=zA (HFW.out.trans (hfr.sub (fun k hk=>.inl hk)));clear hX hbf hbl hmk hfo hc2 hfr hXw hem;by_cases hlt:i<n
  . have hltI:(i:Int)<(n:Int):=by omega
    obtain⟨x,hx⟩:∃x,kids[i]?=some x:=⟨_,zB (by rw[<- HN.out];exact hlt)⟩
    have hxm:=zC hx;obtain⟨g,off,rfl,hgS,hgl,hcell⟩:=(HKIDS.out.fr HFS.out).get hx;obtain⟨q0,q1,q2⟩:=getN hcell;have hxv:=(HKV.out x hxm).fr HFS.out;obtain⟨xa,xc,hxs⟩:=hxv.parts.1.slice;have hsum:=leaves_take hx;have hstep:=foldK_succ (c:=seqC) (e:=true) hx;have hadd:=HX.out x hxm;obtain⟨Y,hY⟩:∃Y,Y=prtOf x.pt:=⟨_,rfl⟩
    have hYw:Y.words.length=leaves x.pt:=by rw[hY];exact prt_words_len _
    have hkl2:=hxv.parts.2.2.1;have hszr:w.heap.size+2<wr.heap.size:=lt_of_block HC2.out;have hLr:Low (Plus S w.heap.size (w.heap.size+2+1)) wr:=fun k hk=>by
     rcases hk with hk|hk
     . have:=HLOW.out k hk;omega
     . omega
    obtain⟨ok,hok⟩:∃o,o=Obj.cells #[.int .i64 x.kind,.string ⟨x.word.toArray⟩,x.val] 25:=⟨_,rfl⟩
    have hC:=hadd (Plus S w.heap.size (w.heap.size+2+1)) (wr.alloc ok) mb kb (ws++X.words) (ps++upP ws.length X.pairs) G wu (fun k hk=>by have:=hLr k hk;simp;omega) (HMK.out.below hLr ((zF _ _).alloc (zD _) ok)) HFO.out ((hxv.below ((zF _ _).alloc (zD _) ok)).sub (fun b hb _=>.inl hb)) (by
     have h1:=HXW.out;have h2:=HSUM.out;rw[zG];omega)
    rw[<- hY]at hC hstep;obtain⟨kk,kw,kv,kks⟩:=x;dsimp only at hxs q0 q1 q2 hok hkl2;subst hxs;have C:=zA hC;rw[hok]at C;have HOK:=zA hok;have HSTEP:=zA hstep;have HLR:=zA hLr;clear hx hxm hcell hxv hsum hstep hadd hY hYw hC hok hLr;go_wp2_with fail;refine C.out.mono ?_;rintro e w1 ⟨f2,l2,F2,wv2,rfl,hb1,hb2,hm2,hf2,hfr2⟩;have e2:=(hfr2.block (w.heap.size+2) (.inr ⟨by omega,by omega⟩)).trans ((heap_alloc_old _ _ hszr).trans HC2.out);have hsz1:w.heap.size+2<w1.heap.size:=lt_of_block e2;obtain⟨ey,hey⟩:∃b,b=Y.empty:=⟨_,rfl⟩
    rw[<- hey];obtain⟨o3,ho3⟩:∃o,o=Obj.cells #[.int .u32 (f2:Int),.int .u32 (l2:Int),.bool ey] 87:=⟨_,rfl⟩
    have hLow1:Low (Plus S w.heap.size (w.heap.size+2+1)) w1:=fun k hk=>by
     have h1:=hfr2.size;have h2:=HLR.out k hk;simp at h1;omega
    have hm3:=(hm2.below hLow1 ((zF _ _).alloc (zD _) o3)).drew;have hb3:(w1.alloc o3).drew.heap[w1.heap.size]?=some o3:=heap_alloc_new w1 o3;have e3:(w1.alloc o3).drew.heap[w.heap.size+2]?=some (.cells #[.int .u32 (f:Int),.int .u32 (l:Int),.bool em] 87 (0,0)):=by
     show (w1.alloc o3).heap[w.heap.size+2]?=_;rw[heap_alloc_old _ _ hsz1];exact e2
    have hmbn:mb≠w1.heap.size:=by have:=hm2.lt;omega
    have hmbb:mb≠w.heap.size+2:=fun e=>hm2.no (.inr ⟨by omega,by omega⟩)
    have CL:=zA (link_any hm3.fol (fun i hi=>(hf2 i hi).1) l f2 HBL.out.1 hb1.1);obtain⟨⟨t0,t1,t2⟩,_⟩:=three_cells e3;have HFOL2:=zA ((hf2.link HBL.out hb1));have HFR3:Hid (Fr (Plus S w.heap.size (w.heap.size+2)) W1 (w1.alloc o3).drew):=zA (by
     have hLowb:Low (Plus S w.heap.size (w.heap.size+2)) W1:=fun k hk=>by
      rcases hk with hk|hk
      . have:=HLOW.out k hk;have:=HFW.out.size;omega
      . have:=HSZ.out;omega
     refine(Fr.alloc ((HFR.out.alloc hLowb _).trans (hfr2.sub (fun k hk=>?_))) hLowb o3).drew;rcases hk with hk|hk
     . exact .inl hk
     . exact .inr ⟨hk.1,by omega⟩)
    have HM3:=zA hm3;have HRB:Hid (∀g,wv2.ownBlock=some g->g<w1.heap.size):=zA (fun g hg=>(hm2.row.lt g hg).2);have HB3:=zA hb3;have HE3:=zA e3;have HMN:=zA hmbn;have HMB:=zA hmbb;have HO3:=zA ho3;have HB1:=zA hb1;have HB2:=zA hb2;have HEY:=zA hey;rw[HO3.out]at CL;have hLkb:kb<w.heap.size:=HLOW.out _ HSK.out;have HKB:=zA hLkb;clear hey ho3 hm3 hb3 e3 hmbn hmbb hf2 hm2 hfr2 hLow1 e2 C hLkb hb1 hb2 t0 t1 t2;obtain⟨⟨t0,t1,t2⟩,⟨y0,y1,y2⟩⟩:=three_cells HE3.out;rw[HO3.out]at t0 t1 t2;have t0':(w1.alloc (.cells #[.int .u32 (f2:Int),.int .u32 (l2:Int),.bool ey] 87)).cell? ⟨w.heap.size+2,0,none⟩=some (.int .u32 (f:Int)):=t0;have t1':(w1.alloc (.cells #[.int .u32 (f2:Int),.int .u32 (l2:Int),.bool ey] 87)).cell? ⟨w.heap.size+2,1,none⟩=some (.int .u32 (l:Int)):=t1;have s1':w1.cell? ⟨w.heap.size+2,1,none⟩=some (.int .u32 (l:Int)):=by rw[<- t1',World.cell?_alloc_old _ _ _ (by simp;omega)]
    clear t0 t1 t2 y0 y1 y2 t0' t1';go_wp2_with fail;go_region_law (go_simp;refine CL.out.mono ?_;rintro e w4 ⟨rfl,hfol4,hlk4⟩);all_goals (
     rw[<- HO3.out]at hlk4;have hm4:=HM3.out.link hlk4 hfol4;have hfr4:=HFR3.out.link hlk4 (fun h=>HM3.out.no (by
      rcases h with h|h
      . exact .inl h
      . exact .inr ⟨h.1,by omega⟩))
     have e4:=(hlk4.block (w.heap.size+2) HMB.out.symm).trans HE3.out;have n4:=(hlk4.block w1.heap.size HMN.out.symm).trans HB3.out;rw[HO3.out]at n4;obtain⟨⟨r0,r1,r2⟩,⟨p0,p1,p2⟩⟩:=three_cells e4;obtain⟨⟨m0,m1,m2⟩,⟨x0,x1,x2⟩⟩:=three_cells n4;have hne:¬w.heap.size+2=w1.heap.size:=by omega
     have hne2:¬w1.heap.size=w.heap.size+2:=by omega
     have ho1:bits .or .u32 (f:Int) (f2:Int)=((f ||| f2:Nat):Int):=u32_or_nat f f2 (by have:=HBF.out.1;omega) (by have:=HB1.out.1;omega);have ho2:bits .or .u32 (l2:Int) (l:Int)=((l2 ||| l:Nat):Int):=u32_or_nat l2 l (by have:=HB2.out.1;omega) (by have:=HBL.out.1;omega);have HGF:Hid (BitsOf (f ||| f2) (up ws.length X.first++up (ws++X.words).length Y.first)):=zA (HBF.out.or HB1.out);have HGL:Hid (BitsOf (l2 ||| l) (up (ws++X.words).length Y.last++up ws.length X.last)):=zA (HB2.out.or HBL.out);obtain⟨f3,hf3⟩:∃q,q=f ||| f2:=⟨_,rfl⟩
     obtain⟨l3,hl3⟩:∃q,q=l2 ||| l:=⟨_,rfl⟩
     rw[<- hf3]at ho1 HGF;rw[<- hl3]at ho2 HGL;have hEND:∀(u:World) (a b:Nat),TwoE w4 u (w.heap.size+2) w1.heap.size->BitsOf a (if em=true then up ws.length X.first++up (ws++X.words).length Y.first else up ws.length X.first)->BitsOf b (if ey=true then up ws.length X.last++up (ws++X.words).length Y.last else up (ws++X.words).length Y.last)->u.heap[w.heap.size+2]?=some (.cells #[.int .u32 (a:Int),.int .u32 (b:Int),.bool (em&&ey)] 87 (0,0))->
      (∃(f l:Nat) (G:Nat->Nat) (wu:Value),BitsOf f (up ws.length (foldK seqC true (kids.take (i+1))).first)/\BitsOf l (up ws.length (foldK seqC true (kids.take (i+1))).last)/\MkAt (Plus S w.heap.size (w.heap.size+2+1)) u mb kb (ws++(foldK seqC true (kids.take (i+1))).words) G wu/\FolOf G (ps++upP ws.length (foldK seqC true (kids.take (i+1))).pairs)/\
       u.heap[w.heap.size+2]?=some (.cells #[.int .u32 (f:Int),.int .u32 (l:Int),.bool (foldK seqC true (kids.take (i+1))).empty] 87 (0,0))/\Fr (Plus S w.heap.size (w.heap.size+2)) W1 u):=fun u a b hT ha hb hu=>by
      rw[HSTEP.out,<- HXX.out];refine⟨a,b,_,wv2,?_,?_,?_,HFOL2.out.congr (fun p=>?_),?_,?_⟩
      . refine ha.congr (fun k=>?_);rw[HEM.out,seqC,zG];show _↔k∈up ws.length (if X.empty=true then X.first++up X.words.length Y.first else X.first);split
        . rw[up_append,up_up]
        . rfl
      . refine hb.congr (fun k=>?_);rw[HEY.out,seqC,zG];show _↔k∈up ws.length (if Y.empty=true then X.last++up X.words.length Y.last else up X.words.length Y.last);split
        . rw[up_append,up_up]
        . rw[up_up]
      . rw[show (seqC X Y).words=X.words++Y.words from rfl,<- List.append_assoc];exact hm4.keep (by rw[hT.size];omega) (hT.block mb HMB.out HMN.out) (hT.block kb (by have:=HKB.out;omega) (by have:=HKB.out;omega)) (fun g hg=>hT.block g (fun e=>(hm4.rno g hg).1 (.inr ⟨by omega,by omega⟩)) (by have:=HRB.out g hg;omega))
      . rw[seqC,upP_append,upP_append,upP_upP,cross_up,up_up,zG,<- List.append_assoc,<- List.append_assoc]
      . rw[hu,HEM.out,HEY.out];rfl
      . exact hfr4.trans ⟨hT.os,hT.tape,hT.output,by rw[hT.size];exact zD _,fun k hk=>hT.block k (fun e=>by
         rcases hk with hk|hk
         . have:=HLOW.out k hk;omega
         . omega) (fun e=>by
         rcases hk with hk|hk
         . have:=HLOW.out k hk;omega
         . omega)⟩
     have HEND:=zA hEND;have E4:=zA e4;have HFF:=zA hf3;have HLL:=zA hl3;clear hEND hm4 hfr4 e4 n4 hfol4 hlk4 hf3 hl3;cases em with
     |true=>
      cases ey with
      |true=>
       have hD:=HEND.out ((((((((w4).setCell ⟨w.heap.size+2,0,none⟩ (.int .u32 (f3:Int)))).setCell ⟨w1.heap.size,1,none⟩ (.int .u32 (l3:Int)))).setCell ⟨w.heap.size+2,1,none⟩ (.int .u32 (l3:Int)))).setCell ⟨w.heap.size+2,2,none⟩ (.bool true)) f3 l3 (((((TwoE.refl _ _ _).set1 (.int .u32 (f3:Int))).set2 (.int .u32 (l3:Int))).set1 (.int .u32 (l3:Int))).set1 (.bool true)) (by first|exact HGF.out|simpa using HGF.out) (by first|exact(HGL.out.congr (fun k=>by rw[if_pos rfl,zN,zN,or_comm]))|simpa using (HGL.out.congr (fun k=>by rw[if_pos rfl,zN,zN,or_comm]))) (by exact heap_set2 (heap_set1 ((zM _ _ _ _ (by exact hne)).trans (heap_set0 (E4.out)))));have HD:=zA hD;clear hD HEND;go_wp2;go_roundw
       case rel=>
        obtain⟨f,l,G,wu,h1,h2,h3,h4,h5,h6⟩:=HD.out;exact⟨i+1,f,l,G,wu,by omega,by go_num,h1,h2,h3,h4,h5,h6⟩
       case measure=>simp[intOf];omega
      |false=>
       have hD:=HEND.out ((((((w4).setCell ⟨w.heap.size+2,0,none⟩ (.int .u32 (f3:Int)))).setCell ⟨w.heap.size+2,1,none⟩ (.int .u32 (l2:Int)))).setCell ⟨w.heap.size+2,2,none⟩ (.bool false)) f3 l2 ((((TwoE.refl _ _ _).set1 (.int .u32 (f3:Int))).set1 (.int .u32 (l2:Int))).set1 (.bool false)) (by first|exact HGF.out|simpa using HGF.out) (by first|exact(HB2.out)|simpa using (HB2.out)) (by exact heap_set2 (heap_set1 (heap_set0 (E4.out))));have HD:=zA hD;clear hD HEND;go_wp2;go_roundw
       case rel=>
        obtain⟨f,l,G,wu,h1,h2,h3,h4,h5,h6⟩:=HD.out;exact⟨i+1,f,l,G,wu,by omega,by go_num,h1,h2,h3,h4,h5,h6⟩
       case measure=>simp[intOf];omega
     |false=>
      cases ey with
      |true=>
       have hD:=HEND.out ((((((w4).setCell ⟨w1.heap.size,1,none⟩ (.int .u32 (l3:Int)))).setCell ⟨w.heap.size+2,1,none⟩ (.int .u32 (l3:Int)))).setCell ⟨w.heap.size+2,2,none⟩ (.bool false)) f l3 ((((TwoE.refl _ _ _).set2 (.int .u32 (l3:Int))).set1 (.int .u32 (l3:Int))).set1 (.bool false)) (by first|exact HBF.out|simpa using HBF.out) (by first|exact(HGL.out.congr (fun k=>by rw[if_pos rfl,zN,zN,or_comm]))|simpa using (HGL.out.congr (fun k=>by rw[if_pos rfl,zN,zN,or_comm]))) (by exact heap_set2 (heap_set1 ((zM _ _ _ _ (by exact hne)).trans (E4.out))));have HD:=zA hD;clear hD HEND;go_wp2;go_roundw
       case rel=>
        obtain⟨f,l,G,wu,h1,h2,h3,h4,h5,h6⟩:=HD.out;exact⟨i+1,f,l,G,wu,by omega,by go_num,h1,h2,h3,h4,h5,h6⟩
       case measure=>simp[intOf];omega
      |false=>
       have hD:=HEND.out ((((w4).setCell ⟨w.heap.size+2,1,none⟩ (.int .u32 (l2:Int)))).setCell ⟨w.heap.size+2,2,none⟩ (.bool false)) f l2 (((TwoE.refl _ _ _).set1 (.int .u32 (l2:Int))).set1 (.bool false)) (by first|exact HBF.out|simpa using HBF.out) (by first|exact(HB2.out)|simpa using (HB2.out)) (by exact heap_set2 (heap_set1 (E4.out)));have HD:=zA hD;clear hD HEND;go_wp2;go_roundw
       case rel=>
        obtain⟨f,l,G,wu,h1,h2,h3,h4,h5,h6⟩:=HD.out;exact⟨i+1,f,l,G,wu,by omega,by go_num,h1,h2,h3,h4,h5,h6⟩
       case measure=>simp[intOf];omega)
  . have hltI:¬(i:Int)<(n:Int):=by omega
    have HXR:Hid (X=R):=zA (by rw[HXX.out,HR.out,zK (by rw[<- HN.out];omega)]);have e1:=(HFR.out.block (w.heap.size+1) (.inr ⟨by omega,by omega⟩)).trans HCB1.out;obtain⟨⟨r0,r1,r2⟩,⟨p0,p1,p2⟩⟩:=three_cells e1;obtain⟨⟨s0,s1,s2⟩,_⟩:=three_cells HC2.out;obtain⟨hmF,hfF⟩:=add_end2 (b:=w.heap.size+1) (hi:=w.heap.size+2) (c0:=.int .u32 (f:Int)) (c1:=.int .u32 (l:Int)) (c2:=.bool em) HLOW.out HFW.out HFR.out (HMK.out.sub (fun k hk=>by
     rcases hk with hk|hk
     . exact .inl hk
     . exact .inr ⟨hk.1,by omega⟩) (.inl HSK.out)) HSK.out (by omega) (by omega)
    have hE:AddE S w mb kb ws ps R (.returned (ptV f l em)) (set3P wr (w.heap.size+1) (.int .u32 (f:Int)) (.int .u32 (l:Int)) (.bool em)):=by
     rw[<- HXR.out];exact⟨f,l,G,wu,by rw[HEM.out],HBF.out,HBL.out,hmF,HFO.out,hfF⟩
    obtain⟨⟨z0,z1,z2⟩,_⟩:=three_cells (set3P_at (c0:=.int .u32 (f:Int)) (c1:=.int .u32 (l:Int)) (c2:=.bool em) e1);have HE:=zA hE;have Z0:=zA z0;have Z1:=zA z1;have Z2:=zA z2;clear hE z0 z1 z2 hmF hfF e1;unfold set3P at HE Z0 Z1 Z2;go_wp2;refine bodyPost_ret (v:=ptV f l em) ?_ rfl HE.out;simp[results,Tryz.results56,go_sem,Z0.out,Z1.out,Z2.out]
end Go.Proofs.YtdalcipmpelifaaGreatDoor
