/- BAddS. -/
import Derived.Test.YtkbgmcmcpbegjaaGreatDoorZR23
set_option maxRecDepth 100000
set_option maxHeartbeats 4000000
namespace Go.Proofs.YtkbgmcmcpbegjaaGreatDoor
open Go.RowKit
structure TwoE (w u:World) (b c:Nat):Prop where
 os:u.os=w.os
 tape:u.tape=w.tape
 output:u.output=w.output
 size:u.heap.size=w.heap.size
 block:∀k,k≠b->k≠c->u.heap[k]?=w.heap[k]?
theorem TwoE.refl(w:World)(b c:Nat):TwoE w w b c:=⟨rfl,rfl,rfl,rfl,fun _ _ _=>rfl⟩
theorem TwoE.set1{w u:World}{b c i:Nat}(h:TwoE w u b c)(v:Value):TwoE w (u.setCell ⟨b,i,none⟩ v) b c:=⟨h.os,h.tape,h.output,by simpa using h.size,fun k h1 h2=>(zM u ⟨b,i,none⟩ v k h1).trans (h.block k h1 h2)⟩
theorem TwoE.set2{w u:World}{b c i:Nat}(h:TwoE w u b c)(v:Value):TwoE w (u.setCell ⟨c,i,none⟩ v) b c:=⟨h.os,h.tape,h.output,by simpa using h.size,fun k h1 h2=>(zM u ⟨c,i,none⟩ v k h2).trans (h.block k h1 h2)⟩
theorem jgw{w:World}{b:Nat}{c0 c1 c2 v:Value}{t:TypeId}(h:w.heap[b]?=some (.cells #[c0,c1,c2] t (0,0))):(w.setCell ⟨b,0,none⟩ v).heap[b]?=some (.cells #[v,c1,c2] t (0,0)):=by simp[World.setCell,Array.getElem?_modify,h]
theorem jde{w:World}{b:Nat}{c0 c1 c2 v:Value}{t:TypeId}(h:w.heap[b]?=some (.cells #[c0,c1,c2] t (0,0))):(w.setCell ⟨b,1,none⟩ v).heap[b]?=some (.cells #[c0,v,c2] t (0,0)):=by simp[World.setCell,Array.getElem?_modify,h]
theorem jdn{w:World}{b:Nat}{c0 c1 c2 v:Value}{t:TypeId}(h:w.heap[b]?=some (.cells #[c0,c1,c2] t (0,0))):(w.setCell ⟨b,2,none⟩ v).heap[b]?=some (.cells #[c0,c1,v] t (0,0)):=by simp[World.setCell,Array.getElem?_modify,h]
theorem jiP{k:Int}{wd:Wd}{v:Value}{kids:List Vt}(hx:∀x∈kids,AddF 53 x):AddG 82 ⟨k,wd,v,kids⟩ (jaM seqC true kids) ((kids.map fun x=>jap x.pt).sum):=by
 intro S w mb kb ws ps F wv hS hm hf hv hl;obtain⟨ao,aI,bs⟩:=hv.parts.1.slice;have bE:=hv.parts.2.2.1;dsimp only at bs bE;subst bs;have HX:=zA hx;have ad:=zA hv.parts.1;have bn:=zA hv.parts.2.2.2;dsimp only at ad bn;obtain⟨n,hn⟩:=eX kids.length;rw[<- hn]at ad bE ⊢;have HN:=zA hn;obtain⟨W1,am⟩:=eX (((w.alloc (.cells #[.int .i64 k,.string ⟨wd.toArray⟩,.slice ao n aI] 25)).alloc (.cells #[.int .u32 0,.int .u32 0,.bool false] 103)).alloc (.cells #[.int .u32 0,.int .u32 0,.bool true] 103));have aR:Below w.heap.size w W1:=by rw[am];exact(((zF _ _).alloc (zD _) _).alloc (by simp) _).alloc (by simp;omega) _
 have bv:W1.heap.size=w.heap.size+2+1:=by rw[am];simp
 have aC:W1.heap[w.heap.size+1]?=some (.cells #[.int .u32 0,.int .u32 0,.bool false] 103 (0,0)):=by
  rw[am,heap_alloc_old _ _ (by simp)];exact(by simpa using heap_alloc_new (w.alloc (.cells #[.int .i64 k,.string ⟨wd.toArray⟩,.slice ao n aI] 25)) _)
 have ay:W1.heap[w.heap.size+2]?=some (.cells #[.int .u32 0,.int .u32 0,.bool true] 103 (0,0)):=by
  rw[am];exact(by simpa using heap_alloc_new ((w.alloc (.cells #[.int .i64 k,.string ⟨wd.toArray⟩,.slice ao n aI] 25)).alloc (.cells #[.int .u32 0,.int .u32 0,.bool false] 103)) _)
 have bK:=zA (hm.plus hS aR (w.heap.size+2+1));have ap:Fr S w W1:=jaK hS aR;have bd:Hid (ws.length+(kids.map fun x=>jap x.pt).sum<=24):=zA hl;have bc:=zA hm.sk;have bH:=zA am;have aZ:=zA ap;have aV:=zA aC;have a9:=zA ay;have bN:=zA bv;have ac:=zA hS;have HF:=zA hf;obtain⟨R,hR⟩:=eX (jaM seqC true kids);rw[<- hR];have HR:=zA hR;clear hv hm hf hl hx aR bv aC ay ap am hS hn hR;show Calls Tryz.prog _ #[_,.agg #[.int .i64 k,.string ⟨wd.toArray⟩,.slice ao n aI]] w _;go_enter Tryz.func82,Tryz.ntmps82;go_wp2_with fail;rw[<- bH.out];go_loopw [13] (fun c wr=>∃(i f l:Nat) (G:Nat->Nat) (wu:Value),i<=n/\c=.int .i64 i/\jaA f (up ws.length (jaM seqC true (kids.take i)).first)/\jaA l (up ws.length (jaM seqC true (kids.take i)).last)/\MkAt (Plus S w.heap.size (w.heap.size+2+1)) wr mb kb (ws++(jaM seqC true (kids.take i)).words) G wu/\jda G (ps++upP ws.length (jaM seqC true (kids.take i)).pairs)/\
  wr.heap[w.heap.size+2]?=some (.cells #[.int .u32 (f:Int),.int .u32 (l:Int),.bool (jaM seqC true (kids.take i)).empty] 103 (0,0))/\Fr (Plus S w.heap.size (w.heap.size+2)) W1 wr) (fun c _=>n-(intOf c).toNat)
 case atStart=>
  refine⟨0,0,0,F,wv,zO _,rfl,?_,?_,?_,?_,?_,Fr.refl _ _⟩
  . exact jaA.none.congr (fun k=>by simp[jaM,prt0,up])
  . exact jaA.none.congr (fun k=>by simp[jaM,prt0,up])
  . simpa[jaM,prt0]using bK.out
  . exact HF.out.congr (fun p=>by simp[jaM,prt0,upP])
  . exact a9.out
 case round=>
  obtain⟨i,f,l,G,wu,hi,rfl,aT,aW,aN,aS,aG,a7⟩:=hrel;obtain⟨X,hX⟩:=eX (jaM seqC true (kids.take i));rw[<- hX]at aT aW aN aS aG;have br:X.words.length=((kids.take i).map fun x=>jap x.pt).sum:=by rw[hX];exact jex (fun _ _=>rfl) _
  obtain⟨em,aU⟩:=eX X.empty;rw[<- aU]at aG;have a1:=zA aU;have bm:=zA hX;have ak:=zA aT;have aD:=zA aW;have bu:=zA aN;have bo:=zA aS;have aQ:=zA aG;have a8:=zA a7;have bI:=zA br;have bx:Hid (Fr S w wr):=zA (aZ.out.trans (a7.sub (fun k hk=>.inl hk)));clear hX aT aW aN aS aG a7 br aU;by_cases hlt:i<n
  . have aO:(i:Int)<(n:Int):=by omega
    obtain⟨x,hx⟩:∃x,kids[i]?=some x:=⟨_,zB (by rw[<- HN.out];exact hlt)⟩
    have a3:=zC hx;obtain⟨g,off,rfl,hgS,hgl,ah⟩:=(ad.out.fr bx.out).get hx;obtain⟨q0,q1,q2⟩:=getN ah;have aF:=(bn.out x a3).fr bx.out;obtain⟨xa,xc,bC⟩:=aF.parts.1.slice;have aX:=jez hx;have ae:=jfA (c:=seqC) (e:=true) hx;have aw:=HX.out x a3;obtain⟨Y,hY⟩:=eX (jay x.pt);have bQ:Y.words.length=jap x.pt:=by rw[hY];exact jci _
    have a5:=aF.parts.2.2.1;have aP:w.heap.size+2<wr.heap.size:=lt_of_block aQ.out;have aJ:Low (Plus S w.heap.size (w.heap.size+2+1)) wr:=fun k hk=>by
     rcases hk with hk|hk
     . have:=ac.out k hk;omega
     . omega
    obtain⟨ok,aK⟩:=eX (Obj.cells #[.int .i64 x.kind,.string ⟨x.word.toArray⟩,x.val] 25);have hC:=aw (Plus S w.heap.size (w.heap.size+2+1)) (wr.alloc ok) mb kb (ws++X.words) (ps++upP ws.length X.pairs) G wu (fun k hk=>by have:=aJ k hk;simp;omega) (bu.out.below aJ ((zF _ _).alloc (zD _) ok)) bo.out ((aF.below ((zF _ _).alloc (zD _) ok)).sub (fun b hb _=>.inl hb)) (by
     have h1:=bI.out;have h2:=bd.out;rw[zG];omega)
    rw[<- hY]at hC ae;obtain⟨kk,kw,kv,kks⟩:=x;dsimp only at bC q0 q1 q2 aK a5;subst bC;have C:=zA hC;rw[aK]at C;have HOK:=zA aK;have aB:=zA ae;have bL:=zA aJ;clear hx a3 ah aF aX ae aw hY bQ hC aK aJ;go_wp2_with fail;refine C.out.mono ?_;rintro e w1 ⟨f2,l2,F2,bq,rfl,aH,bz,aA,a0,af⟩;have e2:=(af.block (w.heap.size+2) (.inr ⟨by omega,by omega⟩)).trans ((heap_alloc_old _ _ aP).trans aQ.out);have a2:w.heap.size+2<w1.heap.size:=lt_of_block e2;obtain⟨ey,a4⟩:=eX Y.empty;rw[<- a4];obtain⟨o3,bg⟩:=eX (Obj.cells #[.int .u32 (f2:Int),.int .u32 (l2:Int),.bool ey] 103);have aj:Low (Plus S w.heap.size (w.heap.size+2+1)) w1:=fun k hk=>by
     have h1:=af.size;have h2:=bL.out k hk;simp at h1;omega
    have ba:=(aA.below aj ((zF _ _).alloc (zD _) o3)).drew;have bw:(w1.alloc o3).drew.heap[w1.heap.size]?=some o3:=heap_alloc_new w1 o3;have e3:(w1.alloc o3).drew.heap[w.heap.size+2]?=some (.cells #[.int .u32 (f:Int),.int .u32 (l:Int),.bool em] 103 (0,0)):=by
     show (w1.alloc o3).heap[w.heap.size+2]?=_;rw[heap_alloc_old _ _ a2];exact e2
    have az:mb≠w1.heap.size:=by have:=aA.lt;omega
    have an:mb≠w.heap.size+2:=fun e=>aA.no (.inr ⟨by omega,by omega⟩)
    have CL:=zA (jhX ba.fol (fun i hi=>(a0 i hi).1) l f2 aD.out.1 aH.1);obtain⟨⟨t0,t1,t2⟩,_⟩:=jag e3;have ax:=zA ((a0.link aD.out aH));have bb:Hid (Fr (Plus S w.heap.size (w.heap.size+2)) W1 (w1.alloc o3).drew):=zA (by
     have ag:Low (Plus S w.heap.size (w.heap.size+2)) W1:=fun k hk=>by
      rcases hk with hk|hk
      . have:=ac.out k hk;have:=aZ.out.size;omega
      . have:=bN.out;omega
     refine(Fr.alloc ((a8.out.alloc ag _).trans (af.sub (fun k hk=>?_))) ag o3).drew;rcases hk with hk|hk
     . exact .inl hk
     . exact .inr ⟨hk.1,by omega⟩)
    have bt:=zA ba;have bO:Hid (∀g,bq.ownBlock=some g->g<w1.heap.size):=zA (fun g hg=>(aA.row.lt g hg).2);have bJ:=zA bw;have bl:=zA e3;have bf:=zA az;have bk:=zA an;have aL:=zA bg;have bp:=zA aH;have al:=zA bz;have bA:=zA a4;rw[aL.out]at CL;have av:kb<w.heap.size:=ac.out _ bc.out;have bj:=zA av;clear a4 bg ba bw e3 az an a0 aA af aj e2 C av aH bz t0 t1 t2;obtain⟨⟨t0,t1,t2⟩,⟨y0,y1,y2⟩⟩:=jag bl.out;rw[aL.out]at t0 t1 t2;have bG:(w1.alloc (.cells #[.int .u32 (f2:Int),.int .u32 (l2:Int),.bool ey] 103)).cell? ⟨w.heap.size+2,0,none⟩=some (.int .u32 (f:Int)):=t0;have bB:(w1.alloc (.cells #[.int .u32 (f2:Int),.int .u32 (l2:Int),.bool ey] 103)).cell? ⟨w.heap.size+2,1,none⟩=some (.int .u32 (l:Int)):=t1;have s1':w1.cell? ⟨w.heap.size+2,1,none⟩=some (.int .u32 (l:Int)):=by rw[<- bB,World.cell?_alloc_old _ _ _ (by simp;omega)]
    clear t0 t1 t2 y0 y1 y2 bG bB;go_wp2_with fail;go_region_law (go_simp;refine CL.out.mono ?_;rintro e w4 ⟨rfl,ai,ab⟩);all_goals (
     rw[<- aL.out]at ab;have aM:=bt.out.link ab ai;have aq:=bb.out.link ab (fun h=>bt.out.no (by
      rcases h with h|h
      . exact .inl h
      . exact .inr ⟨h.1,by omega⟩))
     have e4:=(ab.block (w.heap.size+2) bk.out.symm).trans bl.out;have n4:=(ab.block w1.heap.size bf.out.symm).trans bJ.out;rw[aL.out]at n4;obtain⟨⟨r0,r1,r2⟩,⟨p0,p1,p2⟩⟩:=jag e4;obtain⟨⟨m0,m1,m2⟩,⟨x0,x1,x2⟩⟩:=jag n4;have bD:¬w.heap.size+2=w1.heap.size:=by omega
     have hne2:¬w1.heap.size=w.heap.size+2:=by omega
     have bF:bits .or .u32 (f:Int) (f2:Int)=((f ||| f2:Nat):Int):=u32_or_nat f f2 (by have:=ak.out.1;omega) (by have:=bp.out.1;omega);have bP:bits .or .u32 (l2:Int) (l:Int)=((l2 ||| l:Nat):Int):=u32_or_nat l2 l (by have:=al.out.1;omega) (by have:=aD.out.1;omega);have au:Hid (jaA (f ||| f2) (up ws.length X.first++up (ws++X.words).length Y.first)):=zA (ak.out.or bp.out);have ar:Hid (jaA (l2 ||| l) (up (ws++X.words).length Y.last++up ws.length X.last)):=zA (al.out.or aD.out);obtain⟨f3,aY⟩:=eX (f ||| f2);obtain⟨l3,a6⟩:=eX (l2 ||| l);rw[<- aY]at bF au;rw[<- a6]at bP ar;have aE:∀(u:World) (a b:Nat),TwoE w4 u (w.heap.size+2) w1.heap.size->jaA a (if em=true then up ws.length X.first++up (ws++X.words).length Y.first else up ws.length X.first)->jaA b (if ey=true then up ws.length X.last++up (ws++X.words).length Y.last else up (ws++X.words).length Y.last)->u.heap[w.heap.size+2]?=some (.cells #[.int .u32 (a:Int),.int .u32 (b:Int),.bool (em&&ey)] 103 (0,0))->
      (∃(f l:Nat) (G:Nat->Nat) (wu:Value),jaA f (up ws.length (jaM seqC true (kids.take (i+1))).first)/\jaA l (up ws.length (jaM seqC true (kids.take (i+1))).last)/\MkAt (Plus S w.heap.size (w.heap.size+2+1)) u mb kb (ws++(jaM seqC true (kids.take (i+1))).words) G wu/\jda G (ps++upP ws.length (jaM seqC true (kids.take (i+1))).pairs)/\
       u.heap[w.heap.size+2]?=some (.cells #[.int .u32 (f:Int),.int .u32 (l:Int),.bool (jaM seqC true (kids.take (i+1))).empty] 103 (0,0))/\Fr (Plus S w.heap.size (w.heap.size+2)) W1 u):=fun u a b hT ha hb hu=>by
      rw[aB.out,<- bm.out];refine⟨a,b,_,bq,?_,?_,?_,ax.out.congr (fun p=>?_),?_,?_⟩
      . refine ha.congr (fun k=>?_);rw[a1.out,seqC,zG];show _↔k∈up ws.length (if X.empty=true then X.first++up X.words.length Y.first else X.first);split
        . rw[jdl,jiR]
        . rfl
      . refine hb.congr (fun k=>?_);rw[bA.out,seqC,zG];show _↔k∈up ws.length (if Y.empty=true then X.last++up X.words.length Y.last else up X.words.length Y.last);split
        . rw[jdl,jiR]
        . rw[jiR]
      . rw[show (seqC X Y).words=X.words++Y.words from rfl,<- List.append_assoc];exact aM.keep (by rw[hT.size];omega) (hT.block mb bk.out bf.out) (hT.block kb (by have:=bj.out;omega) (by have:=bj.out;omega)) (fun g hg=>hT.block g (fun e=>(aM.rno g hg).1 (.inr ⟨by omega,by omega⟩)) (by have:=bO.out g hg;omega))
      . rw[seqC,jcy,jcy,jjp,jh4,jiR,zG,<- List.append_assoc,<- List.append_assoc]
      . rw[hu,a1.out,bA.out];rfl
      . exact aq.trans ⟨hT.os,hT.tape,hT.output,by rw[hT.size];exact zD _,fun k hk=>hT.block k (fun e=>by
         rcases hk with hk|hk
         . have:=ac.out k hk;omega
         . omega) (fun e=>by
         rcases hk with hk|hk
         . have:=ac.out k hk;omega
         . omega)⟩
     have aa:=zA aE;have E4:=zA e4;have HFF:=zA aY;have HLL:=zA a6;clear aE aM aq e4 n4 ai ab aY a6;cases em with
     |true=>
      cases ey with
      |true=>
       have hD:=aa.out ((((((((w4).setCell ⟨w.heap.size+2,0,none⟩ (.int .u32 (f3:Int)))).setCell ⟨w1.heap.size,1,none⟩ (.int .u32 (l3:Int)))).setCell ⟨w.heap.size+2,1,none⟩ (.int .u32 (l3:Int)))).setCell ⟨w.heap.size+2,2,none⟩ (.bool true)) f3 l3 (((((TwoE.refl _ _ _).set1 (.int .u32 (f3:Int))).set2 (.int .u32 (l3:Int))).set1 (.int .u32 (l3:Int))).set1 (.bool true)) (by first|exact au.out|simpa using au.out) (by first|exact(ar.out.congr (fun k=>by rw[if_pos rfl,zL,zL,or_comm]))|simpa using (ar.out.congr (fun k=>by rw[if_pos rfl,zL,zL,or_comm]))) (by exact jdn (jde ((zM _ _ _ _ (by exact bD)).trans (jgw (E4.out)))));have HD:=zA hD;clear hD aa;go_wp2;go_roundw
       case rel=>
        obtain⟨f,l,G,wu,h1,h2,h3,h4,h5,h6⟩:=HD.out;exact⟨i+1,f,l,G,wu,by omega,by go_num,h1,h2,h3,h4,h5,h6⟩
       case measure=>simp[intOf];omega
      |false=>
       have hD:=aa.out ((((((w4).setCell ⟨w.heap.size+2,0,none⟩ (.int .u32 (f3:Int)))).setCell ⟨w.heap.size+2,1,none⟩ (.int .u32 (l2:Int)))).setCell ⟨w.heap.size+2,2,none⟩ (.bool false)) f3 l2 ((((TwoE.refl _ _ _).set1 (.int .u32 (f3:Int))).set1 (.int .u32 (l2:Int))).set1 (.bool false)) (by first|exact au.out|simpa using au.out) (by first|exact(al.out)|simpa using (al.out)) (by exact jdn (jde (jgw (E4.out))));have HD:=zA hD;clear hD aa;go_wp2;go_roundw
       case rel=>
        obtain⟨f,l,G,wu,h1,h2,h3,h4,h5,h6⟩:=HD.out;exact⟨i+1,f,l,G,wu,by omega,by go_num,h1,h2,h3,h4,h5,h6⟩
       case measure=>simp[intOf];omega
     |false=>
      cases ey with
      |true=>
       have hD:=aa.out ((((((w4).setCell ⟨w1.heap.size,1,none⟩ (.int .u32 (l3:Int)))).setCell ⟨w.heap.size+2,1,none⟩ (.int .u32 (l3:Int)))).setCell ⟨w.heap.size+2,2,none⟩ (.bool false)) f l3 ((((TwoE.refl _ _ _).set2 (.int .u32 (l3:Int))).set1 (.int .u32 (l3:Int))).set1 (.bool false)) (by first|exact ak.out|simpa using ak.out) (by first|exact(ar.out.congr (fun k=>by rw[if_pos rfl,zL,zL,or_comm]))|simpa using (ar.out.congr (fun k=>by rw[if_pos rfl,zL,zL,or_comm]))) (by exact jdn (jde ((zM _ _ _ _ (by exact bD)).trans (E4.out))));have HD:=zA hD;clear hD aa;go_wp2;go_roundw
       case rel=>
        obtain⟨f,l,G,wu,h1,h2,h3,h4,h5,h6⟩:=HD.out;exact⟨i+1,f,l,G,wu,by omega,by go_num,h1,h2,h3,h4,h5,h6⟩
       case measure=>simp[intOf];omega
      |false=>
       have hD:=aa.out ((((w4).setCell ⟨w.heap.size+2,1,none⟩ (.int .u32 (l2:Int)))).setCell ⟨w.heap.size+2,2,none⟩ (.bool false)) f l2 (((TwoE.refl _ _ _).set1 (.int .u32 (l2:Int))).set1 (.bool false)) (by first|exact ak.out|simpa using ak.out) (by first|exact(al.out)|simpa using (al.out)) (by exact jdn (jde (E4.out)));have HD:=zA hD;clear hD aa;go_wp2;go_roundw
       case rel=>
        obtain⟨f,l,G,wu,h1,h2,h3,h4,h5,h6⟩:=HD.out;exact⟨i+1,f,l,G,wu,by omega,by go_num,h1,h2,h3,h4,h5,h6⟩
       case measure=>simp[intOf];omega)
  . have aO:¬(i:Int)<(n:Int):=by omega
    have bM:Hid (X=R):=zA (by rw[bm.out,HR.out,zJ (by rw[<- HN.out];omega)]);have e1:=(a8.out.block (w.heap.size+1) (.inr ⟨by omega,by omega⟩)).trans aV.out;obtain⟨⟨r0,r1,r2⟩,⟨p0,p1,p2⟩⟩:=jag e1;obtain⟨⟨s0,s1,s2⟩,_⟩:=jag aQ.out;obtain⟨bh,bi⟩:=jbp (b:=w.heap.size+1) (hi:=w.heap.size+2) (c0:=.int .u32 (f:Int)) (c1:=.int .u32 (l:Int)) (c2:=.bool em) ac.out aZ.out a8.out (bu.out.sub (fun k hk=>by
     rcases hk with hk|hk
     . exact .inl hk
     . exact .inr ⟨hk.1,by omega⟩) (.inl bc.out)) bc.out (by omega) (by omega)
    have hE:AddE S w mb kb ws ps R (.returned (ptV f l em)) (set3P wr (w.heap.size+1) (.int .u32 (f:Int)) (.int .u32 (l:Int)) (.bool em)):=by
     rw[<- bM.out];exact⟨f,l,G,wu,by rw[a1.out],ak.out,aD.out,bh,bo.out,bi⟩
    obtain⟨⟨z0,z1,z2⟩,_⟩:=jag (ja8 (c0:=.int .u32 (f:Int)) (c1:=.int .u32 (l:Int)) (c2:=.bool em) e1);have HE:=zA hE;have Z0:=zA z0;have Z1:=zA z1;have Z2:=zA z2;clear hE z0 z1 z2 bh bi e1;unfold set3P at HE Z0 Z1 Z2;go_wp2;refine bodyPost_ret (v:=ptV f l em) ?_ rfl HE.out;simp[results,Tryz.results82,go_sem,Z0.out,Z1.out,Z2.out]
end Go.Proofs.YtkbgmcmcpbegjaaGreatDoor
