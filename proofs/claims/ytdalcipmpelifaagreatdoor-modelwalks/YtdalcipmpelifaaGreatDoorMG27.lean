/- GPairs1. -/
import Derived.Test.YtdalcipmpelifaaGreatDoorMG26
import Derived.Test.YtdalcipmpelifaaGreatDoorMG15
set_option maxRecDepth 100000
namespace Go.Proofs.YtdalcipmpelifaaGreatDoor
open Go.RowKit Go.Shelf
theorem RowO.keep{B:Nat}{w w':World}{u:Value}{gs:List (Nat×Rw)}(h:RowO B w u gs)(h1:∀g,u.ownBlock=some g->w'.heap[g]?=w.heap[g]?)(h2:∀p∈gs,w'.heap[p.1]?=w.heap[p.1]?):RowO B w' u gs:=
 ⟨owns_key h.row (fun g _ hg ho=>(h1 g hg).trans ho),fun p hp=>(h2 p hp).trans (h.blk p hp)⟩
structure PInv (w0:World) (S0:Nat->Prop) (vl:Nat) (V:List Wd) (mt:Mt) (i:Nat) (S:Nat->Prop) (w:World):Prop where
 sub:∀k,S0 k->S k
 fr:Fr S0 w0 w
 svl:S vl
 ex:∃lv gs,w.heap[vl]?=some (.cells #[lv] 33 (0,0))/\RowO w0.heap.size w lv gs/\(∀g,lv.ownBlock=some g->S g)/\(∀p∈gs,S p.1)/\gs.map (·.2)=pairsTo V mt i
theorem PInv.keep{w0:World}{S0:Nat->Prop}{vl:Nat}{V:List Wd}{mt:Mt}{i:Nat}{S:Nat->Prop}{w w':World}(h:PInv w0 S0 vl V mt i S w)(hf:Fr S w w'):PInv w0 S0 vl V mt i S w':=by
 obtain⟨lv,gs,h1,h2,h3,h4,h5⟩:=h.ex;exact⟨h.sub,h.fr.trans (hf.sub h.sub),h.svl,lv,gs,(hf.block vl h.svl).trans h1,h2.keep (fun g hg=>hf.block g (h3 g hg)) (fun p hp=>hf.block p.1 (h4 p hp)),h3,h4,h5⟩
theorem nodup_len:∀(n:Nat) {l:List Nat},l.Nodup->(∀v∈l,v<n)->l.length<=n
 |0,[],_,_=>zD _
 |0,v::l,_,h=>absurd (h v (zL ..)) (Nat.not_lt_zero _)
 |n+1,l,h1,h2=>by
  have h3:=nodup_len n (h1.erase n) (fun v hv=>by
   have h4:=h2 v (List.mem_of_mem_erase hv);have h5:v≠n:=fun e=>by
    subst e;exact(List.Nodup.not_mem_erase h1) hv
   omega)
  rw[List.length_erase]at h3;split at h3<;>omega
theorem ordN:Ords (fun(a b:Nat)=>decide (a<b)):=⟨fun a=>by simp,fun a b c h1 h2=>by simp at *;omega,fun a b h1 h2=>by simp at *;omega⟩
theorem ends_row{d:Sd}{s:Ss}(hr:Rest d s){i:Nat}(hd:∀v p,(s.came.getD v 0).testBit p=true↔d.Rch [i] v p){P:Nat->Bool}(hP:∀j,j<d.n->(P j=true↔d.leads [i] j)):endsL d s=(List.range d.n).filter P:=by
 obtain⟨h1,h2⟩:=endsL_spec hr;refine riseL_ext ordN (h1.imp (fun h=>yC h)) ((List.pairwise_lt_range (n:=d.n)).filter _ |>.imp (fun h=>yC h)) (fun t=>?_);rw[h2,zV,yA];constructor
 . intro h;obtain⟨p,hp1,hp2⟩:=and_some h;have hlt:t<d.n:=hr.slt t (hr.sn t (fun e=>by rw[e]at hp1;simp at hp1));exact⟨hlt,(hP t hlt).2 ⟨p,(hd t p).1 hp1,hp2⟩⟩
 . rintro⟨hlt,h⟩ e;obtain⟨p,hp1,hp2⟩:=(hP t hlt).1 h;have:=and_none e p ((hd t p).2 hp1);rw[hp2]at this;cases this
set_option maxHeartbeats 32000000 in
theorem pairs1_any{w0:World}{S0:Nat->Prop}{vs vl vg gb sb:Nat}{V:List Wd}{mt:Mt}{L:List (Value×List Nat)}{d:Sd}{E:List Eg}{mb:Nat}{nv ev:Value}{D:DataW Unit}{c:Nat}
 (hlow:Low S0 w0) (hvl:¬S0 vl) (hs:w0.heap[vs]?=some (.cells #[.pointer (some ⟨sb,0,none⟩)] 64 (0,0))) (hvs:S0 vs) (hg:w0.heap[vg]?=some (.cells #[.pointer (some ⟨gb,0,none⟩)] 62 (0,0))) (hvg:S0 vg)
 (hG:GrS S0 w0 gb V E mb nv ev D c) (hn:d.n=V.length) (hVl:V.length<=10000) (hL:L.map (·.2)=(List.range V.length).map (fun x=>[x])) (hmt:∀i j,i<d.n->j<d.n->(mt i j=true↔d.leads [i] j)) (hkp:∀k,d.kp k->S0 k):
 FoundC 24 #[.pointer (some ⟨vs,0,none⟩),.pointer (some ⟨vl,0,none⟩),.pointer (some ⟨vg,0,none⟩)] sb d L (PInv w0 S0 vl V mt):=by
 intro i r S w s m hri hSl hsr hre hdo hinv;obtain⟨i0,hi0,hz0,hz1,hz2⟩:=info_partsG infoRw;have hin:r.2=[i]/\i<V.length:=by
  have h1:(L.map (·.2))[i]?=some r.2:=by rw[zI,hri];rfl
  rw[hL,zI]at h1;by_cases hi:i<V.length
  . rw[yO hi]at h1;simp at h1;exact⟨h1.symm,hi⟩
  . rw[yB (by simp;omega)]at h1;simp at h1
 obtain⟨hr2,hiV⟩:=hin;rw[hr2]at hdo;obtain⟨T,hT⟩:∃T,T=(List.range V.length).filter (mt i):=⟨_,rfl⟩
 have hends:endsL d s=T:=by
  rw[hT,<- hn];exact ends_row hre hdo (fun j hj=>hmt i j (by omega) hj)
 have hTl:T.length<=10000:=by
  rw[hT];have:=yD (mt i) (List.range V.length);rw[List.length_range]at this;omega
 have hTv:∀j∈T,j<V.length:=fun j hj=>by
  rw[hT,zV,yA]at hj;exact hj.1
 have HROWM:Hid (T.map (fun j=>[V.getD i [],V.getD j []])=pairRow V mt i V.length):=zA (by rw[hT];rfl);have hsl:s.seen.length<=1000000:=by
  have h1:=hre.nd;have h2:=nodup_len d.n h1 hre.slt;omega
 obtain⟨lv,gs,e1,e2,e3,e4,e5⟩:=hinv.ex;have C:=zA (ends_any hsr hre hsl);rw[hends]at C;have HSR:=zA hsr;have HINV:=zA hinv;have HSL:=zA hSl;have HVLB:=zA e1;have HRO:=zA e2;have HLVS:=zA e3;have HGSS:=zA e4;have HGSM:=zA e5;have HTV:=zA hTv;obtain⟨X,hX⟩:∃X,X=V.getD i []:=⟨_,rfl⟩
 have hXi:V[i]?=some X:=by rw[hX,List.getD,zB hiV];rfl
 obtain⟨na,ncap,hnv⟩:=hG.names.slice;obtain⟨nV,hnV⟩:∃n,n=V.length:=⟨_,rfl⟩
 rw[<- hnV]at hnv;have hsz0:w0.heap.size<=w.heap.size:=hinv.fr.size;have hG2:=hG.fr hinv.fr;have HGW:=zA hG2;have HS0:Hid (∀u:World,(∀b,S0 b->u.heap[b]?=w.heap[b]?)->u.cell? ⟨vs,0,none⟩=some (.pointer (some ⟨sb,0,none⟩))/\u.cell? ⟨vg,0,none⟩=some (.pointer (some ⟨gb,0,none⟩))/\u.cell? ⟨gb,0,none⟩=some (.slice na nV ncap)/\∀j y,V[j]?=some y->∃g off,na=some ⟨g,off,none⟩/\u.cell? ⟨g,off+j,none⟩=some (.string ⟨y.toArray⟩)):=zA (fun u hu=>by
  have h1:=(hu vs hvs).trans ((hinv.fr.block vs hvs).trans hs);have h2:=(hu vg hvg).trans ((hinv.fr.block vg hvg).trans hg);have h3:=(hu gb hG2.sg).trans hG2.blk;obtain⟨⟨h4,_,_⟩,_⟩:=cells3G h3;rw[hnv]at h4;refine⟨by simp[World.cell?,h1],by simp[World.cell?,h2],h4,fun j y hy=>?_⟩;have h5:=hG2.names;rw[hnv]at h5;obtain⟨g,off,e,hsg,_,hc⟩:=h5.get hy;have h6:=hc 0 _ rfl;rw[yK,yF]at h6;exact⟨g,off,e,by simpa only[World.cell?,hu g hsg]using h6⟩)
 have HKP:=zA hkp;have HLOW:=zA hlow;have HVL:=zA hvl;have hvlw:vl<w.heap.size:=lt_of_block e1;have qs:=(HS0.out w (fun _ _=>rfl)).1;have hiI:(i:Int)<(nV:Int):=by omega
 obtain⟨nt,hnt⟩:∃n,n=T.length:=⟨_,rfl⟩
 rw[<- hnt]at hTl C;have HNT:=zA hnt;have HX:=zA hX;have HXI:=zA hXi;have hgl:gs.length<=100000000:=by
  have h1:=pairsTo_len V mt i;rw[<- e5,zH]at h1;have h2:i*V.length<=10000*10000:=Nat.mul_le_mul (by omega) hVl;omega
 have HIV:=zA hiV;have HNV:=zA hnV;clear hri hSl hsr hre hdo hinv hr2 hends hTv e1 e2 e3 e4 e5 hT hX hXi hnv hG2 hG hs hg hvs hvg hL hmt hkp hlow hvl hn hVl hnt hnV hiV;show Calls Tryz.prog _ #[.int .i64 (i:Int),.pointer (some ⟨vs,0,none⟩),.pointer (some ⟨vl,0,none⟩),.pointer (some ⟨vg,0,none⟩)] w _;go_enter Tryz.func24,Tryz.ntmps24;go_wp2_with fail;refine C.out.mono ?_;rintro e w1 ⟨tv,rfl,hown,hb1⟩;obtain⟨ta,tc,htv⟩:=own_slice hown;subst htv;have HOW:=zA hown;have HB1:=zA hb1;have HBS:=zA hb1.size;obtain⟨S1,hS1⟩:∃S1:Nat->Prop,S1=fun b=>b<w1.heap.size/\b≠vl/\lv.ownBlock≠some b:=⟨_,rfl⟩
 have HS1:Hid (∀b,S1 b↔(b<w1.heap.size/\b≠vl/\lv.ownBlock≠some b)):=zA (fun b=>by rw[hS1]);have HS01:Hid (∀b,S0 b->S1 b/\w1.heap[b]?=w.heap[b]?):=zA (fun b hb=>by
  have h1:=HLOW.out b hb;refine⟨(HS1.out b).2 ⟨by have:=HBS.out;omega,fun e=>HVL.out (e▸hb),fun e=>?_⟩,HB1.out.block b (by omega)⟩;have:=(HRO.out.row.lt b e).1;omega)
 clear hown hb1 hS1 qs;go_wp2_with fail;go_loopw [10] (fun c wr=>∃(k:Nat) (lv':Value) (gs':List (Nat×Rw)),k<=nt/\c=.int .i64 k/\Hid (wr.heap[vl]?=some (.cells #[lv'] 33 (0,0)))/\Hid (RowO w0.heap.size wr lv' gs')/\Hid (gs'.map (·.2)=pairsTo V mt i++(T.take k).map (fun j=>[X,V.getD j []]))/\Hid (Fr S1 w1 wr)/\Hid (∀g,lv'.ownBlock=some g->lv.ownBlock=some g\/w1.heap.size<=g)/\Hid (∀p∈gs',p∈gs\/w1.heap.size<=p.1)/\Hid (gs'.length=gs.length+k)) (fun c _=>nt-(intOf c).toNat)
 case atStart=>exact⟨0,lv,gs,zS _,rfl,zA ((HB1.out.block vl hvlw).trans HVLB.out),zA (HRO.out.below HB1.out),zA (by rw[HGSM.out];simp),zA (Fr.refl _ _),zA (fun g hg=>.inl hg),zA (fun p hp=>.inl hp),zA rfl⟩
 case round=>
  obtain⟨k,lx,gx,hk,rfl,HVB,HR,HGM,HFR,HLX,HGX,HGL⟩:=hrel;obtain⟨wy,hwy⟩:∃wy,wy=wr:=⟨_,rfl⟩
  subst hwy;have hwk:∀b,S0 b->wy.heap[b]?=w.heap[b]?:=fun b hb=>(HFR.out.block b (HS01.out b hb).1).trans (HS01.out b hb).2
  obtain⟨_,p1,p2,p3⟩:=HS0.out wy hwk;by_cases hlt:k<nt
  . have hltI:(k:Int)<(nt:Int):=by omega
    obtain⟨y,hy⟩:∃y,T[k]?=some y:=⟨_,zB (by rw[<- HNT.out];exact hlt)⟩
    have hyV:=HTV.out y (zC hy);obtain⟨Y,hY⟩:∃Y,Y=V.getD y []:=⟨_,rfl⟩
    have hYi:V[y]?=some Y:=by rw[hY,List.getD,zB hyV];rfl
    have hyI:(y:Int)<(nV:Int):=by have:=HNV.out;omega
    obtain⟨tg,toff,hta,q0⟩:∃g off,ta=some ⟨g,off,none⟩/\wy.cell? ⟨g,off+k,none⟩=some (.int .i64 (y:Int)):=by
     have h1:=own_nat (by have:=HOW.out;rw[HNT.out]at this;exact this);obtain⟨g,off,ea,hob,hgl2,hc⟩:=h1.get hy;have e5:=getI hc;rw[yK]at e5;have hgB:=(HOW.out.lt g (by rw[HNT.out];exact hob)).1;have hs1:S1 g:=(HS1.out g).2 ⟨hgl2,by omega,fun e=>by have:=(HRO.out.row.lt g e).2;omega⟩;exact⟨g,off,ea,by simpa only[World.cell?,HFR.out.block g hs1]using e5⟩
    subst hta;obtain⟨ng,noff,hna,p4⟩:=p3 i X HXI.out;obtain⟨ng2,noff2,hna2,p5⟩:=p3 y Y hYi;rw[hna]at hna2;injection hna2 with hna2;injection hna2 with e1 e2;subst e1 e2;have HVN:Hid (∀b,S0 b->b<wy.heap.size):=zA (fun b hb=>by
     have:=HLOW.out b hb;have:=HFR.out.size;have:=HBS.out;omega)
    have hsz1:w1.heap.size<=wy.heap.size:=HFR.out.size;have HZ:Hid (w0.heap.size<=wy.heap.size):=zA (by have:=HBS.out;omega);have HYY:=zA hY;have HTK:Hid ((T.take (k+1)).map (fun j=>[X,V.getD j []])=(T.take k).map (fun j=>[X,V.getD j []])++[[X,Y]]):=zA (by
     rw[zT,hy,yR,yP,hY];rfl)
    obtain⟨ua,uc,hlx⟩:=own_slice HR.out.row;obtain⟨nu,hnu⟩:∃n,n=gx.length:=⟨_,rfl⟩
    rw[<- hnu]at hlx;subst hlx;have hnul:nu<=100010000:=by rw[hnu,HGL.out];omega
    have HNU:=zA hnu;have hcv:wy.cell? ⟨vl,0,none⟩=some (.slice ua nu uc)/\wy.frozen? ⟨vl,0,none⟩=false:=by
     have:=HVB.out;simp[World.cell?,World.frozen?,this]
    subst hna;have hcz:∀u,Below wy.heap.size wy u->u.cell? ⟨vl,0,none⟩=some (.slice ua nu uc):=fun u hu=>(hu.cell (p:=⟨vl,0,none⟩) (lt_of_block HVB.out)).trans hcv.1
    have KS:Hid (∀u,Below wy.heap.size wy u->u.cell? ⟨vg,0,none⟩=some (.pointer (some ⟨gb,0,none⟩))/\u.cell? ⟨gb,0,none⟩=some (.slice (some ⟨ng,noff,none⟩) nV ncap)/\u.cell? ⟨ng,noff+i,none⟩=some (.string ⟨X.toArray⟩)/\u.cell? ⟨ng,noff+y,none⟩=some (.string ⟨Y.toArray⟩)):=zA (fun u hu=>by
     have l1:=World.block_lt_of_cell? _ _ p1;have l2:=World.block_lt_of_cell? _ _ p2;have l3:=World.block_lt_of_cell? _ _ p4;exact⟨(hu.cell (p:=⟨vg,0,none⟩) l1).trans p1,(hu.cell (p:=⟨gb,0,none⟩) l2).trans p2,(hu.cell (p:=⟨ng,noff+i,none⟩) l3).trans p4,(hu.cell (p:=⟨ng,noff+y,none⟩) l3).trans p5⟩)
    have HA0:Hid (Below wy.heap.size wy wy.drew):=zA (zF _ _).drew;have HA1:Hid (Below wy.heap.size wy (wy.drew.alloc (.cells #[.string ⟨X.toArray⟩,.string ⟨Y.toArray⟩] 9))):=zA ((zF _ _).drew.alloc (zD _) _);have HA2:Hid (Below wy.heap.size wy ((wy.drew.alloc (.cells #[.string ⟨X.toArray⟩,.string ⟨Y.toArray⟩] 9)).alloc (.cells #[.slice (some ⟨wy.heap.size,0,none⟩) 2 2] 22))):=zA (HA1.out.alloc (by simp) _);have hl0:wy.cell? ⟨vl,0,none⟩=some (.slice ua nu uc):=hcv.1;have hl1:(wy.alloc (.cells #[.string ⟨X.toArray⟩,.string ⟨Y.toArray⟩] 9)).cell? ⟨vl,0,none⟩=some (.slice ua nu uc):=by
     have h:=hcz _ HA1.out;exact h
    have hl2:((wy.alloc (.cells #[.string ⟨X.toArray⟩,.string ⟨Y.toArray⟩] 9)).alloc (.cells #[.slice (some ⟨wy.heap.size,0,none⟩) 2 2] 22)).cell? ⟨vl,0,none⟩=some (.slice ua nu uc):=by
     have h:=hcz _ HA2.out;exact h
    have HOE2:Hid (((wy.drew.alloc (.cells #[.string ⟨X.toArray⟩,.string ⟨Y.toArray⟩] 9)).alloc (.cells #[.slice (some ⟨wy.heap.size,0,none⟩) 2 2] 22)).ownsRow w0.heap.size 22 1 (.slice ua nu uc) nu (gx.flatMap csGr)):=zA (by
     have:=owns_below HR.out.row HA2.out;rw[<- HNU.out]at this;exact this)
    have HNW:Hid (∀(j:Nat) u,[Value.slice (some ⟨wy.heap.size,0,none⟩) 2 2][j]?=some u->((wy.drew.alloc (.cells #[.string ⟨X.toArray⟩,.string ⟨Y.toArray⟩] 9)).alloc (.cells #[.slice (some ⟨wy.heap.size,0,none⟩) 2 2] 22)).cell? ((⟨wy.heap.size+1,0,none⟩:Addr).add j)=some u):=zA (by
     have h1:=heap_alloc_new (wy.drew.alloc (.cells #[.string ⟨X.toArray⟩,.string ⟨Y.toArray⟩] 9)) (.cells #[.slice (some ⟨wy.heap.size,0,none⟩) 2 2] 22 (0,0));have h2:(wy.drew.alloc (.cells #[.string ⟨X.toArray⟩,.string ⟨Y.toArray⟩] 9)).heap.size=wy.heap.size+1:=by simp
     rw[h2]at h1;exact World.news_of_block (cs:=#[.slice (some ⟨wy.heap.size,0,none⟩) 2 2]) (t:=22) (fr:=(0,0)) h1)
    have HNB:Hid (((wy.drew.alloc (.cells #[.string ⟨X.toArray⟩,.string ⟨Y.toArray⟩] 9)).alloc (.cells #[.slice (some ⟨wy.heap.size,0,none⟩) 2 2] 22)).heap[wy.heap.size]?=some (.cells #[.string ⟨X.toArray⟩,.string ⟨Y.toArray⟩] 9 (0,0))):=zA (by
     rw[heap_alloc_old _ _ (by simp)];exact heap_alloc_new wy.drew _)
    have HKG:Hid (∀gg cap2 w9,w9.ownsRow w0.heap.size 22 1 (.slice (some ⟨gg,0,none⟩) (nu+1) cap2) (nu+1) (gx.flatMap csGr++[.slice (some ⟨wy.heap.size,0,none⟩) 2 2])->((wy.drew.alloc (.cells #[.string ⟨X.toArray⟩,.string ⟨Y.toArray⟩] 9)).alloc (.cells #[.slice (some ⟨wy.heap.size,0,none⟩) 2 2] 22)).grownBy w9 (Value.slice ua nu uc).ownBlock->((Value.slice ua nu uc).ownBlock=some gg\/gg=wy.heap.size+2)->
     (w9.cell? ⟨vg,0,none⟩=some (.pointer (some ⟨gb,0,none⟩))/\w9.cell? ⟨gb,0,none⟩=some (.slice (some ⟨ng,noff,none⟩) nV ncap)/\w9.cell? ⟨ng,noff+i,none⟩=some (.string ⟨X.toArray⟩)/\w9.cell? ⟨ng,noff+y,none⟩=some (.string ⟨Y.toArray⟩))/\((w9.setCell ⟨vl,0,none⟩ (.slice (some ⟨gg,0,none⟩) (nu+1) cap2)).cell? ⟨vg,0,none⟩=some (.pointer (some ⟨gb,0,none⟩))/\(w9.setCell ⟨vl,0,none⟩ (.slice (some ⟨gg,0,none⟩) (nu+1) cap2)).cell? ⟨gb,0,none⟩=some (.slice (some ⟨ng,noff,none⟩) nV ncap)/\(w9.setCell ⟨vl,0,none⟩ (.slice (some ⟨gg,0,none⟩) (nu+1) cap2)).cell? ⟨ng,noff+i,none⟩=some (.string ⟨X.toArray⟩)/\(w9.setCell ⟨vl,0,none⟩ (.slice (some ⟨gg,0,none⟩) (nu+1) cap2)).cell? ⟨ng,noff+y,none⟩=some (.string ⟨Y.toArray⟩))/\(w9.cell? ⟨vl,0,none⟩=some (.slice ua nu uc)/\w9.frozen? ⟨vl,0,none⟩=false)/\Hid ((w9.setCell ⟨vl,0,none⟩ (.slice (some ⟨gg,0,none⟩) (nu+1) cap2)).heap[vl]?=some (.cells #[.slice (some ⟨gg,0,none⟩) (nu+1) cap2] 33 (0,0)))/\Hid (RowO w0.heap.size (w9.setCell ⟨vl,0,none⟩ (.slice (some ⟨gg,0,none⟩) (nu+1) cap2)) (.slice (some ⟨gg,0,none⟩) (nu+1) cap2) (gx++[(wy.heap.size,[X,Y])]))/\Hid (Fr S1 w1 (w9.setCell ⟨vl,0,none⟩ (.slice (some ⟨gg,0,none⟩) (nu+1) cap2)))/\Hid (∀g,(Value.slice (some ⟨gg,0,none⟩) (nu+1) cap2).ownBlock=some g->lv.ownBlock=some g\/w1.heap.size<=g)):=zA (fun gg cap2 w9 h1 h2 h3=>by
     have hrow:=HOE2.out;have hvb2:=(HA2.out.block vl (lt_of_block HVB.out)).trans HVB.out;have hvb9:=blk_grownG hvb2 h2 (own_neG hrow hvb2 (by decide));have hset:∀b,b≠vl->(w9.setCell ⟨vl,0,none⟩ (.slice (some ⟨gg,0,none⟩) (nu+1) cap2)).heap[b]?=w9.heap[b]?:=fun b hb=>zM _ _ _ _ hb
     have hk9:∀b,b<wy.heap.size->(Value.slice ua nu uc).ownBlock≠some b->w9.heap[b]?=wy.heap[b]?:=fun b hb hne=>(h2.block b (by simp;omega) (fun e=>hne e.symm)).trans (HA2.out.block b hb)
     have hS0k:∀b,S0 b->w9.heap[b]?=w.heap[b]?/\(w9.setCell ⟨vl,0,none⟩ (.slice (some ⟨gg,0,none⟩) (nu+1) cap2)).heap[b]?=w.heap[b]?:=fun b hb=>by
      have e1:(Value.slice ua nu uc).ownBlock≠some b:=fun e=>by
       have:=(HR.out.row.lt b e).1;have:=HLOW.out b hb;omega
      have e2:=(hk9 b (HVN.out b hb) e1).trans (hwk b hb);exact⟨e2,(hset b (fun e=>HVL.out (e▸hb))).trans e2⟩
     obtain⟨_,a1,a2,a3⟩:=HS0.out w9 (fun b hb=>(hS0k b hb).1);obtain⟨_,b1,b2,b3⟩:=HS0.out (w9.setCell ⟨vl,0,none⟩ (.slice (some ⟨gg,0,none⟩) (nu+1) cap2)) (fun b hb=>(hS0k b hb).2);obtain⟨_,_,c1,a4⟩:=a3 i X HXI.out;obtain⟨_,_,c2,a5⟩:=a3 y Y hYi;obtain⟨_,_,c3,b4⟩:=b3 i X HXI.out;obtain⟨_,_,c4,b5⟩:=b3 y Y hYi;injection c1 with c1;injection c1 with c1 c1';subst c1 c1';injection c2 with c2;injection c2 with c2 c2';subst c2 c2';injection c3 with c3;injection c3 with c3 c3';subst c3 c3';injection c4 with c4;injection c4 with c4 c4';subst c4 c4';have hvf:(w9.setCell ⟨vl,0,none⟩ (.slice (some ⟨gg,0,none⟩) (nu+1) cap2)).heap[vl]?=some (.cells #[.slice (some ⟨gg,0,none⟩) (nu+1) cap2] 33 (0,0)):=by
      simp[World.setCell,Array.getElem?_modify,hvb9]
     have hold:∀p∈gx,p.1<wy.heap.size:=fun p hp=>lt_of_block (HR.out.blk p hp)
     refine⟨⟨a1,a2,a4,a5⟩,⟨b1,b2,b4,b5⟩,by simp[World.cell?,World.frozen?,hvb9],zA hvf,zA ⟨?_,fun p hp=>?_⟩,zA ?_,zA (fun g hg=>?_)⟩
     . have h4:w9.ownsRow w0.heap.size 22 1 (.slice (some ⟨gg,0,none⟩) (nu+1) cap2) (gx++[(wy.heap.size,[X,Y])]).length ((gx++[(wy.heap.size,[X,Y])]).flatMap csGr):=by
        rw[zG,<- HNU.out,zY];exact h1
       exact owns_key h4 (fun g o hg ho=>(hset g (fun e=>own_neG h4 hvb9 (by decide) (by rw[hg,e]))).trans ho)
     . rcases zN.1 hp with hp|hp
       . have hb2:=HR.out.blk p hp;have hb3:RBlk ((wy.drew.alloc (.cells #[.string ⟨X.toArray⟩,.string ⟨Y.toArray⟩] 9)).alloc (.cells #[.slice (some ⟨wy.heap.size,0,none⟩) 2 2] 22)) p:=(HA2.out.block p.1 (hold p hp)).trans hb2;have hb9:RBlk w9 p:=blk_grownG hb3 h2 (own_neG hrow hb3 (by decide));exact(hset p.1 (blk_neG hb9 hvb9 (by decide))).trans hb9
       . rw[zJ.1 hp];have hb9:RBlk w9 (wy.heap.size,[X,Y]):=blk_grownG HNB.out h2 (own_neG hrow HNB.out (by decide));exact(hset wy.heap.size (blk_neG hb9 hvb9 (by decide))).trans hb9
     . refine HFR.out.trans ⟨?_,?_,?_,?_,fun b hb=>?_⟩
       . exact h2.os
       . exact h2.tape
       . exact h2.output
       . have:=h2.size;simp at this ⊢;omega
       . obtain⟨h5,h6,h7⟩:=(HS1.out b).1 hb;refine(hset b h6).trans (hk9 b (by omega) (fun e=>?_));rcases HLX.out b e with h8|h8
         . exact h7 h8
         . omega
     . have e1:gg=g:=by simpa[Value.ownBlock]using hg
       subst e1;rcases h3 with h3|h3
       . exact HLX.out gg h3
       . right;omega)
    have HGM2:Hid ((gx++[(wy.heap.size,[X,Y])]).map (·.2)=pairsTo V mt i++(T.take (k+1)).map (fun j=>[X,V.getD j []])):=zA (by
     rw[HTK.out,yP,HGM.out,List.append_assoc];rfl)
    have HGX2:Hid (∀p∈gx++[(wy.heap.size,[X,Y])],p∈gs\/w1.heap.size<=p.1):=zA (fun p hp=>by
     rcases zN.1 hp with hp|hp
     . exact HGX.out p hp
     . rw[zJ.1 hp];exact .inr hsz1)
    have HGL2:Hid ((gx++[(wy.heap.size,[X,Y])]).length=gs.length+(k+1)):=zA (by rw[zG,HGL.out];rfl);clear hy hY hYi hnu hcz hcv hwk p3 hyV;go_wp2_with fail;refine wp_region_held_drew (S:=fun u=>u.cell? ⟨vg,0,none⟩=some (.pointer (some ⟨gb,0,none⟩))/\u.cell? ⟨gb,0,none⟩=some (.slice (some ⟨ng,noff,none⟩) nV ncap)/\u.cell? ⟨ng,noff+i,none⟩=some (.string ⟨X.toArray⟩)/\u.cell? ⟨ng,noff+y,none⟩=some (.string ⟨Y.toArray⟩)) (by kernel_rfl) ?_ (fun hHeld=>?_)
    . exact KS.out _ HA0.out
    refine tkH (i:=1) (oi:=⟨some 15,.load 62 (.tmp 3),62, "model.go:29",#[],none⟩) (v:=?_) rfl ?_ hHeld ?_;rotate_left 1
    . rintro W ⟨l1,l2,l3,l4⟩;go_simp;try with_reducible rfl
    simp only[Act.put,zIB,zSZ,zSS];refine tkH (i:=2) (oi:=⟨some 16,.nilCheck (.tmp 15),0, "model.go:29",#[⟨1,.data⟩],none⟩) (v:=?_) rfl ?_ hHeld ?_;rotate_left 1
    . rintro W ⟨l1,l2,l3,l4⟩;go_simp;try with_reducible rfl
    simp only[Act.put,zIB,zSZ,zSS];refine tkH (i:=3) (oi:=⟨some 17,.fieldAddr 72 (.tmp 16) 0,0, "model.go:29",#[⟨2,.data⟩],none⟩) (v:=?_) rfl ?_ hHeld ?_;rotate_left 1
    . rintro W ⟨l1,l2,l3,l4⟩;go_simp;try with_reducible rfl
    simp only[Act.put,zIB,zSZ,zSS];refine tkH (i:=4) (oi:=⟨some 18,.load 22 (.tmp 17),22, "model.go:29",#[⟨3,.data⟩],none⟩) (v:=?_) rfl ?_ hHeld ?_;rotate_left 1
    . rintro W ⟨l1,l2,l3,l4⟩;go_simp;try with_reducible rfl
    simp only[Act.put,zIB,zSZ,zSS];refine tkH (i:=5) (oi:=⟨some 19,.move (.tmp 0),3, "model.go:29",#[],none⟩) (v:=?_) rfl ?_ hHeld ?_;rotate_left 1
    . rintro W ⟨l1,l2,l3,l4⟩;go_simp;try with_reducible rfl
    simp only[Act.put,zIB,zSZ,zSS];refine tkH (i:=6) (oi:=⟨some 20,.indexAddr 22 (.tmp 18) (.tmp 19),0, "model.go:29",#[⟨4,.data⟩,⟨5,.data⟩],none⟩) (v:=?_) rfl ?_ hHeld ?_;rotate_left 1
    . rintro W ⟨l1,l2,l3,l4⟩;go_simp;try with_reducible rfl
    simp only[Act.put,zIB,zSZ,zSS];refine tkH (i:=7) (oi:=⟨some 21,.load 9 (.tmp 20),9, "model.go:29",#[⟨6,.data⟩],none⟩) (v:=?_) rfl ?_ hHeld ?_;rotate_left 1
    . rintro W ⟨l1,l2,l3,l4⟩;go_simp;try with_reducible rfl
    simp only[Act.put,zIB,zSZ,zSS];refine tkH (i:=8) (oi:=⟨some 22,.load 62 (.tmp 3),62, "model.go:29",#[],none⟩) (v:=?_) rfl ?_ hHeld ?_;rotate_left 1
    . rintro W ⟨l1,l2,l3,l4⟩;go_simp;try with_reducible rfl
    simp only[Act.put,zIB,zSZ,zSS];refine tkH (i:=9) (oi:=⟨some 23,.nilCheck (.tmp 22),0, "model.go:29",#[⟨8,.data⟩],none⟩) (v:=?_) rfl ?_ hHeld ?_;rotate_left 1
    . rintro W ⟨l1,l2,l3,l4⟩;go_simp;try with_reducible rfl
    simp only[Act.put,zIB,zSZ,zSS];refine tkH (i:=10) (oi:=⟨some 24,.fieldAddr 72 (.tmp 23) 0,0, "model.go:29",#[⟨9,.data⟩],none⟩) (v:=?_) rfl ?_ hHeld ?_;rotate_left 1
    . rintro W ⟨l1,l2,l3,l4⟩;go_simp;try with_reducible rfl
    simp only[Act.put,zIB,zSZ,zSS];refine tkH (i:=11) (oi:=⟨some 25,.load 22 (.tmp 24),22, "model.go:29",#[⟨10,.data⟩],none⟩) (v:=?_) rfl ?_ hHeld ?_;rotate_left 1
    . rintro W ⟨l1,l2,l3,l4⟩;go_simp;try with_reducible rfl
    simp only[Act.put,zIB,zSZ,zSS];refine tkH (i:=12) (oi:=⟨some 26,.move (.tmp 6),3, "model.go:29",#[],none⟩) (v:=?_) rfl ?_ hHeld ?_;rotate_left 1
    . rintro W ⟨l1,l2,l3,l4⟩;go_simp;try with_reducible rfl
    simp only[Act.put,zIB,zSZ,zSS];refine tkH (i:=13) (oi:=⟨some 27,.indexAddr 22 (.tmp 25) (.tmp 26),0, "model.go:29",#[⟨11,.data⟩,⟨12,.data⟩],none⟩) (v:=?_) rfl ?_ hHeld ?_;rotate_left 1
    . rintro W ⟨l1,l2,l3,l4⟩;go_simp;try with_reducible rfl
    simp only[Act.put,zIB,zSZ,zSS];refine tkH (i:=14) (oi:=⟨some 28,.load 9 (.tmp 27),9, "model.go:29",#[⟨13,.data⟩],none⟩) (v:=?_) rfl ?_ hHeld ?_;rotate_left 1
    . rintro W ⟨l1,l2,l3,l4⟩;go_simp;try with_reducible rfl
    simp only[Act.put,zIB,zSZ,zSS];refine wpAnyH_ready (rs:=[0,15]) (by kernel_rfl) (by simp) ?_;refine AllReadyH.cons (o:=⟨some 14,.load 33 (.tmp 2),33, "model.go:29",#[],none⟩) rfl (fun K hK=>?_) (AllReadyH.cons (o:=⟨some 29,.buildSlice 22 2 #[(0,.tmp 21),(1,.tmp 28)],22, "model.go:29",#[⟨7,.data⟩,⟨14,.data⟩],none⟩) rfl (fun K hK=>?_) AllReadyH.nil)
    . go_simp;refine hK.out _ _ (KS.out _ HA0.out) (fun hHeld=>?_);clear hK K;refine wpAnyH_ready (rs:=[15]) (by kernel_rfl) (by simp) ?_;refine AllReadyH.cons (o:=⟨some 29,.buildSlice 22 2 #[(0,.tmp 21),(1,.tmp 28)],22, "model.go:29",#[⟨7,.data⟩,⟨14,.data⟩],none⟩) rfl (fun K hK=>?_) AllReadyH.nil;go_simp;refine hK.out _ _ (KS.out _ HA1.out) (fun hHeld=>?_);clear hK K;refine wpAnyH_ready (rs:=[16]) (by kernel_rfl) (by simp) ?_;refine AllReadyH.cons (o:=⟨some 30,.buildSlice 33 1 #[(0,.tmp 29)],33, "model.go:29",#[⟨15,.data⟩],none⟩) rfl (fun K hK=>?_) AllReadyH.nil;go_simp;refine hK.out _ _ (KS.out _ HA2.out) (fun hHeld=>?_);clear hK K;refine wpAnyH_ready (rs:=[17]) (by kernel_rfl) (by simp) ?_;refine AllReadyH.cons (o:=⟨some 31,.call { callee:=.builtin .append,args:=#[.tmp 14,.tmp 30],argTypes:=#[33,33] },33, "model.go:29",#[⟨0,.data⟩,⟨16,.data⟩],none⟩) rfl (fun K hK=>?_) AllReadyH.nil;refine step_append_lies _ (by rfl) _ _ _ (by rfl) w0.heap.size 22 i0 _ 1 24 Tryz.underlying33 hi0 hz0 hz1 hz2 rfl (by decide) (.slice ua nu uc) _ _ (by rfl) HOE2.out ⟨wy.heap.size+1,0,none⟩ 1 1 [.slice (some ⟨wy.heap.size,0,none⟩) 2 2] (by rfl) (by rfl) HNW.out (by simp[Value.oneCell']) (by decide) (by unfold maxLen;omega) (by omega) (by have:=HZ.out;simp;omega) (wy.heap.size+2) (by simp) ?_;intro gg cap2 w9 hown9 hgrow9 hat9 hlt9;have HW9:=zA (HKG.out gg cap2 w9 hown9 hgrow9 hat9);refine hK.out _ _ HW9.out.1 (fun hHeld=>?_);clear hK K hown9 hgrow9 hat9 hlt9;obtain⟨c2,c8⟩:=HW9.out.2.2.1;refine wpAnyH_ready (rs:=[18]) (by kernel_rfl) (by simp) ?_;refine AllReadyH.cons (o:=⟨none,.store 33 (.tmp 2) (.tmp 31),0, "model.go:29",#[⟨17,.data⟩,⟨17,.chain⟩,⟨0,.phase⟩,⟨1,.phase⟩,⟨2,.phase⟩,⟨3,.phase⟩,⟨4,.phase⟩,⟨5,.phase⟩,⟨6,.phase⟩,⟨7,.phase⟩,⟨8,.phase⟩,⟨9,.phase⟩,⟨10,.phase⟩,⟨11,.phase⟩,⟨12,.phase⟩,⟨13,.phase⟩,⟨14,.phase⟩,⟨15,.phase⟩,⟨16,.phase⟩,⟨17,.phase⟩],none⟩) rfl (fun K hK=>?_) AllReadyH.nil;go_simp;refine hK.out _ _ HW9.out.2.1 (fun hHeld=>?_);clear hK K c2 c8;refine wpAnyH_done (by kernel_rfl) ?_ _;go_wp2;go_roundw
      case rel=>exact⟨k+1,_,_,by omega,by go_num,HW9.out.2.2.2.1,HW9.out.2.2.2.2.1,HGM2,HW9.out.2.2.2.2.2.1,HW9.out.2.2.2.2.2.2,HGX2,HGL2⟩
      case measure=>simp[intOf];omega
    . go_simp;refine hK.out _ _ (KS.out _ HA1.out) (fun hHeld=>?_);clear hK K;refine wpAnyH_ready (rs:=[0,16]) (by kernel_rfl) (by simp) ?_;refine AllReadyH.cons (o:=⟨some 14,.load 33 (.tmp 2),33, "model.go:29",#[],none⟩) rfl (fun K hK=>?_) (AllReadyH.cons (o:=⟨some 30,.buildSlice 33 1 #[(0,.tmp 29)],33, "model.go:29",#[⟨15,.data⟩],none⟩) rfl (fun K hK=>?_) AllReadyH.nil)
      . go_simp;refine hK.out _ _ (KS.out _ HA1.out) (fun hHeld=>?_);clear hK K;refine wpAnyH_ready (rs:=[16]) (by kernel_rfl) (by simp) ?_;refine AllReadyH.cons (o:=⟨some 30,.buildSlice 33 1 #[(0,.tmp 29)],33, "model.go:29",#[⟨15,.data⟩],none⟩) rfl (fun K hK=>?_) AllReadyH.nil;go_simp;refine hK.out _ _ (KS.out _ HA2.out) (fun hHeld=>?_);clear hK K;refine wpAnyH_ready (rs:=[17]) (by kernel_rfl) (by simp) ?_;refine AllReadyH.cons (o:=⟨some 31,.call { callee:=.builtin .append,args:=#[.tmp 14,.tmp 30],argTypes:=#[33,33] },33, "model.go:29",#[⟨0,.data⟩,⟨16,.data⟩],none⟩) rfl (fun K hK=>?_) AllReadyH.nil;refine step_append_lies _ (by rfl) _ _ _ (by rfl) w0.heap.size 22 i0 _ 1 24 Tryz.underlying33 hi0 hz0 hz1 hz2 rfl (by decide) (.slice ua nu uc) _ _ (by rfl) HOE2.out ⟨wy.heap.size+1,0,none⟩ 1 1 [.slice (some ⟨wy.heap.size,0,none⟩) 2 2] (by rfl) (by rfl) HNW.out (by simp[Value.oneCell']) (by decide) (by unfold maxLen;omega) (by omega) (by have:=HZ.out;simp;omega) (wy.heap.size+2) (by simp) ?_;intro gg cap2 w9 hown9 hgrow9 hat9 hlt9;have HW9:=zA (HKG.out gg cap2 w9 hown9 hgrow9 hat9);refine hK.out _ _ HW9.out.1 (fun hHeld=>?_);clear hK K hown9 hgrow9 hat9 hlt9;obtain⟨c2,c8⟩:=HW9.out.2.2.1;refine wpAnyH_ready (rs:=[18]) (by kernel_rfl) (by simp) ?_;refine AllReadyH.cons (o:=⟨none,.store 33 (.tmp 2) (.tmp 31),0, "model.go:29",#[⟨17,.data⟩,⟨17,.chain⟩,⟨0,.phase⟩,⟨1,.phase⟩,⟨2,.phase⟩,⟨3,.phase⟩,⟨4,.phase⟩,⟨5,.phase⟩,⟨6,.phase⟩,⟨7,.phase⟩,⟨8,.phase⟩,⟨9,.phase⟩,⟨10,.phase⟩,⟨11,.phase⟩,⟨12,.phase⟩,⟨13,.phase⟩,⟨14,.phase⟩,⟨15,.phase⟩,⟨16,.phase⟩,⟨17,.phase⟩],none⟩) rfl (fun K hK=>?_) AllReadyH.nil;go_simp;refine hK.out _ _ HW9.out.2.1 (fun hHeld=>?_);clear hK K c2 c8;refine wpAnyH_done (by kernel_rfl) ?_ _;go_wp2;go_roundw
        case rel=>exact⟨k+1,_,_,by omega,by go_num,HW9.out.2.2.2.1,HW9.out.2.2.2.2.1,HGM2,HW9.out.2.2.2.2.2.1,HW9.out.2.2.2.2.2.2,HGX2,HGL2⟩
        case measure=>simp[intOf];omega
      . go_simp;refine hK.out _ _ (KS.out _ HA2.out) (fun hHeld=>?_);clear hK K;refine wpAnyH_ready (rs:=[0]) (by kernel_rfl) (by simp) ?_;refine AllReadyH.cons (o:=⟨some 14,.load 33 (.tmp 2),33, "model.go:29",#[],none⟩) rfl (fun K hK=>?_) AllReadyH.nil;go_simp;refine hK.out _ _ (KS.out _ HA2.out) (fun hHeld=>?_);clear hK K;refine wpAnyH_ready (rs:=[17]) (by kernel_rfl) (by simp) ?_;refine AllReadyH.cons (o:=⟨some 31,.call { callee:=.builtin .append,args:=#[.tmp 14,.tmp 30],argTypes:=#[33,33] },33, "model.go:29",#[⟨0,.data⟩,⟨16,.data⟩],none⟩) rfl (fun K hK=>?_) AllReadyH.nil;refine step_append_lies _ (by rfl) _ _ _ (by rfl) w0.heap.size 22 i0 _ 1 24 Tryz.underlying33 hi0 hz0 hz1 hz2 rfl (by decide) (.slice ua nu uc) _ _ (by rfl) HOE2.out ⟨wy.heap.size+1,0,none⟩ 1 1 [.slice (some ⟨wy.heap.size,0,none⟩) 2 2] (by rfl) (by rfl) HNW.out (by simp[Value.oneCell']) (by decide) (by unfold maxLen;omega) (by omega) (by have:=HZ.out;simp;omega) (wy.heap.size+2) (by simp) ?_;intro gg cap2 w9 hown9 hgrow9 hat9 hlt9;have HW9:=zA (HKG.out gg cap2 w9 hown9 hgrow9 hat9);refine hK.out _ _ HW9.out.1 (fun hHeld=>?_);clear hK K hown9 hgrow9 hat9 hlt9;obtain⟨c2,c8⟩:=HW9.out.2.2.1;refine wpAnyH_ready (rs:=[18]) (by kernel_rfl) (by simp) ?_;refine AllReadyH.cons (o:=⟨none,.store 33 (.tmp 2) (.tmp 31),0, "model.go:29",#[⟨17,.data⟩,⟨17,.chain⟩,⟨0,.phase⟩,⟨1,.phase⟩,⟨2,.phase⟩,⟨3,.phase⟩,⟨4,.phase⟩,⟨5,.phase⟩,⟨6,.phase⟩,⟨7,.phase⟩,⟨8,.phase⟩,⟨9,.phase⟩,⟨10,.phase⟩,⟨11,.phase⟩,⟨12,.phase⟩,⟨13,.phase⟩,⟨14,.phase⟩,⟨15,.phase⟩,⟨16,.phase⟩,⟨17,.phase⟩],none⟩) rfl (fun K hK=>?_) AllReadyH.nil;go_simp;refine hK.out _ _ HW9.out.2.1 (fun hHeld=>?_);clear hK K c2 c8;refine wpAnyH_done (by kernel_rfl) ?_ _;go_wp2;go_roundw
        case rel=>exact⟨k+1,_,_,by omega,by go_num,HW9.out.2.2.2.1,HW9.out.2.2.2.2.1,HGM2,HW9.out.2.2.2.2.2.1,HW9.out.2.2.2.2.2.2,HGX2,HGL2⟩
        case measure=>simp[intOf];omega
  . have hltI:¬(k:Int)<(nt:Int):=by omega
    have HFM:Hid (gx.map (·.2)=pairsTo V mt (i+1)):=zA (by
     rw[HGM.out,zK (by rw[<- HNT.out];omega),pairsTo_succ,<- HROWM.out,HX.out])
    have hsz:w.heap.size<=wy.heap.size:=zQ HBS.out HFR.out.size;have hsame:∀b,b<w.heap.size->b≠vl->lv.ownBlock≠some b->wy.heap[b]?=w.heap[b]?:=fun b hb h1 h2=>(HFR.out.block b ((HS1.out b).2 ⟨by have:=HBS.out;omega,h1,h2⟩)).trans (HB1.out.block b hb)
    have HFIN:Hid (∃T2:Nat->Prop,(∀k,S k->T2 k)/\Low T2 wy/\SrS T2 wy sb d s m/\PInv w0 S0 vl V mt (i+1) T2 wy):=zA (by
     refine⟨Plus S w.heap.size wy.heap.size,fun k hk=>.inl hk,HSL.out.plus hsz,?_,?_⟩
     . refine HSR.out.keep hsz (fun b hb ho=>⟨fun hp=>?_,?_⟩) (fun b hb hkb=>?_) (fun b hb=>.inl (HSR.out.kS b hb))
       . rcases hp with hp|hp
         . exact HSR.out.own_no ho hp
         . omega
       . exact hsame b hb (fun e=>HSR.out.own_no ho (e▸HINV.out.svl)) (fun e=>HSR.out.own_no ho (HLVS.out b e))
       . have h0:=HKP.out b hkb;exact(HFR.out.block b (HS01.out b h0).1).trans (HS01.out b h0).2
     . have hfr0:Fr S0 w wy:=⟨(HFR.out.os).trans HB1.out.os,(HFR.out.tape).trans HB1.out.tape,(HFR.out.output).trans HB1.out.output,hsz,fun b hb=>(HFR.out.block b (HS01.out b hb).1).trans (HS01.out b hb).2⟩
       refine⟨fun k hk=>.inl (HINV.out.sub k hk),HINV.out.fr.trans hfr0,.inl HINV.out.svl,lx,gx,HVB.out,HR.out,fun g hg=>?_,fun p hp=>?_,HFM.out⟩
       . rcases HLX.out g hg with h1|h1
         . exact .inl (HLVS.out g h1)
         . exact .inr ⟨zQ HBS.out h1,(HR.out.row.lt g hg).2⟩
       . rcases HGX.out p hp with h1|h1
         . exact .inl (HGSS.out p h1)
         . exact .inr ⟨zQ HBS.out h1,lt_of_block (HR.out.blk p hp)⟩)
    go_wp2;go_end0;exact⟨rfl,HFIN.out⟩
end Go.Proofs.YtdalcipmpelifaaGreatDoor
