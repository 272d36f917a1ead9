/- GPairs1. -/
import Derived.Test.YtkbgmcmcpbegjaaGreatDoorZR31
set_option maxRecDepth 100000
set_option maxHeartbeats 32000000
namespace Go.Proofs.YtkbgmcmcpbegjaaGreatDoor
open Go.RowKit Go.Shelf
theorem RowO.keep{B:Nat}{w w':World}{u:Value}{gs:List (Nat×Rw)}(h:RowO B w u gs)(h1:∀g,u.ownBlock=some g->w'.heap[g]?=w.heap[g]?)(h2:∀p∈gs,w'.heap[p.1]?=w.heap[p.1]?):RowO B w' u gs:=
 ⟨jae h.row (fun g _ hg ho=>(h1 g hg).trans ho),fun p hp=>(h2 p hp).trans (h.blk p hp)⟩
structure PInv (w0:World) (S0:Nat->Prop) (vl:Nat) (V:List Wd) (mt:Mt) (i:Nat) (S:Nat->Prop) (w:World):Prop where
 sub:∀k,S0 k->S k
 fr:Fr S0 w0 w
 svl:S vl
 ex:∃lv gs,w.heap[vl]?=some (.cells #[lv] 28 (0,0))/\RowO w0.heap.size w lv gs/\(∀g,lv.ownBlock=some g->S g)/\(∀p∈gs,S p.1)/\gs.map (·.2)=jbk V mt i
theorem PInv.keep{w0:World}{S0:Nat->Prop}{vl:Nat}{V:List Wd}{mt:Mt}{i:Nat}{S:Nat->Prop}{w w':World}(h:PInv w0 S0 vl V mt i S w)(hf:Fr S w w'):PInv w0 S0 vl V mt i S w':=by
 obtain⟨lv,gs,h1,h2,h3,h4,h5⟩:=h.ex;exact⟨h.sub,h.fr.trans (hf.sub h.sub),h.svl,lv,gs,(hf.block vl h.svl).trans h1,h2.keep (fun g hg=>hf.block g (h3 g hg)) (fun p hp=>hf.block p.1 (h4 p hp)),h3,h4,h5⟩
theorem nodup_len:∀(n:Nat) {l:List Nat},l.Nodup->(∀v∈l,v<n)->l.length<=n
 |0,[],_,_=>zD _
 |0,v::l,_,h=>absurd (h v (zN ..)) (Nat.not_lt_zero _)
 |n+1,l,h1,h2=>by
  have h3:=nodup_len n (h1.erase n) (fun v hv=>by
   have h4:=h2 v (List.mem_of_mem_erase hv);have h5:v≠n:=fun e=>by
    subst e;exact(List.Nodup.not_mem_erase h1) hv
   omega)
  rw[List.length_erase]at h3;split at h3<;>omega
theorem ordN:Ords (fun(a b:Nat)=>decide (a<b)):=⟨fun a=>by simp,fun a b c h1 h2=>by simp at *;omega,fun a b h1 h2=>by simp at *;omega⟩
theorem ends_row{d:Sd}{s:Ss}(hr:Rest d s){i:Nat}(hd:∀v p,(s.came.getD v 0).testBit p=true↔d.Rch [i] v p){P:Nat->Bool}(hP:∀j,j<d.n->(P j=true↔d.leads [i] j)):jgc d s=(List.range d.n).filter P:=by
 obtain⟨h1,h2⟩:=jiW hr;refine jbA ordN (h1.imp (fun h=>zU h)) ((List.pairwise_lt_range (n:=d.n)).filter _ |>.imp (fun h=>zU h)) (fun t=>?_);rw[h2,zY,yK];constructor
 . intro h;obtain⟨p,aa,ac⟩:=jh9 h;have ab:t<d.n:=hr.slt t (hr.sn t (fun e=>by rw[e]at aa;simp at aa));exact⟨ab,(hP t ab).2 ⟨p,(hd t p).1 aa,ac⟩⟩
 . rintro⟨ab,h⟩ e;obtain⟨p,aa,ac⟩:=(hP t ab).1 h;have:=jhW e p ((hd t p).2 aa);rw[ac]at this;cases this
theorem pairs1_any{w0:World}{S0:Nat->Prop}{vs vl vg gb sb:Nat}{V:List Wd}{mt:Mt}{L:List (Value×List Nat)}{d:Sd}{E:List Eg}{mb:Nat}{nv ev:Value}{D:DataW Unit}{c:Nat}
 (hlow:Low S0 w0) (hvl:¬S0 vl) (hs:w0.heap[vs]?=some (.cells #[.pointer (some ⟨sb,0,none⟩)] 67 (0,0))) (hvs:S0 vs) (hg:w0.heap[vg]?=some (.cells #[.pointer (some ⟨gb,0,none⟩)] 65 (0,0))) (hvg:S0 vg)
 (hG:GrS S0 w0 gb V E mb nv ev D c) (hn:d.n=V.length) (hVl:V.length<=10000) (hL:L.map (·.2)=(List.range V.length).map (fun x=>[x])) (hmt:∀i j,i<d.n->j<d.n->(mt i j=true↔d.leads [i] j)) (hkp:∀k,d.kp k->S0 k):
 FoundC 34 #[.pointer (some ⟨vs,0,none⟩),.pointer (some ⟨vl,0,none⟩),.pointer (some ⟨vg,0,none⟩)] sb d L (PInv w0 S0 vl V mt):=by
 intro i r S w s m bu bC a7 aM ba ag;obtain⟨i0,bo,bl,bs,bq⟩:=jal jk0;have bQ:r.2=[i]/\i<V.length:=by
  have h1:(L.map (·.2))[i]?=some r.2:=by rw[zI,bu];rfl
  rw[hL,zI]at h1;by_cases hi:i<V.length
  . rw[yO hi]at h1;simp at h1;exact⟨h1.symm,hi⟩
  . rw[yE (by simp;omega)]at h1;simp at h1
 obtain⟨bA,a0⟩:=bQ;rw[bA]at ba;obtain⟨T,hT⟩:=eX ((List.range V.length).filter (mt i));have au:jgc d s=T:=by
  rw[hT,<- hn];exact ends_row aM ba (fun j hj=>hmt i j (by omega) hj)
 have b9:T.length<=10000:=by
  rw[hT];have:=yH (mt i) (List.range V.length);rw[List.length_range]at this;omega
 have bK:∀j∈T,j<V.length:=fun j hj=>by
  rw[hT,zY,yK]at hj;exact hj.1
 have aN:Hid (T.map (fun j=>[V.getD i [],V.getD j []])=jdL V mt i V.length):=zA (by rw[hT];rfl);have b8:s.seen.length<=1000000:=by
  have h1:=aM.nd;have h2:=nodup_len d.n h1 aM.slt;omega
 obtain⟨lv,gs,e1,e2,e3,e4,e5⟩:=ag.ex;have C:=zA (jkE a7 aM b8);rw[au]at C;have aK:=zA a7;have aq:=zA ag;have bZ:=zA bC;have bn:=zA e1;have bi:=zA e2;have aG:=zA e3;have bc:=zA e4;have a6:=zA e5;have bW:=zA bK;obtain⟨X,hX⟩:=eX (V.getD i []);have bG:V[i]?=some X:=by rw[hX,List.getD,zB a0];rfl
 obtain⟨na,aj,aO⟩:=hG.names.slice;obtain⟨nV,aU⟩:=eX V.length;rw[<- aU]at aO;have hsz0:w0.heap.size<=w.heap.size:=ag.fr.size;have aE:=hG.fr ag.fr;have HGW:=zA aE;have aS:Hid (∀u:World,(∀b,S0 b->u.heap[b]?=w.heap[b]?)->u.cell? ⟨vs,0,none⟩=some (.pointer (some ⟨sb,0,none⟩))/\u.cell? ⟨vg,0,none⟩=some (.pointer (some ⟨gb,0,none⟩))/\u.cell? ⟨gb,0,none⟩=some (.slice na nV aj)/\∀j y,V[j]?=some y->∃g ar,na=some ⟨g,ar,none⟩/\u.cell? ⟨g,ar+j,none⟩=some (.string ⟨y.toArray⟩)):=zA (fun u hu=>by
  have h1:=(hu vs hvs).trans ((ag.fr.block vs hvs).trans hs);have h2:=(hu vg hvg).trans ((ag.fr.block vg hvg).trans hg);have h3:=(hu gb aE.sg).trans aE.blk;obtain⟨⟨h4,_,_⟩,_⟩:=cells3G h3;rw[aO]at h4;refine⟨by simp[World.cell?,h1],by simp[World.cell?,h2],h4,fun j y hy=>?_⟩;have h5:=aE.names;rw[aO]at h5;obtain⟨g,ar,e,bO,_,hc⟩:=h5.get hy;have h6:=hc 0 _ rfl;rw[yC,yA]at h6;exact⟨g,ar,e,by simpa only[World.cell?,hu g bO]using h6⟩)
 have bR:=zA hkp;have aC:=zA hlow;have bx:=zA hvl;have bd:vl<w.heap.size:=lt_of_block e1;have qs:=(aS.out w (fun _ _=>rfl)).1;have hiI:(i:Int)<(nV:Int):=by omega
 obtain⟨nt,bp⟩:=eX T.length;rw[<- bp]at b9 C;have aQ:=zA bp;have HX:=zA hX;have bb:=zA bG;have hgl:gs.length<=100000000:=by
  have h1:=jej V mt i;rw[<- e5,zH]at h1;have h2:i*V.length<=10000*10000:=Nat.mul_le_mul (by omega) hVl;omega
 have HIV:=zA a0;have bY:=zA aU;clear bu bC a7 aM ba ag bA au bK e1 e2 e3 e4 e5 hT hX bG aO aE hG hs hg hvs hvg hL hmt hkp hlow hvl hn hVl bp aU a0;show Calls Tryz.prog _ #[.int .i64 (i:Int),.pointer (some ⟨vs,0,none⟩),.pointer (some ⟨vl,0,none⟩),.pointer (some ⟨vg,0,none⟩)] w _;go_enter Tryz.func34,Tryz.ntmps34;go_wp2_with fail;refine C.out.mono ?_;rintro e w1 ⟨tv,rfl,az,bf⟩;obtain⟨ta,tc,bN⟩:=jab az;subst bN;have bL:=zA az;have aw:=zA bf;have aA:=zA bf.size;obtain⟨S1,bE⟩:=eX (fun b=>b<w1.heap.size/\b≠vl/\lv.ownBlock≠some b:Nat->Prop);have aR:Hid (∀b,S1 b↔(b<w1.heap.size/\b≠vl/\lv.ownBlock≠some b)):=zA (fun b=>by rw[bE]);have ah:Hid (∀b,S0 b->S1 b/\w1.heap[b]?=w.heap[b]?):=zA (fun b hb=>by
  have h1:=aC.out b hb;refine⟨(aR.out b).2 ⟨by have:=aA.out;omega,fun e=>bx.out (e▸hb),fun e=>?_⟩,aw.out.block b (by omega)⟩;have:=(bi.out.row.lt b e).1;omega)
 clear az bf bE qs;go_wp2_with fail;go_loopw [10] (fun c wr=>∃(k:Nat) (lv':Value) (gs':List (Nat×Rw)),k<=nt/\c=.int .i64 k/\Hid (wr.heap[vl]?=some (.cells #[lv'] 28 (0,0)))/\Hid (RowO w0.heap.size wr lv' gs')/\Hid (gs'.map (·.2)=jbk V mt i++(T.take k).map (fun j=>[X,V.getD j []]))/\Hid (Fr S1 w1 wr)/\Hid (∀g,lv'.ownBlock=some g->lv.ownBlock=some g\/w1.heap.size<=g)/\Hid (∀p∈gs',p∈gs\/w1.heap.size<=p.1)/\Hid (gs'.length=gs.length+k)) (fun c _=>nt-(intOf c).toNat)
 case atStart=>exact⟨0,lv,gs,zO _,rfl,zA ((aw.out.block vl bd).trans bn.out),zA (bi.out.below aw.out),zA (by rw[a6.out];simp),zA (Fr.refl _ _),zA (fun g hg=>.inl hg),zA (fun p hp=>.inl hp),zA rfl⟩
 case round=>
  obtain⟨k,lx,gx,hk,rfl,aF,HR,bI,ai,aX,bB,bD⟩:=hrel;obtain⟨wy,bP⟩:=eX wr;subst bP;have aZ:∀b,S0 b->wy.heap[b]?=w.heap[b]?:=fun b hb=>(ai.out.block b (ah.out b hb).1).trans (ah.out b hb).2
  obtain⟨_,p1,p2,p3⟩:=aS.out wy aZ;by_cases hlt:k<nt
  . have aV:(k:Int)<(nt:Int):=by omega
    obtain⟨y,hy⟩:∃y,T[k]?=some y:=⟨_,zB (by rw[<- aQ.out];exact hlt)⟩
    have bM:=bW.out y (zC hy);obtain⟨Y,hY⟩:=eX (V.getD y []);have aP:V[y]?=some Y:=by rw[hY,List.getD,zB bM];rfl
    have hyI:(y:Int)<(nV:Int):=by have:=bY.out;omega
    obtain⟨tg,toff,b0,q0⟩:∃g ar,ta=some ⟨g,ar,none⟩/\wy.cell? ⟨g,ar+k,none⟩=some (.int .i64 (y:Int)):=by
     have h1:=jew (by have:=bL.out;rw[aQ.out]at this;exact this);obtain⟨g,ar,ea,bT,aW,hc⟩:=h1.get hy;have e5:=getI hc;rw[yC]at e5;have hgB:=(bL.out.lt g (by rw[aQ.out];exact bT)).1;have bX:S1 g:=(aR.out g).2 ⟨aW,by omega,fun e=>by have:=(bi.out.row.lt g e).2;omega⟩;exact⟨g,ar,ea,by simpa only[World.cell?,ai.out.block g bX]using e5⟩
    subst b0;obtain⟨ng,ac,bt,p4⟩:=p3 i X bb.out;obtain⟨ng2,noff2,ao,p5⟩:=p3 y Y aP;rw[bt]at ao;injection ao with ao;injection ao with e1 e2;subst e1 e2;have bV:Hid (∀b,S0 b->b<wy.heap.size):=zA (fun b hb=>by
     have:=aC.out b hb;have:=ai.out.size;have:=aA.out;omega)
    have bh:w1.heap.size<=wy.heap.size:=ai.out.size;have HZ:Hid (w0.heap.size<=wy.heap.size):=zA (by have:=aA.out;omega);have HYY:=zA hY;have bU:Hid ((T.take (k+1)).map (fun j=>[X,V.getD j []])=(T.take k).map (fun j=>[X,V.getD j []])++[[X,Y]]):=zA (by
     rw[zS,hy,yQ,yG,hY];rfl)
    obtain⟨ua,uc,bF⟩:=jab HR.out.row;obtain⟨nu,aT⟩:=eX gx.length;rw[<- aT]at bF;subst bF;have hnul:nu<=100010000:=by rw[aT,bD.out];omega
    have bw:=zA aT;have a9:wy.cell? ⟨vl,0,none⟩=some (.slice ua nu uc)/\wy.frozen? ⟨vl,0,none⟩=false:=by
     have:=aF.out;simp[World.cell?,World.frozen?,this]
    subst bt;have br:∀u,Below wy.heap.size wy u->u.cell? ⟨vl,0,none⟩=some (.slice ua nu uc):=fun u hu=>(hu.cell (p:=⟨vl,0,none⟩) (lt_of_block aF.out)).trans a9.1
    have KS:Hid (∀u,Below wy.heap.size wy u->u.cell? ⟨vg,0,none⟩=some (.pointer (some ⟨gb,0,none⟩))/\u.cell? ⟨gb,0,none⟩=some (.slice (some ⟨ng,ac,none⟩) nV aj)/\u.cell? ⟨ng,ac+i,none⟩=some (.string ⟨X.toArray⟩)/\u.cell? ⟨ng,ac+y,none⟩=some (.string ⟨Y.toArray⟩)):=zA (fun u hu=>by
     have l1:=World.block_lt_of_cell? _ _ p1;have l2:=World.block_lt_of_cell? _ _ p2;have l3:=World.block_lt_of_cell? _ _ p4;exact⟨(hu.cell (p:=⟨vg,0,none⟩) l1).trans p1,(hu.cell (p:=⟨gb,0,none⟩) l2).trans p2,(hu.cell (p:=⟨ng,ac+i,none⟩) l3).trans p4,(hu.cell (p:=⟨ng,ac+y,none⟩) l3).trans p5⟩)
    have bv:Hid (Below wy.heap.size wy wy.drew):=zA (zF _ _).drew;have aD:Hid (Below wy.heap.size wy (wy.drew.alloc (.cells #[.string ⟨X.toArray⟩,.string ⟨Y.toArray⟩] 9))):=zA ((zF _ _).drew.alloc (zD _) _);have ap:Hid (Below wy.heap.size wy ((wy.drew.alloc (.cells #[.string ⟨X.toArray⟩,.string ⟨Y.toArray⟩] 9)).alloc (.cells #[.slice (some ⟨wy.heap.size,0,none⟩) 2 2] 34))):=zA (aD.out.alloc (by simp) _);have hl0:wy.cell? ⟨vl,0,none⟩=some (.slice ua nu uc):=a9.1;have hl1:(wy.alloc (.cells #[.string ⟨X.toArray⟩,.string ⟨Y.toArray⟩] 9)).cell? ⟨vl,0,none⟩=some (.slice ua nu uc):=by
     have h:=br _ aD.out;exact h
    have hl2:((wy.alloc (.cells #[.string ⟨X.toArray⟩,.string ⟨Y.toArray⟩] 9)).alloc (.cells #[.slice (some ⟨wy.heap.size,0,none⟩) 2 2] 34)).cell? ⟨vl,0,none⟩=some (.slice ua nu uc):=by
     have h:=br _ ap.out;exact h
    have an:Hid (((wy.drew.alloc (.cells #[.string ⟨X.toArray⟩,.string ⟨Y.toArray⟩] 9)).alloc (.cells #[.slice (some ⟨wy.heap.size,0,none⟩) 2 2] 34)).ownsRow w0.heap.size 34 1 (.slice ua nu uc) nu (gx.flatMap csGr)):=zA (by
     have:=jao HR.out.row ap.out;rw[<- bw.out]at this;exact this)
    have bg:Hid (∀(j:Nat) u,[Value.slice (some ⟨wy.heap.size,0,none⟩) 2 2][j]?=some u->((wy.drew.alloc (.cells #[.string ⟨X.toArray⟩,.string ⟨Y.toArray⟩] 9)).alloc (.cells #[.slice (some ⟨wy.heap.size,0,none⟩) 2 2] 34)).cell? ((⟨wy.heap.size+1,0,none⟩:Addr).add j)=some u):=zA (by
     have h1:=heap_alloc_new (wy.drew.alloc (.cells #[.string ⟨X.toArray⟩,.string ⟨Y.toArray⟩] 9)) (.cells #[.slice (some ⟨wy.heap.size,0,none⟩) 2 2] 34 (0,0));have h2:(wy.drew.alloc (.cells #[.string ⟨X.toArray⟩,.string ⟨Y.toArray⟩] 9)).heap.size=wy.heap.size+1:=by simp
     rw[h2]at h1;exact World.news_of_block (cs:=#[.slice (some ⟨wy.heap.size,0,none⟩) 2 2]) (t:=34) (fr:=(0,0)) h1)
    have bz:Hid (((wy.drew.alloc (.cells #[.string ⟨X.toArray⟩,.string ⟨Y.toArray⟩] 9)).alloc (.cells #[.slice (some ⟨wy.heap.size,0,none⟩) 2 2] 34)).heap[wy.heap.size]?=some (.cells #[.string ⟨X.toArray⟩,.string ⟨Y.toArray⟩] 9 (0,0))):=zA (by
     rw[heap_alloc_old _ _ (by simp)];exact heap_alloc_new wy.drew _)
    have bm:Hid (∀gg aa w9,w9.ownsRow w0.heap.size 34 1 (.slice (some ⟨gg,0,none⟩) (nu+1) aa) (nu+1) (gx.flatMap csGr++[.slice (some ⟨wy.heap.size,0,none⟩) 2 2])->((wy.drew.alloc (.cells #[.string ⟨X.toArray⟩,.string ⟨Y.toArray⟩] 9)).alloc (.cells #[.slice (some ⟨wy.heap.size,0,none⟩) 2 2] 34)).grownBy w9 (Value.slice ua nu uc).ownBlock->((Value.slice ua nu uc).ownBlock=some gg\/gg=wy.heap.size+2)->
     (w9.cell? ⟨vg,0,none⟩=some (.pointer (some ⟨gb,0,none⟩))/\w9.cell? ⟨gb,0,none⟩=some (.slice (some ⟨ng,ac,none⟩) nV aj)/\w9.cell? ⟨ng,ac+i,none⟩=some (.string ⟨X.toArray⟩)/\w9.cell? ⟨ng,ac+y,none⟩=some (.string ⟨Y.toArray⟩))/\((w9.setCell ⟨vl,0,none⟩ (.slice (some ⟨gg,0,none⟩) (nu+1) aa)).cell? ⟨vg,0,none⟩=some (.pointer (some ⟨gb,0,none⟩))/\(w9.setCell ⟨vl,0,none⟩ (.slice (some ⟨gg,0,none⟩) (nu+1) aa)).cell? ⟨gb,0,none⟩=some (.slice (some ⟨ng,ac,none⟩) nV aj)/\(w9.setCell ⟨vl,0,none⟩ (.slice (some ⟨gg,0,none⟩) (nu+1) aa)).cell? ⟨ng,ac+i,none⟩=some (.string ⟨X.toArray⟩)/\(w9.setCell ⟨vl,0,none⟩ (.slice (some ⟨gg,0,none⟩) (nu+1) aa)).cell? ⟨ng,ac+y,none⟩=some (.string ⟨Y.toArray⟩))/\(w9.cell? ⟨vl,0,none⟩=some (.slice ua nu uc)/\w9.frozen? ⟨vl,0,none⟩=false)/\Hid ((w9.setCell ⟨vl,0,none⟩ (.slice (some ⟨gg,0,none⟩) (nu+1) aa)).heap[vl]?=some (.cells #[.slice (some ⟨gg,0,none⟩) (nu+1) aa] 28 (0,0)))/\Hid (RowO w0.heap.size (w9.setCell ⟨vl,0,none⟩ (.slice (some ⟨gg,0,none⟩) (nu+1) aa)) (.slice (some ⟨gg,0,none⟩) (nu+1) aa) (gx++[(wy.heap.size,[X,Y])]))/\Hid (Fr S1 w1 (w9.setCell ⟨vl,0,none⟩ (.slice (some ⟨gg,0,none⟩) (nu+1) aa)))/\Hid (∀g,(Value.slice (some ⟨gg,0,none⟩) (nu+1) aa).ownBlock=some g->lv.ownBlock=some g\/w1.heap.size<=g)):=zA (fun gg aa w9 h1 h2 h3=>by
     have av:=an.out;have aH:=(ap.out.block vl (lt_of_block aF.out)).trans aF.out;have am:=blk_grownG aH h2 (jan av aH (by decide));have al:∀b,b≠vl->(w9.setCell ⟨vl,0,none⟩ (.slice (some ⟨gg,0,none⟩) (nu+1) aa)).heap[b]?=w9.heap[b]?:=fun b hb=>zM _ _ _ _ hb
     have bJ:∀b,b<wy.heap.size->(Value.slice ua nu uc).ownBlock≠some b->w9.heap[b]?=wy.heap[b]?:=fun b hb hne=>(h2.block b (by simp;omega) (fun e=>hne e.symm)).trans (ap.out.block b hb)
     have aI:∀b,S0 b->w9.heap[b]?=w.heap[b]?/\(w9.setCell ⟨vl,0,none⟩ (.slice (some ⟨gg,0,none⟩) (nu+1) aa)).heap[b]?=w.heap[b]?:=fun b hb=>by
      have e1:(Value.slice ua nu uc).ownBlock≠some b:=fun e=>by
       have:=(HR.out.row.lt b e).1;have:=aC.out b hb;omega
      have e2:=(bJ b (bV.out b hb) e1).trans (aZ b hb);exact⟨e2,(al b (fun e=>bx.out (e▸hb))).trans e2⟩
     obtain⟨_,a1,a2,a3⟩:=aS.out w9 (fun b hb=>(aI b hb).1);obtain⟨_,b1,b2,b3⟩:=aS.out (w9.setCell ⟨vl,0,none⟩ (.slice (some ⟨gg,0,none⟩) (nu+1) aa)) (fun b hb=>(aI b hb).2);obtain⟨_,_,c1,a4⟩:=a3 i X bb.out;obtain⟨_,_,c2,a5⟩:=a3 y Y aP;obtain⟨_,_,c3,b4⟩:=b3 i X bb.out;obtain⟨_,_,c4,b5⟩:=b3 y Y aP;injection c1 with c1;injection c1 with c1 c1';subst c1 c1';injection c2 with c2;injection c2 with c2 c2';subst c2 c2';injection c3 with c3;injection c3 with c3 c3';subst c3 c3';injection c4 with c4;injection c4 with c4 c4';subst c4 c4';have bS:(w9.setCell ⟨vl,0,none⟩ (.slice (some ⟨gg,0,none⟩) (nu+1) aa)).heap[vl]?=some (.cells #[.slice (some ⟨gg,0,none⟩) (nu+1) aa] 28 (0,0)):=by
      simp[World.setCell,Array.getElem?_modify,am]
     have bj:∀p∈gx,p.1<wy.heap.size:=fun p hp=>lt_of_block (HR.out.blk p hp)
     refine⟨⟨a1,a2,a4,a5⟩,⟨b1,b2,b4,b5⟩,by simp[World.cell?,World.frozen?,am],zA bS,zA ⟨?_,fun p hp=>?_⟩,zA ?_,zA (fun g hg=>?_)⟩
     . have h4:w9.ownsRow w0.heap.size 34 1 (.slice (some ⟨gg,0,none⟩) (nu+1) aa) (gx++[(wy.heap.size,[X,Y])]).length ((gx++[(wy.heap.size,[X,Y])]).flatMap csGr):=by
        rw[zG,<- bw.out,zP];exact h1
       exact jae h4 (fun g o hg ho=>(al g (fun e=>jan h4 am (by decide) (by rw[hg,e]))).trans ho)
     . rcases zL.1 hp with hp|hp
       . have b7:=HR.out.blk p hp;have bH:RBlk ((wy.drew.alloc (.cells #[.string ⟨X.toArray⟩,.string ⟨Y.toArray⟩] 9)).alloc (.cells #[.slice (some ⟨wy.heap.size,0,none⟩) 2 2] 34)) p:=(ap.out.block p.1 (bj p hp)).trans b7;have aJ:RBlk w9 p:=blk_grownG bH h2 (jan av bH (by decide));exact(al p.1 (jbg aJ am (by decide))).trans aJ
       . rw[zK.1 hp];have aJ:RBlk w9 (wy.heap.size,[X,Y]):=blk_grownG bz.out h2 (jan av bz.out (by decide));exact(al wy.heap.size (jbg aJ am (by decide))).trans aJ
     . refine ai.out.trans ⟨?_,?_,?_,?_,fun b hb=>?_⟩
       . exact h2.os
       . exact h2.tape
       . exact h2.output
       . have:=h2.size;simp at this ⊢;omega
       . obtain⟨h5,h6,h7⟩:=(aR.out b).1 hb;refine(al b h6).trans (bJ b (by omega) (fun e=>?_));rcases aX.out b e with h8|h8
         . exact h7 h8
         . omega
     . have e1:gg=g:=by simpa[Value.ownBlock]using hg
       subst e1;rcases h3 with h3|h3
       . exact aX.out gg h3
       . right;omega)
    have ax:Hid ((gx++[(wy.heap.size,[X,Y])]).map (·.2)=jbk V mt i++(T.take (k+1)).map (fun j=>[X,V.getD j []])):=zA (by
     rw[bU.out,yG,bI.out,List.append_assoc];rfl)
    have aB:Hid (∀p∈gx++[(wy.heap.size,[X,Y])],p∈gs\/w1.heap.size<=p.1):=zA (fun p hp=>by
     rcases zL.1 hp with hp|hp
     . exact bB.out p hp
     . rw[zK.1 hp];exact .inr bh)
    have ay:Hid ((gx++[(wy.heap.size,[X,Y])]).length=gs.length+(k+1)):=zA (by rw[zG,bD.out];rfl);clear hy hY aP aT br a9 aZ p3 bM;go_wp2_with fail;refine wp_region_held_drew (S:=fun u=>u.cell? ⟨vg,0,none⟩=some (.pointer (some ⟨gb,0,none⟩))/\u.cell? ⟨gb,0,none⟩=some (.slice (some ⟨ng,ac,none⟩) nV aj)/\u.cell? ⟨ng,ac+i,none⟩=some (.string ⟨X.toArray⟩)/\u.cell? ⟨ng,ac+y,none⟩=some (.string ⟨Y.toArray⟩)) (by kernel_rfl) ?_ (fun hHeld=>?_)
    . exact KS.out _ bv.out
    refine tkH (i:=1) (oi:=⟨some 15,.load 65 (.tmp 3),65, "model.go:29",#[],none⟩) (v:=?_) rfl ?_ hHeld ?_;rotate_left 1
    . rintro W ⟨l1,l2,l3,l4⟩;go_simp;try with_reducible rfl
    simp only[Act.put,zIB,zSZ,zSS];refine tkH (i:=2) (oi:=⟨some 16,.nilCheck (.tmp 15),0, "model.go:29",#[⟨1,.data⟩],none⟩) (v:=?_) rfl ?_ hHeld ?_;rotate_left 1
    . rintro W ⟨l1,l2,l3,l4⟩;go_simp;try with_reducible rfl
    simp only[Act.put,zIB,zSZ,zSS];refine tkH (i:=3) (oi:=⟨some 17,.fieldAddr 75 (.tmp 16) 0,0, "model.go:29",#[⟨2,.data⟩],none⟩) (v:=?_) rfl ?_ hHeld ?_;rotate_left 1
    . rintro W ⟨l1,l2,l3,l4⟩;go_simp;try with_reducible rfl
    simp only[Act.put,zIB,zSZ,zSS];refine tkH (i:=4) (oi:=⟨some 18,.load 34 (.tmp 17),34, "model.go:29",#[⟨3,.data⟩],none⟩) (v:=?_) rfl ?_ hHeld ?_;rotate_left 1
    . rintro W ⟨l1,l2,l3,l4⟩;go_simp;try with_reducible rfl
    simp only[Act.put,zIB,zSZ,zSS];refine tkH (i:=5) (oi:=⟨some 19,.move (.tmp 0),3, "model.go:29",#[],none⟩) (v:=?_) rfl ?_ hHeld ?_;rotate_left 1
    . rintro W ⟨l1,l2,l3,l4⟩;go_simp;try with_reducible rfl
    simp only[Act.put,zIB,zSZ,zSS];refine tkH (i:=6) (oi:=⟨some 20,.indexAddr 34 (.tmp 18) (.tmp 19),0, "model.go:29",#[⟨4,.data⟩,⟨5,.data⟩],none⟩) (v:=?_) rfl ?_ hHeld ?_;rotate_left 1
    . rintro W ⟨l1,l2,l3,l4⟩;go_simp;try with_reducible rfl
    simp only[Act.put,zIB,zSZ,zSS];refine tkH (i:=7) (oi:=⟨some 21,.load 9 (.tmp 20),9, "model.go:29",#[⟨6,.data⟩],none⟩) (v:=?_) rfl ?_ hHeld ?_;rotate_left 1
    . rintro W ⟨l1,l2,l3,l4⟩;go_simp;try with_reducible rfl
    simp only[Act.put,zIB,zSZ,zSS];refine tkH (i:=8) (oi:=⟨some 22,.load 65 (.tmp 3),65, "model.go:29",#[],none⟩) (v:=?_) rfl ?_ hHeld ?_;rotate_left 1
    . rintro W ⟨l1,l2,l3,l4⟩;go_simp;try with_reducible rfl
    simp only[Act.put,zIB,zSZ,zSS];refine tkH (i:=9) (oi:=⟨some 23,.nilCheck (.tmp 22),0, "model.go:29",#[⟨8,.data⟩],none⟩) (v:=?_) rfl ?_ hHeld ?_;rotate_left 1
    . rintro W ⟨l1,l2,l3,l4⟩;go_simp;try with_reducible rfl
    simp only[Act.put,zIB,zSZ,zSS];refine tkH (i:=10) (oi:=⟨some 24,.fieldAddr 75 (.tmp 23) 0,0, "model.go:29",#[⟨9,.data⟩],none⟩) (v:=?_) rfl ?_ hHeld ?_;rotate_left 1
    . rintro W ⟨l1,l2,l3,l4⟩;go_simp;try with_reducible rfl
    simp only[Act.put,zIB,zSZ,zSS];refine tkH (i:=11) (oi:=⟨some 25,.load 34 (.tmp 24),34, "model.go:29",#[⟨10,.data⟩],none⟩) (v:=?_) rfl ?_ hHeld ?_;rotate_left 1
    . rintro W ⟨l1,l2,l3,l4⟩;go_simp;try with_reducible rfl
    simp only[Act.put,zIB,zSZ,zSS];refine tkH (i:=12) (oi:=⟨some 26,.move (.tmp 6),3, "model.go:29",#[],none⟩) (v:=?_) rfl ?_ hHeld ?_;rotate_left 1
    . rintro W ⟨l1,l2,l3,l4⟩;go_simp;try with_reducible rfl
    simp only[Act.put,zIB,zSZ,zSS];refine tkH (i:=13) (oi:=⟨some 27,.indexAddr 34 (.tmp 25) (.tmp 26),0, "model.go:29",#[⟨11,.data⟩,⟨12,.data⟩],none⟩) (v:=?_) rfl ?_ hHeld ?_;rotate_left 1
    . rintro W ⟨l1,l2,l3,l4⟩;go_simp;try with_reducible rfl
    simp only[Act.put,zIB,zSZ,zSS];refine tkH (i:=14) (oi:=⟨some 28,.load 9 (.tmp 27),9, "model.go:29",#[⟨13,.data⟩],none⟩) (v:=?_) rfl ?_ hHeld ?_;rotate_left 1
    . rintro W ⟨l1,l2,l3,l4⟩;go_simp;try with_reducible rfl
    simp only[Act.put,zIB,zSZ,zSS];refine wpAnyH_ready (rs:=[0,15]) (by kernel_rfl) (by simp) ?_;refine AllReadyH.cons (o:=⟨some 14,.load 28 (.tmp 2),28, "model.go:29",#[],none⟩) rfl (fun K hK=>?_) (AllReadyH.cons (o:=⟨some 29,.buildSlice 34 2 #[(0,.tmp 21),(1,.tmp 28)],34, "model.go:29",#[⟨7,.data⟩,⟨14,.data⟩],none⟩) rfl (fun K hK=>?_) AllReadyH.nil)
    . go_simp;refine hK.out _ _ (KS.out _ bv.out) (fun hHeld=>?_);clear hK K;refine rdH (k:=15) (o:=⟨some 29,.buildSlice 34 2 #[(0,.tmp 21),(1,.tmp 28)],34, "model.go:29",#[⟨7,.data⟩,⟨14,.data⟩],none⟩) rfl (fun K hK=>?_);go_simp;refine hK.out _ _ (KS.out _ aD.out) (fun hHeld=>?_);clear hK K;refine rdH (k:=16) (o:=⟨some 30,.buildSlice 28 1 #[(0,.tmp 29)],28, "model.go:29",#[⟨15,.data⟩],none⟩) rfl (fun K hK=>?_);go_simp;refine hK.out _ _ (KS.out _ ap.out) (fun hHeld=>?_);clear hK K;refine rdH (k:=17) (o:=⟨some 31,.call { callee:=.builtin .append,args:=#[.tmp 14,.tmp 30],argTypes:=#[28,28] },28, "model.go:29",#[⟨0,.data⟩,⟨16,.data⟩],none⟩) rfl (fun K hK=>?_);refine step_append_lies _ (by rfl) _ _ _ (by rfl) w0.heap.size 34 i0 _ 1 24 Tryz.underlying28 bo bl bs bq rfl (by decide) (.slice ua nu uc) _ _ (by rfl) an.out ⟨wy.heap.size+1,0,none⟩ 1 1 [.slice (some ⟨wy.heap.size,0,none⟩) 2 2] (by rfl) (by rfl) bg.out (by simp[Value.oneCell']) (by decide) (by unfold maxLen;omega) (by omega) (by have:=HZ.out;simp;omega) (wy.heap.size+2) (by simp) ?_;intro gg aa w9 ad ab af ak;have ae:=zA (bm.out gg aa w9 ad ab af);refine hK.out _ _ ae.out.1 (fun hHeld=>?_);clear hK K ad ab af ak;obtain⟨c2,c8⟩:=ae.out.2.2.1;refine rdH (k:=18) (o:=⟨none,.store 28 (.tmp 2) (.tmp 31),0, "model.go:29",#[⟨17,.data⟩,⟨17,.chain⟩,⟨0,.phase⟩,⟨1,.phase⟩,⟨2,.phase⟩,⟨3,.phase⟩,⟨4,.phase⟩,⟨5,.phase⟩,⟨6,.phase⟩,⟨7,.phase⟩,⟨8,.phase⟩,⟨9,.phase⟩,⟨10,.phase⟩,⟨11,.phase⟩,⟨12,.phase⟩,⟨13,.phase⟩,⟨14,.phase⟩,⟨15,.phase⟩,⟨16,.phase⟩,⟨17,.phase⟩],none⟩) rfl (fun K hK=>?_);go_simp;refine hK.out _ _ ae.out.2.1 (fun hHeld=>?_);clear hK K c2 c8;refine wpAnyH_done (by kernel_rfl) ?_ _;go_wp2;go_roundw
      case rel=>exact⟨k+1,_,_,by omega,by go_num,ae.out.2.2.2.1,ae.out.2.2.2.2.1,ax,ae.out.2.2.2.2.2.1,ae.out.2.2.2.2.2.2,aB,ay⟩
      case measure=>simp[intOf];omega
    . go_simp;refine hK.out _ _ (KS.out _ aD.out) (fun hHeld=>?_);clear hK K;refine wpAnyH_ready (rs:=[0,16]) (by kernel_rfl) (by simp) ?_;refine AllReadyH.cons (o:=⟨some 14,.load 28 (.tmp 2),28, "model.go:29",#[],none⟩) rfl (fun K hK=>?_) (AllReadyH.cons (o:=⟨some 30,.buildSlice 28 1 #[(0,.tmp 29)],28, "model.go:29",#[⟨15,.data⟩],none⟩) rfl (fun K hK=>?_) AllReadyH.nil)
      . go_simp;refine hK.out _ _ (KS.out _ aD.out) (fun hHeld=>?_);clear hK K;refine rdH (k:=16) (o:=⟨some 30,.buildSlice 28 1 #[(0,.tmp 29)],28, "model.go:29",#[⟨15,.data⟩],none⟩) rfl (fun K hK=>?_);go_simp;refine hK.out _ _ (KS.out _ ap.out) (fun hHeld=>?_);clear hK K;refine rdH (k:=17) (o:=⟨some 31,.call { callee:=.builtin .append,args:=#[.tmp 14,.tmp 30],argTypes:=#[28,28] },28, "model.go:29",#[⟨0,.data⟩,⟨16,.data⟩],none⟩) rfl (fun K hK=>?_);refine step_append_lies _ (by rfl) _ _ _ (by rfl) w0.heap.size 34 i0 _ 1 24 Tryz.underlying28 bo bl bs bq rfl (by decide) (.slice ua nu uc) _ _ (by rfl) an.out ⟨wy.heap.size+1,0,none⟩ 1 1 [.slice (some ⟨wy.heap.size,0,none⟩) 2 2] (by rfl) (by rfl) bg.out (by simp[Value.oneCell']) (by decide) (by unfold maxLen;omega) (by omega) (by have:=HZ.out;simp;omega) (wy.heap.size+2) (by simp) ?_;intro gg aa w9 ad ab af ak;have ae:=zA (bm.out gg aa w9 ad ab af);refine hK.out _ _ ae.out.1 (fun hHeld=>?_);clear hK K ad ab af ak;obtain⟨c2,c8⟩:=ae.out.2.2.1;refine rdH (k:=18) (o:=⟨none,.store 28 (.tmp 2) (.tmp 31),0, "model.go:29",#[⟨17,.data⟩,⟨17,.chain⟩,⟨0,.phase⟩,⟨1,.phase⟩,⟨2,.phase⟩,⟨3,.phase⟩,⟨4,.phase⟩,⟨5,.phase⟩,⟨6,.phase⟩,⟨7,.phase⟩,⟨8,.phase⟩,⟨9,.phase⟩,⟨10,.phase⟩,⟨11,.phase⟩,⟨12,.phase⟩,⟨13,.phase⟩,⟨14,.phase⟩,⟨15,.phase⟩,⟨16,.phase⟩,⟨17,.phase⟩],none⟩) rfl (fun K hK=>?_);go_simp;refine hK.out _ _ ae.out.2.1 (fun hHeld=>?_);clear hK K c2 c8;refine wpAnyH_done (by kernel_rfl) ?_ _;go_wp2;go_roundw
        case rel=>exact⟨k+1,_,_,by omega,by go_num,ae.out.2.2.2.1,ae.out.2.2.2.2.1,ax,ae.out.2.2.2.2.2.1,ae.out.2.2.2.2.2.2,aB,ay⟩
        case measure=>simp[intOf];omega
      . go_simp;refine hK.out _ _ (KS.out _ ap.out) (fun hHeld=>?_);clear hK K;refine rdH (k:=0) (o:=⟨some 14,.load 28 (.tmp 2),28, "model.go:29",#[],none⟩) rfl (fun K hK=>?_);go_simp;refine hK.out _ _ (KS.out _ ap.out) (fun hHeld=>?_);clear hK K;refine rdH (k:=17) (o:=⟨some 31,.call { callee:=.builtin .append,args:=#[.tmp 14,.tmp 30],argTypes:=#[28,28] },28, "model.go:29",#[⟨0,.data⟩,⟨16,.data⟩],none⟩) rfl (fun K hK=>?_);refine step_append_lies _ (by rfl) _ _ _ (by rfl) w0.heap.size 34 i0 _ 1 24 Tryz.underlying28 bo bl bs bq rfl (by decide) (.slice ua nu uc) _ _ (by rfl) an.out ⟨wy.heap.size+1,0,none⟩ 1 1 [.slice (some ⟨wy.heap.size,0,none⟩) 2 2] (by rfl) (by rfl) bg.out (by simp[Value.oneCell']) (by decide) (by unfold maxLen;omega) (by omega) (by have:=HZ.out;simp;omega) (wy.heap.size+2) (by simp) ?_;intro gg aa w9 ad ab af ak;have ae:=zA (bm.out gg aa w9 ad ab af);refine hK.out _ _ ae.out.1 (fun hHeld=>?_);clear hK K ad ab af ak;obtain⟨c2,c8⟩:=ae.out.2.2.1;refine rdH (k:=18) (o:=⟨none,.store 28 (.tmp 2) (.tmp 31),0, "model.go:29",#[⟨17,.data⟩,⟨17,.chain⟩,⟨0,.phase⟩,⟨1,.phase⟩,⟨2,.phase⟩,⟨3,.phase⟩,⟨4,.phase⟩,⟨5,.phase⟩,⟨6,.phase⟩,⟨7,.phase⟩,⟨8,.phase⟩,⟨9,.phase⟩,⟨10,.phase⟩,⟨11,.phase⟩,⟨12,.phase⟩,⟨13,.phase⟩,⟨14,.phase⟩,⟨15,.phase⟩,⟨16,.phase⟩,⟨17,.phase⟩],none⟩) rfl (fun K hK=>?_);go_simp;refine hK.out _ _ ae.out.2.1 (fun hHeld=>?_);clear hK K c2 c8;refine wpAnyH_done (by kernel_rfl) ?_ _;go_wp2;go_roundw
        case rel=>exact⟨k+1,_,_,by omega,by go_num,ae.out.2.2.2.1,ae.out.2.2.2.2.1,ax,ae.out.2.2.2.2.2.1,ae.out.2.2.2.2.2.2,aB,ay⟩
        case measure=>simp[intOf];omega
  . have aV:¬(k:Int)<(nt:Int):=by omega
    have b6:Hid (gx.map (·.2)=jbk V mt (i+1)):=zA (by
     rw[bI.out,zJ (by rw[<- aQ.out];omega),jdM,<- aN.out,HX.out])
    have bk:w.heap.size<=wy.heap.size:=zT aA.out ai.out.size;have aL:∀b,b<w.heap.size->b≠vl->lv.ownBlock≠some b->wy.heap[b]?=w.heap[b]?:=fun b hb h1 h2=>(ai.out.block b ((aR.out b).2 ⟨by have:=aA.out;omega,h1,h2⟩)).trans (aw.out.block b hb)
    have aY:Hid (∃T2:Nat->Prop,(∀k,S k->T2 k)/\Low T2 wy/\SrS T2 wy sb d s m/\PInv w0 S0 vl V mt (i+1) T2 wy):=zA (by
     refine⟨Plus S w.heap.size wy.heap.size,fun k hk=>.inl hk,bZ.out.plus bk,?_,?_⟩
     . refine aK.out.keep bk (fun b hb ho=>⟨fun hp=>?_,?_⟩) (fun b hb hkb=>?_) (fun b hb=>.inl (aK.out.kS b hb))
       . rcases hp with hp|hp
         . exact aK.out.own_no ho hp
         . omega
       . exact aL b hb (fun e=>aK.out.own_no ho (e▸aq.out.svl)) (fun e=>aK.out.own_no ho (aG.out b e))
       . have h0:=bR.out b hkb;exact(ai.out.block b (ah.out b h0).1).trans (ah.out b h0).2
     . have a8:Fr S0 w wy:=⟨(ai.out.os).trans aw.out.os,(ai.out.tape).trans aw.out.tape,(ai.out.output).trans aw.out.output,bk,fun b hb=>(ai.out.block b (ah.out b hb).1).trans (ah.out b hb).2⟩
       refine⟨fun k hk=>.inl (aq.out.sub k hk),aq.out.fr.trans a8,.inl aq.out.svl,lx,gx,aF.out,HR.out,fun g hg=>?_,fun p hp=>?_,b6.out⟩
       . rcases aX.out g hg with h1|h1
         . exact .inl (aG.out g h1)
         . exact .inr ⟨zT aA.out h1,(HR.out.row.lt g hg).2⟩
       . rcases bB.out p hp with h1|h1
         . exact .inl (bc.out p h1)
         . exact .inr ⟨zT aA.out h1,lt_of_block (HR.out.blk p hp)⟩)
    go_wp2;go_end0;exact⟨rfl,aY.out⟩
end Go.Proofs.YtkbgmcmcpbegjaaGreatDoor
