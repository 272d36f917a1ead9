/- XBuild1, XBuild2. -/
import Derived.Test.YtdalcipmpelifaaGreatDoorMG43
set_option maxRecDepth 100000
namespace Go.Proofs.YtdalcipmpelifaaGreatDoor
open Go.RowKit Go.Shelf
theorem Pool.pair{w:World}{l:List Sx}(h:Pool w l):l.Pairwise (fun x y=>(∀k,OwnX x k->¬OwnX y k)):=by
 rw[List.pairwise_iff_getElem];intro i j hi hj hij;exact h.apart i j _ _ (zB hi) (zB hj) (by omega)
theorem pool_of{w:World}{l:List Sx}(h1:∀x∈l,∃s,SrS (fun k=>k<w.heap.size/\¬OwnX x k) w x.1 x.2.1 s x.2.2/\Rest x.2.1 s)(h2:l.Pairwise (fun x y=>(∀k,OwnX x k->¬OwnX y k)))(h3:∀x∈l,∀y∈l,∀k,x.2.1.kp k->¬OwnX y k):Pool w l:=by
 refine⟨h1,fun i j x y hi hj hne k hx hy=>?_,h3⟩;obtain⟨hi1,rfl⟩:=zE.1 hi;obtain⟨hj1,rfl⟩:=zE.1 hj;rw[List.pairwise_iff_getElem]at h2;rcases Nat.lt_or_gt_of_ne hne with h|h
 . exact h2 i j hi1 hj1 h k hx hy
 . exact h2 j i hj1 hi1 h k hy hx
theorem Pool.perm{w:World}{l l':List Sx}(h:Pool w l)(hp:l.Perm l'):Pool w l':=
 pool_of (fun x hx=>h.at_ x (hp.mem_iff.2 hx)) ((hp.pairwise_iff (fun {_ _} hxy k h1 h2=>hxy k h2 h1)).1 h.pair) (fun x hx y hy=>h.kp x (hp.mem_iff.2 hx) y (hp.mem_iff.2 hy))
theorem Pool.add{w w':World}{l:List Sx}(h:Pool w l)(hb:Below w.heap.size w w'){x:Sx}(hx:∃s,SrS (fun k=>k<w'.heap.size/\¬OwnX x k) w' x.1 x.2.1 s x.2.2/\Rest x.2.1 s)(ho:∀k,OwnX x k->w.heap.size<=k)(hk:∀k,x.2.1.kp k->w.heap.size<=k):Pool w' (l++[x]):=by
 have h':=h.below hb;obtain⟨s,hs,_⟩:=hx;refine pool_of (fun y hy=>?_) ?_ (fun y hy z hz k hky hoz=>?_)
 . rcases zN.1 hy with hy|hy
   . exact h'.at_ y hy
   . rw[zJ.1 hy];exact⟨s,hs,by assumption⟩
 . rw[List.pairwise_append];refine⟨h'.pair,List.pairwise_singleton _ _,fun y hy z hz k h1 h2=>?_⟩;rw[zJ.1 hz]at h2;have:=h.own_lt hy h1;have:=ho k h2;omega
 . rcases zN.1 hy with hy|hy
   . rcases zN.1 hz with hz|hz
     . exact h'.kp y hy z hz k hky hoz
     . rw[zJ.1 hz]at hoz;have:=h.kp_lt hy hky;have:=ho k hoz;omega
   . rw[zJ.1 hy]at hky;rcases zN.1 hz with hz|hz
     . have:=h.own_lt hz hoz;have:=hk k hky;omega
     . rw[zJ.1 hz]at hoz;exact(hs.kS k hky).2 hoz
def XJ(jb mp:Nat)(J:Jv)(k:Nat):Prop:=XS jb mp J k\/J.lv.ownBlock=some k\/J.rv.ownBlock=some k
structure JB (B:Nat) (V:List Wd) (w0 w:World) (jb mp:Nat) (J:Jv) (ts:List Tm) (frs:List (Value×List Nat)) (D:Nat->Prop) (lks rks:List Lm) (l:List Sx):Prop where
 bel:Below B w0 w
 sl:SL B V w jb mp J ts frs D
 Bw:B<=w.heap.size
 li:w.ownsRow B 120 4 J.lv lks.length (lks.flatMap csL)
 ri:w.ownsRow B 120 4 J.rv rks.length (rks.flatMap csL)
 lr:∀k,J.lv.ownBlock=some k->J.rv.ownBlock≠some k
 pool:Pool w l
 pB:∀x∈l,∀k,(OwnX x k\/x.2.1.kp k)->B<=k
 px:∀k,XJ jb mp J k->∀x∈l,¬OwnX x k/\¬x.2.1.kp k
 pd:∀k,D k->∀x∈l,¬OwnX x k
 dl:∀k,D k->J.lv.ownBlock≠some k/\J.rv.ownBlock≠some k
 fv:J.fv=.slice none 0 0
 vv:J.vv=.slice none 0 0
section
variable {B:Nat} {V:List Wd} {w0 w w':World} {jb mp:Nat} {J J':Jv} {ts:List Tm} {frs:List (Value×List Nat)} {D:Nat->Prop} {lks rks:List Lm} {l:List Sx}
theorem JB.lx(h:JB B V w0 w jb mp J ts frs D lks rks l){v:Value}{n:Nat}{xs:List Value}(hv:w.ownsRow B 120 4 v n xs){k:Nat}(hk:v.ownBlock=some k):¬XS jb mp J k:=fun hx=>by
 obtain⟨_,_,hm,_⟩:=h.sl.map;rcases hx with rfl|rfl|hx|hx
 . exact own_neG hv h.sl.blk (by decide) hk
 . exact own_ne_mapG hv hm hk
 . exact rows_neX h.sl.al hv (by decide) hx hk
 . exact rows_neX h.sl.fi hv (by decide) hx hk
theorem JB.xlt(h:JB B V w0 w jb mp J ts frs D lks rks l){k:Nat}(hk:XJ jb mp J k):B<=k/\k<w.heap.size:=by
 rcases hk with hk|hk|hk
 . exact h.sl.xlt hk
 . exact h.li.lt k hk
 . exact h.ri.lt k hk
theorem JB.below(h:JB B V w0 w jb mp J ts frs D lks rks l)(hb:Below w.heap.size w w'):JB B V w0 w' jb mp J ts frs D lks rks l:=
 ⟨h.bel.trans (hb.mono h.Bw),h.sl.keep hb.size (fun k hk=>hb.block k (hk.elim (fun h1=>(h.sl.xlt h1).2) (fun h1=>(h.sl.dl k h1).2))),zQ h.Bw hb.size,owns_below h.li hb,owns_below h.ri hb,h.lr,h.pool.below hb,h.pB,h.px,h.pd,h.dl,h.fv,h.vv⟩
theorem JB.slot{t:Tm}{e:Ending}(h:JB B V w0 w jb mp J ts frs D lks rks l)(hs:SloE B V w jb mp J ts D t e w'):∃J' frs' D',e=.returned (.int .i64 ((addT ts t).idxOf t:Nat))/\JB B V w0 w' jb mp J' (addT ts t) frs' D' lks rks l/\Fr (fun k=>k<w.heap.size/\¬XJ jb mp J k) w w'/\(∀k,XJ jb mp J' k->XJ jb mp J k\/w.heap.size<=k)/\(∀k,D' k->D k\/w.heap.size<=k):=by
 obtain⟨he,av,cv,frs',D',h1,h2,h3,h4⟩:=hs;have hown:∀k,k<w.heap.size->¬XS jb mp J k->w'.heap[k]?=w.heap[k]?:=fun k hk hx=>h4.block k ⟨hk,hx⟩
 have hxj:∀k,XJ jb mp { J with av:=av,cv:=cv } k->XJ jb mp J k\/w.heap.size<=k:=fun k hk=>by
  rcases hk with hk|hk|hk
  . exact(h2 k hk).imp .inl id
  . exact .inl (.inr (.inl hk))
  . exact .inl (.inr (.inr hk))
 refine⟨_,frs',D',he,⟨?_,h1,zQ h.Bw h4.size,?_,?_,h.lr,?_,h.pB,fun k hk x hx=>?_,fun k hk x hx ho=>?_,fun k hk=>?_,h.fv,h.vv⟩,h4.sub (fun k hk=>⟨hk.1,fun hx=>hk.2 (.inl hx)⟩),hxj,h3⟩
 . exact⟨h4.os.trans h.bel.os,h4.tape.trans h.bel.tape,h4.output.trans h.bel.output,zQ h.bel.size h4.size,fun k hk=>(hown k (zO hk h.Bw) (fun hx=>by have:=(h.sl.xlt hx).1;omega)).trans (h.bel.block k hk)⟩
 . exact owns_key h.li (fun g o hg ho=>(hown g (h.li.lt g hg).2 (h.lx h.li hg)).trans ho)
 . exact owns_key h.ri (fun g o hg ho=>(hown g (h.ri.lt g hg).2 (h.lx h.ri hg)).trans ho)
 . exact h.pool.keep h4.size (fun x hx k hk=>hown k (hk.elim (h.pool.own_lt hx) (h.pool.kp_lt hx)) (fun hxs=>hk.elim (h.px k (.inl hxs) x hx).1 (h.px k (.inl hxs) x hx).2))
 . rcases hxj k hk with h5|h5
   . exact h.px k h5 x hx
   . exact⟨fun ho=>by have:=h.pool.own_lt hx ho;omega,fun hkp=>by have:=h.pool.kp_lt hx hkp;omega⟩
 . rcases h3 k hk with h5|h5
   . exact h.pd k h5 x hx ho
   . have:=h.pool.own_lt hx ho;omega
 . rcases h3 k hk with h5|h5
   . exact h.dl k h5
   . exact⟨fun e=>by have:=(h.li.lt k e).2;omega,fun e=>by have:=(h.ri.lt k e).2;omega⟩
theorem JB.search{n:Nat}{E:List Eg}{a:Au}{e:Ending}(h:JB B V w0 w jb mp J ts frs D lks rks l)(hs:NewE w n E a e w'):∃sb m kp,e=.returned (.pointer (some ⟨sb,0,none⟩))/\JB B V w0 w' jb mp J ts frs D lks rks (l++[(sb,sdOf kp n E a,m)])/\Below w.heap.size w w'/\(∀k,OwnB sb m k\/kp k->w.heap.size<=k):=by
 obtain⟨sb,m,kp,he,h1,h2,h3,h4⟩:=hs;have h':=h.below h4;have hd:(sdOf kp n E a).n=n:=rfl;have hkp:(sdOf kp n E a).kp=kp:=rfl;have hpool:=h.pool.add h4 (x:=(sb,sdOf kp n E a,m)) ⟨_,h1,rest_new (sdOf kp n E a)⟩ h2 (fun k hk=>(h3 k hk).1);refine⟨sb,m,kp,he,⟨h'.bel,h'.sl,h'.Bw,h'.li,h'.ri,h'.lr,hpool,fun x hx k hk=>?_,fun k hk x hx=>?_,fun k hk x hx ho=>?_,h'.dl,h'.fv,h'.vv⟩,h4,fun k hk=>hk.elim (h2 k) (fun h5=>(h3 k h5).1)⟩
 . rcases zN.1 hx with hx|hx
   . exact h.pB x hx k hk
   . rw[zJ.1 hx]at hk;have hBw:=h.Bw;rcases hk with hk|hk
     . have:=h2 k hk;omega
     . have:=(h3 k hk).1;omega
 . have hkl:=(h.xlt hk).2;rcases zN.1 hx with hx|hx
   . exact h.px k hk x hx
   . rw[zJ.1 hx];exact⟨fun ho=>by have:=h2 k ho;omega,fun hkp=>by have:=(h3 k hkp).1;omega⟩
 . rcases zN.1 hx with hx|hx
   . exact h.pd k hk x hx ho
   . rw[zJ.1 hx]at ho;have:=h2 k ho;have:=(h.sl.dl k hk).2;omega
theorem JB.perm{l':List Sx}(h:JB B V w0 w jb mp J ts frs D lks rks l)(hp:l.Perm l'):JB B V w0 w jb mp J ts frs D lks rks l':=
 ⟨h.bel,h.sl,h.Bw,h.li,h.ri,h.lr,h.pool.perm hp,fun x hx=>h.pB x (hp.mem_iff.2 hx),fun k hk x hx=>h.px k hk x (hp.mem_iff.2 hx),fun k hk x hx=>h.pd k hk x (hp.mem_iff.2 hx),h.dl,h.fv,h.vv⟩
theorem JB.putL{wz w9:World}{v9:Value}{L:Lm}(h:JB B V w0 w jb mp J ts frs D lks rks l)(hb:Below w.heap.size w wz)(hr:w9.ownsRow B 120 4 v9 (lks.length+1) (lks.flatMap csL++csL L))(hk9:∀k,k<wz.heap.size->J.lv.ownBlock≠some k->w9.heap[k]?=wz.heap[k]?)(hz9:wz.heap.size<=w9.heap.size)(ho:w9.os=wz.os)(ht:w9.tape=wz.tape)(hu:w9.output=wz.output)(ha:∀g,v9.ownBlock=some g->J.lv.ownBlock=some g\/wz.heap.size<=g):
 JB B V w0 (w9.setCell ⟨jb,3,none⟩ v9) jb mp { J with lv:=v9 } ts frs D (lks++[L]) rks l/\Fr (fun k=>k<w.heap.size/\¬XJ jb mp J k) w (w9.setCell ⟨jb,3,none⟩ v9)/\(∀k,XJ jb mp { J with lv:=v9 } k->XJ jb mp J k\/w.heap.size<=k):=by
 have hz:=hb.size;have hjl:=lt_of_block h.sl.blk;have hBw:=h.Bw;have hfj:J.lv.ownBlock≠some jb:=fun e=>h.lx h.li e (.inl rfl)
 have hset:∀k,k≠jb->(w9.setCell ⟨jb,3,none⟩ v9).heap[k]?=w9.heap[k]?:=fun k hk=>zM _ _ _ _ hk
 have hsz:(w9.setCell ⟨jb,3,none⟩ v9).heap.size=w9.heap.size:=by simp
 have hblk9:w9.heap[jb]?=some (.cells J.cells 114 (0,0)):=(hk9 jb (by omega) hfj).trans ((hb.block jb hjl).trans h.sl.blk);have hblkF:(w9.setCell ⟨jb,3,none⟩ v9).heap[jb]?=some (.cells ({ J with lv:=v9 }:Jv).cells 114 (0,0)):=by
  simp[World.setCell,Array.getElem?_modify,hblk9,Jv.cells]
 have hold:∀k,k<w.heap.size->k≠jb->J.lv.ownBlock≠some k->(w9.setCell ⟨jb,3,none⟩ v9).heap[k]?=w.heap[k]?:=fun k hk h1 h2=>(hset k h1).trans ((hk9 k (by omega) h2).trans (hb.block k hk))
 have hxs:∀k,XS jb mp { J with lv:=v9 } k↔XS jb mp J k:=fun k=>Iff.rfl
 have hxj:∀k,XJ jb mp { J with lv:=v9 } k->XJ jb mp J k\/w.heap.size<=k:=fun k hk=>by
  rcases hk with hk|hk|hk
  . exact .inl (.inl hk)
  . rcases ha k hk with h1|h1
    . exact .inl (.inr (.inl h1))
    . exact .inr (by omega)
  . exact .inl (.inr (.inr hk))
 obtain⟨cnt,DM,hm,hm2⟩:=h.sl.map;have hmj:mp≠jb:=blk_ne_mapG h.sl.blk hm;have hnl:∀k,XS jb mp J k->J.lv.ownBlock≠some k:=fun k hk e=>h.lx h.li e hk
 have hnj:∀ {v:Value} {e:TypeId} {s n:Nat} {xs:List Value},w.ownsRow B e s v n xs->e≠114->∀g,v.ownBlock=some g->g≠jb:=fun hv hne g hg e=>own_neG hv h.sl.blk hne (e▸hg)
 refine⟨⟨?_,⟨hblkF,h.sl.sv,h.sl.jB,h.sl.mB,⟨cnt,DM,map_keyG hm (fun o ho2=>(hold mp hm.lt hmj (hnl mp (.inr (.inl rfl)))).trans ho2),hm2⟩,owns_key h.sl.al (fun g o hg ho2=>(hold g (h.sl.al.lt g hg).2 (hnj h.sl.al (by decide) g hg) (hnl g (.inr (.inr (.inl hg))))).trans ho2),owns_key h.sl.fi (fun g o hg ho2=>(hold g (h.sl.fi.lt g hg).2 (hnj h.sl.fi (by decide) g hg) (hnl g (.inr (.inr (.inr hg))))).trans ho2),h.sl.frc,fun r hr2=>(h.sl.fat r hr2).keep (by omega) (fun k hk hl=>⟨hk,hold k hl (fun e=>h.sl.dx k hk (.inl e)) (h.dl k hk).1⟩),fun k hk=>⟨(h.sl.dl k hk).1,by have:=(h.sl.dl k hk).2;omega⟩,h.sl.dx⟩,by omega,?_,?_,?_,?_,h.pB,fun k hk x hx=>?_,h.pd,?_,h.fv,h.vv⟩,⟨ho.trans hb.os,ht.trans hb.tape,hu.trans hb.output,by omega,fun k hk=>hold k hk.1 (fun e=>hk.2 (.inl (.inl e))) (fun e=>hk.2 (.inr (.inl e)))⟩,hxj⟩
 . exact⟨(ho.trans hb.os).trans h.bel.os,(ht.trans hb.tape).trans h.bel.tape,(hu.trans hb.output).trans h.bel.output,by have:=h.bel.size;omega,fun k hk=>(hold k (by omega) (fun e=>by have:=h.sl.jB;omega) (fun e=>by have:=(h.li.lt k e).1;omega)).trans (h.bel.block k hk)⟩
 . exact owns_key (show w9.ownsRow B 120 4 v9 (lks++[L]).length ((lks++[L]).flatMap csL)from by rw[zG,zY];simpa using hr) (fun g o hg ho2=>(hset g (fun e=>by
    rcases ha g hg with h1|h1
    . exact hfj (e▸h1)
    . omega)).trans ho2)
 . exact owns_key h.ri (fun g o hg ho2=>(hold g (h.ri.lt g hg).2 (hnj h.ri (by decide) g hg) (fun e=>h.lr g e hg)).trans ho2)
 . intro k hk e;rcases ha k hk with h1|h1
   . exact h.lr k h1 e
   . have:=(h.ri.lt k e).2;omega
 . exact h.pool.keep (by omega) (fun x hx k hk=>hold k (hk.elim (h.pool.own_lt hx) (h.pool.kp_lt hx)) (fun e=>hk.elim (h.px k (.inl (.inl e)) x hx).1 (h.px k (.inl (.inl e)) x hx).2) (fun e=>hk.elim (h.px k (.inr (.inl e)) x hx).1 (h.px k (.inr (.inl e)) x hx).2))
 . rcases hxj k hk with h5|h5
   . exact h.px k h5 x hx
   . exact⟨fun ho2=>by have:=h.pool.own_lt hx ho2;omega,fun hkp=>by have:=h.pool.kp_lt hx hkp;omega⟩
 . intro k hk;have hkl:=(h.sl.dl k hk).2;have hnew:v9.ownBlock≠some k:=fun e=>by
    rcases ha k e with h1|h1
    . exact(h.dl k hk).1 h1
    . omega
   exact⟨hnew,(h.dl k hk).2⟩
theorem JB.putR{wz w9:World}{v9:Value}{L:Lm}(h:JB B V w0 w jb mp J ts frs D lks rks l)(hb:Below w.heap.size w wz)(hr:w9.ownsRow B 120 4 v9 (rks.length+1) (rks.flatMap csL++csL L))(hk9:∀k,k<wz.heap.size->J.rv.ownBlock≠some k->w9.heap[k]?=wz.heap[k]?)(hz9:wz.heap.size<=w9.heap.size)(ho:w9.os=wz.os)(ht:w9.tape=wz.tape)(hu:w9.output=wz.output)(ha:∀g,v9.ownBlock=some g->J.rv.ownBlock=some g\/wz.heap.size<=g):
 JB B V w0 (w9.setCell ⟨jb,4,none⟩ v9) jb mp { J with rv:=v9 } ts frs D lks (rks++[L]) l/\Fr (fun k=>k<w.heap.size/\¬XJ jb mp J k) w (w9.setCell ⟨jb,4,none⟩ v9)/\(∀k,XJ jb mp { J with rv:=v9 } k->XJ jb mp J k\/w.heap.size<=k):=by
 have hz:=hb.size;have hjl:=lt_of_block h.sl.blk;have hBw:=h.Bw;have hfj:J.rv.ownBlock≠some jb:=fun e=>h.lx h.ri e (.inl rfl)
 have hset:∀k,k≠jb->(w9.setCell ⟨jb,4,none⟩ v9).heap[k]?=w9.heap[k]?:=fun k hk=>zM _ _ _ _ hk
 have hsz:(w9.setCell ⟨jb,4,none⟩ v9).heap.size=w9.heap.size:=by simp
 have hblk9:w9.heap[jb]?=some (.cells J.cells 114 (0,0)):=(hk9 jb (by omega) hfj).trans ((hb.block jb hjl).trans h.sl.blk);have hblkF:(w9.setCell ⟨jb,4,none⟩ v9).heap[jb]?=some (.cells ({ J with rv:=v9 }:Jv).cells 114 (0,0)):=by
  simp[World.setCell,Array.getElem?_modify,hblk9,Jv.cells]
 have hold:∀k,k<w.heap.size->k≠jb->J.rv.ownBlock≠some k->(w9.setCell ⟨jb,4,none⟩ v9).heap[k]?=w.heap[k]?:=fun k hk h1 h2=>(hset k h1).trans ((hk9 k (by omega) h2).trans (hb.block k hk))
 have hxs:∀k,XS jb mp { J with rv:=v9 } k↔XS jb mp J k:=fun k=>Iff.rfl
 have hxj:∀k,XJ jb mp { J with rv:=v9 } k->XJ jb mp J k\/w.heap.size<=k:=fun k hk=>by
  rcases hk with hk|hk|hk
  . exact .inl (.inl hk)
  . exact .inl (.inr (.inl hk))
  . rcases ha k hk with h1|h1
    . exact .inl (.inr (.inr h1))
    . exact .inr (by omega)
 obtain⟨cnt,DM,hm,hm2⟩:=h.sl.map;have hmj:mp≠jb:=blk_ne_mapG h.sl.blk hm;have hnl:∀k,XS jb mp J k->J.rv.ownBlock≠some k:=fun k hk e=>h.lx h.ri e hk
 have hnj:∀ {v:Value} {e:TypeId} {s n:Nat} {xs:List Value},w.ownsRow B e s v n xs->e≠114->∀g,v.ownBlock=some g->g≠jb:=fun hv hne g hg e=>own_neG hv h.sl.blk hne (e▸hg)
 refine⟨⟨?_,⟨hblkF,h.sl.sv,h.sl.jB,h.sl.mB,⟨cnt,DM,map_keyG hm (fun o ho2=>(hold mp hm.lt hmj (hnl mp (.inr (.inl rfl)))).trans ho2),hm2⟩,owns_key h.sl.al (fun g o hg ho2=>(hold g (h.sl.al.lt g hg).2 (hnj h.sl.al (by decide) g hg) (hnl g (.inr (.inr (.inl hg))))).trans ho2),owns_key h.sl.fi (fun g o hg ho2=>(hold g (h.sl.fi.lt g hg).2 (hnj h.sl.fi (by decide) g hg) (hnl g (.inr (.inr (.inr hg))))).trans ho2),h.sl.frc,fun r hr2=>(h.sl.fat r hr2).keep (by omega) (fun k hk hl=>⟨hk,hold k hl (fun e=>h.sl.dx k hk (.inl e)) (h.dl k hk).2⟩),fun k hk=>⟨(h.sl.dl k hk).1,by have:=(h.sl.dl k hk).2;omega⟩,h.sl.dx⟩,by omega,?_,?_,?_,?_,h.pB,fun k hk x hx=>?_,h.pd,?_,h.fv,h.vv⟩,⟨ho.trans hb.os,ht.trans hb.tape,hu.trans hb.output,by omega,fun k hk=>hold k hk.1 (fun e=>hk.2 (.inl (.inl e))) (fun e=>hk.2 (.inr (.inr e)))⟩,hxj⟩
 . exact⟨(ho.trans hb.os).trans h.bel.os,(ht.trans hb.tape).trans h.bel.tape,(hu.trans hb.output).trans h.bel.output,by have:=h.bel.size;omega,fun k hk=>(hold k (by omega) (fun e=>by have:=h.sl.jB;omega) (fun e=>by have:=(h.ri.lt k e).1;omega)).trans (h.bel.block k hk)⟩
 . exact owns_key h.li (fun g o hg ho2=>(hold g (h.li.lt g hg).2 (hnj h.li (by decide) g hg) (h.lr g hg)).trans ho2)
 . exact owns_key (show w9.ownsRow B 120 4 v9 (rks++[L]).length ((rks++[L]).flatMap csL)from by rw[zG,zY];simpa using hr) (fun g o hg ho2=>(hset g (fun e=>by
    rcases ha g hg with h1|h1
    . exact hfj (e▸h1)
    . omega)).trans ho2)
 . intro k hk e;rcases ha k e with h1|h1
   . exact h.lr k hk h1
   . have:=(h.li.lt k hk).2;omega
 . exact h.pool.keep (by omega) (fun x hx k hk=>hold k (hk.elim (h.pool.own_lt hx) (h.pool.kp_lt hx)) (fun e=>hk.elim (h.px k (.inl (.inl e)) x hx).1 (h.px k (.inl (.inl e)) x hx).2) (fun e=>hk.elim (h.px k (.inr (.inr e)) x hx).1 (h.px k (.inr (.inr e)) x hx).2))
 . rcases hxj k hk with h5|h5
   . exact h.px k h5 x hx
   . exact⟨fun ho2=>by have:=h.pool.own_lt hx ho2;omega,fun hkp=>by have:=h.pool.kp_lt hx hkp;omega⟩
 . intro k hk;have hkl:=(h.sl.dl k hk).2;have hnew:v9.ownBlock≠some k:=fun e=>by
    rcases ha k e with h1|h1
    . exact(h.dl k hk).2 h1
    . omega
   exact⟨(h.dl k hk).1,hnew⟩
theorem JB.touch{k0:Nat}(h:JB B V w0 w jb mp J ts frs D lks rks l)(hk0:B<=k0)(hx:¬XJ jb mp J k0)(hd:¬D k0)(hp:∀x∈l,¬OwnX x k0/\¬x.2.1.kp k0)(hz:w'.heap.size=w.heap.size)(ho:w'.os=w.os)(ht:w'.tape=w.tape)(hu:w'.output=w.output)(hk:∀k,k≠k0->w'.heap[k]?=w.heap[k]?):JB B V w0 w' jb mp J ts frs D lks rks l:=by
 have hxk:∀k,XJ jb mp J k->w'.heap[k]?=w.heap[k]?:=fun k hk2=>hk k (fun e=>hx (e▸hk2))
 exact⟨⟨ho.trans h.bel.os,ht.trans h.bel.tape,hu.trans h.bel.output,by rw[hz];exact h.bel.size,fun k hk2=>(hk k (by omega)).trans (h.bel.block k hk2)⟩,h.sl.keep (by omega) (fun k hk2=>hk2.elim (fun h1=>hxk k (.inl h1)) (fun h1=>hk k (fun e=>hd (e▸h1)))),by rw[hz];exact h.Bw,owns_key h.li (fun g o hg ho2=>(hxk g (.inr (.inl hg))).trans ho2),owns_key h.ri (fun g o hg ho2=>(hxk g (.inr (.inr hg))).trans ho2),h.lr,h.pool.keep (by omega) (fun x hx2 k hk2=>hk k (fun e=>hk2.elim (fun h1=>(hp x hx2).1 (e▸h1)) (fun h1=>(hp x hx2).2 (e▸h1)))),h.pB,h.px,h.pd,h.dl,h.fv,h.vv⟩
end
def Bxs(jb mp:Nat)(J:Jv)(D:Nat->Prop)(l:List Sx)(u:World)(bs:List (Nat×Obj)):Prop:=∀b∈bs,u.heap[b.1]?=some b.2/\¬XJ jb mp J b.1/\¬D b.1/\∀x∈l,¬OwnX x b.1/\¬x.2.1.kp b.1
structure RS (B:Nat) (V:List Wd) (w0 w1 u:World) (jb mp:Nat) (J:Jv) (ts:List Tm) (frs:List (Value×List Nat)) (D:Nat->Prop) (lks rks:List Lm) (l:List Sx) (bs:List (Nat×Obj)):Prop where
 jb_:JB B V w0 u jb mp J ts frs D lks rks l
 fr:Fr (fun k=>k<w1.heap.size/\k≠jb/\k≠mp) w1 u
 xi:∀k,XJ jb mp J k->k=jb\/k=mp\/w1.heap.size<=k
 bx:Bxs jb mp J D l u bs
section
variable {B:Nat} {V:List Wd} {w0 w1 u u':World} {jb mp:Nat} {J J':Jv} {ts:List Tm} {frs:List (Value×List Nat)} {D:Nat->Prop} {lks rks:List Lm} {l:List Sx} {bs:List (Nat×Obj)}
theorem RS.below(h:RS B V w0 w1 u jb mp J ts frs D lks rks l bs)(hb:Below u.heap.size u u'):RS B V w0 w1 u' jb mp J ts frs D lks rks l bs:=
 ⟨h.jb_.below hb,h.fr.trans ⟨hb.os,hb.tape,hb.output,hb.size,fun k hk=>hb.block k (zO hk.1 h.fr.size)⟩,h.xi,fun b hb2=>⟨(hb.block b.1 (lt_of_block (h.bx b hb2).1)).trans (h.bx b hb2).1,(h.bx b hb2).2⟩⟩
theorem RS.alloc(h:RS B V w0 w1 u jb mp J ts frs D lks rks l bs)(o:Obj):RS B V w0 w1 (u.alloc o) jb mp J ts frs D lks rks l ((u.heap.size,o)::bs):=by
 have h':=h.below ((zF u.heap.size u).alloc (zD _) o);refine⟨h'.jb_,h'.fr,h'.xi,fun b hb=>?_⟩;rcases zX.1 hb with rfl|hb
 . refine⟨heap_alloc_new _ _,fun hx=>?_,fun hd=>?_,fun x hx=>⟨fun ho=>?_,fun hk=>?_⟩⟩
   . have:=(h.jb_.xlt hx).2;dsimp only at this;omega
   . have:=(h.jb_.sl.dl _ hd).2;dsimp only at this;omega
   . have:=h.jb_.pool.own_lt hx ho;dsimp only at this;omega
   . have:=h.jb_.pool.kp_lt hx hk;dsimp only at this;omega
 . exact h'.bx b hb
theorem RS.slot{t:Tm}{e:Ending}(h:RS B V w0 w1 u jb mp J ts frs D lks rks l bs)(hs:SloE B V u jb mp J ts D t e u'):∃J' frs' D',e=.returned (.int .i64 ((addT ts t).idxOf t:Nat))/\RS B V w0 w1 u' jb mp J' (addT ts t) frs' D' lks rks l bs:=by
 obtain⟨J',frs',D',he,h1,h2,h3,h4⟩:=h.jb_.slot hs;refine⟨J',frs',D',he,h1,h.fr.trans ⟨h2.os,h2.tape,h2.output,h2.size,fun k hk=>h2.block k ⟨zO hk.1 h.fr.size,fun hx=>?_⟩⟩,fun k hk=>?_,fun b hb=>?_⟩
 . rcases h.xi k hx with h5|h5|h5
   . exact hk.2.1 h5
   . exact hk.2.2 h5
   . have:=hk.1;omega
 . rcases h3 k hk with h5|h5
   . exact h.xi k h5
   . exact .inr (.inr (zQ h.fr.size h5))
 . obtain⟨b1,b2,b3,b4⟩:=h.bx b hb;have hbl:=lt_of_block b1;refine⟨(h2.block b.1 ⟨hbl,b2⟩).trans b1,fun hx=>?_,fun hd=>?_,b4⟩
   . rcases h3 b.1 hx with h5|h5
     . exact b2 h5
     . omega
   . rcases h4 b.1 hd with h5|h5
     . exact b3 h5
     . omega
theorem RS.search{n:Nat}{E:List Eg}{a:Au}{e:Ending}(h:RS B V w0 w1 u jb mp J ts frs D lks rks l bs)(hs:NewE u n E a e u'):∃sb m kp,e=.returned (.pointer (some ⟨sb,0,none⟩))/\RS B V w0 w1 u' jb mp J ts frs D lks rks (l++[(sb,sdOf kp n E a,m)]) bs:=by
 obtain⟨sb,m,kp,he,h1,hb,hnew⟩:=h.jb_.search hs;have h':=h.below hb;refine⟨sb,m,kp,he,h1,h'.fr,h'.xi,fun b hb2=>?_⟩;obtain⟨b1,b2,b3,b4⟩:=h'.bx b hb2;have hbl:=lt_of_block (h.bx b hb2).1;refine⟨b1,b2,b3,fun x hx=>?_⟩;rcases zN.1 hx with hx|hx
 . exact b4 x hx
 . rw[zJ.1 hx];exact⟨fun ho=>by have:=hnew b.1 (.inl ho);omega,fun hk=>by have:=hnew b.1 (.inr hk);omega⟩
theorem RS.touch{lb:Nat}{o o':Obj}(h:RS B V w0 w1 u jb mp J ts frs D lks rks l bs)(hb:(lb,o)∈bs)(hlb:w1.heap.size<=lb)(hBl:B<=lb)(hz:u'.heap.size=u.heap.size)(ho:u'.os=u.os)(ht:u'.tape=u.tape)(hu:u'.output=u.output)(hk:∀k,k≠lb->u'.heap[k]?=u.heap[k]?)(hl:u'.heap[lb]?=some o'):RS B V w0 w1 u' jb mp J ts frs D lks rks l [(lb,o')]:=by
 obtain⟨b1,b2,b3,b4⟩:=h.bx _ hb;refine⟨h.jb_.touch hBl b2 b3 b4 hz ho ht hu hk,h.fr.trans ⟨ho,ht,hu,by omega,fun k hk2=>hk k (by omega)⟩,h.xi,fun b hb2=>?_⟩;rw[zJ.1 hb2];exact⟨hl,b2,b3,b4⟩
theorem RS.perm{l':List Sx}(h:RS B V w0 w1 u jb mp J ts frs D lks rks l bs)(hp:l.Perm l'):RS B V w0 w1 u jb mp J ts frs D lks rks l' bs:=
 ⟨h.jb_.perm hp,h.fr,h.xi,fun b hb=>⟨(h.bx b hb).1,(h.bx b hb).2.1,(h.bx b hb).2.2.1,fun x hx=>(h.bx b hb).2.2.2 x (hp.mem_iff.2 hx)⟩⟩
theorem RS.drop(h:RS B V w0 w1 u jb mp J ts frs D lks rks l bs):RS B V w0 w1 u jb mp J ts frs D lks rks l []:=⟨h.jb_,h.fr,h.xi,fun b hb=>by simp at hb⟩
theorem RS.putL{wz w9:World}{v9:Value}{L:Lm}(h:RS B V w0 w1 u jb mp J ts frs D lks rks l bs)(hb:Below u.heap.size u wz)(hr:w9.ownsRow B 120 4 v9 (lks.length+1) (lks.flatMap csL++csL L))(hk9:∀k,k<wz.heap.size->J.lv.ownBlock≠some k->w9.heap[k]?=wz.heap[k]?)(hz9:wz.heap.size<=w9.heap.size)(ho:w9.os=wz.os)(ht:w9.tape=wz.tape)(hu:w9.output=wz.output)(ha:∀g,v9.ownBlock=some g->J.lv.ownBlock=some g\/wz.heap.size<=g):
 RS B V w0 w1 (w9.setCell ⟨jb,3,none⟩ v9) jb mp { J with lv:=v9 } ts frs D (lks++[L]) rks l []:=by
 obtain⟨h1,h2,h3⟩:=h.jb_.putL hb hr hk9 hz9 ho ht hu ha;refine⟨h1,h.fr.trans ⟨h2.os,h2.tape,h2.output,h2.size,fun k hk=>h2.block k ⟨zO hk.1 h.fr.size,fun hx=>?_⟩⟩,fun k hk=>?_,fun b hb2=>by simp at hb2⟩
 . rcases h.xi k hx with h5|h5|h5
   . exact hk.2.1 h5
   . exact hk.2.2 h5
   . have:=hk.1;omega
 . rcases h3 k hk with h5|h5
   . exact h.xi k h5
   . exact .inr (.inr (zQ h.fr.size h5))
theorem RS.putR{wz w9:World}{v9:Value}{L:Lm}(h:RS B V w0 w1 u jb mp J ts frs D lks rks l bs)(hb:Below u.heap.size u wz)(hr:w9.ownsRow B 120 4 v9 (rks.length+1) (rks.flatMap csL++csL L))(hk9:∀k,k<wz.heap.size->J.rv.ownBlock≠some k->w9.heap[k]?=wz.heap[k]?)(hz9:wz.heap.size<=w9.heap.size)(ho:w9.os=wz.os)(ht:w9.tape=wz.tape)(hu:w9.output=wz.output)(ha:∀g,v9.ownBlock=some g->J.rv.ownBlock=some g\/wz.heap.size<=g):
 RS B V w0 w1 (w9.setCell ⟨jb,4,none⟩ v9) jb mp { J with rv:=v9 } ts frs D lks (rks++[L]) l []:=by
 obtain⟨h1,h2,h3⟩:=h.jb_.putR hb hr hk9 hz9 ho ht hu ha;refine⟨h1,h.fr.trans ⟨h2.os,h2.tape,h2.output,h2.size,fun k hk=>h2.block k ⟨zO hk.1 h.fr.size,fun hx=>?_⟩⟩,fun k hk=>?_,fun b hb2=>by simp at hb2⟩
 . rcases h.xi k hx with h5|h5|h5
   . exact hk.2.1 h5
   . exact hk.2.2 h5
   . have:=hk.1;omega
 . rcases h3 k hk with h5|h5
   . exact h.xi k h5
   . exact .inr (.inr (zQ h.fr.size h5))
theorem RS.graph{S:Nat->Prop}{gb:Nat}{E:List Eg}{mb:Nat}{nv ev:Value}{DG:DataW Unit}{cg:Nat}(h:RS B V w0 w1 u jb mp J ts frs D lks rks l bs)(hg:GrS S w1 gb V E mb nv ev DG cg)(hS:∀k,S k->k<w1.heap.size/\k≠jb/\k≠mp):GrS S u gb V E mb nv ev DG cg/\∀k,S k->¬XS jb mp J k:=
 ⟨hg.keep h.fr.size (fun k hk _=>⟨hk,h.fr.block k (hS k hk)⟩),fun k hk hx=>by
  rcases h.xi k (.inl hx)with h5|h5|h5
  . exact(hS k hk).2.1 h5
  . exact(hS k hk).2.2 h5
  . have:=(hS k hk).1;omega⟩
end
structure LA (n:Nat) (E:List Eg) (ts:List Tm) (la:List Pa) (lks:List Lm) (A:List Sx):Prop where
 len:lks.length=la.length
 lenA:A.length=2*la.length
 at_:∀(i:Nat) a L,la[i]?=some a->lks[i]?=some L->ts[L.1]?=some a.1/\ts[L.2.1]?=some a.2.2/\∃x y kp kp',A[2*i]?=some x/\A[2*i+1]?=some y/\syOf x=(L.2.2.1,sdOf kp n E (autoOf a.2.1))/\syOf y=(L.2.2.2,sdOf kp' n (E.map turnE) (autoOf (turnP a.2.1)))
theorem LA.nil(n:Nat)(E:List Eg)(ts:List Tm):LA n E ts [] [] []:=⟨rfl,rfl,fun i a L h=>by simp at h⟩
theorem LA.mono{n:Nat}{E:List Eg}{ts us:List Tm}{la:List Pa}{lks:List Lm}{A:List Sx}(h:LA n E ts la lks A)(hu:∀(i:Nat) t,ts[i]?=some t->us[i]?=some t):LA n E us la lks A:=
 ⟨h.len,h.lenA,fun i a L h1 h2=>by
  obtain⟨a1,a2,a3⟩:=h.at_ i a L h1 h2;exact⟨hu _ _ a1,hu _ _ a2,a3⟩⟩
theorem LA.snoc{n:Nat}{E:List Eg}{ts:List Tm}{la:List Pa}{lks:List Lm}{A:List Sx}(h:LA n E ts la lks A){a:Pa}{fr to_:Nat}(h1:ts[fr]?=some a.1)(h2:ts[to_]?=some a.2.2){sb sb':Nat}{kp kp':Nat->Prop}{m m':Sp}:LA n E ts (la++[a]) (lks++[(fr,to_,sb,sb')]) (A++[(sb,sdOf kp n E (autoOf a.2.1),m),(sb',sdOf kp' n (E.map turnE) (autoOf (turnP a.2.1)),m')]):=by
 refine⟨by rw[zG,zG,h.len];rfl,by rw[zG,zG,h.lenA];simp;omega,fun i b L hb hL=>?_⟩;by_cases hi:i<la.length
 . rw[yH hi]at hb;rw[yH (by rw[h.len];exact hi)]at hL;obtain⟨a1,a2,x,y,k1,k2,a3,a4,a5⟩:=h.at_ i b L hb hL;have hA:=h.lenA;exact⟨a1,a2,x,y,k1,k2,by rw[yH (by omega)];exact a3,by rw[yH (by omega)];exact a4,a5⟩
 . have hil:=(zE.1 hb).1;rw[zG]at hil;simp only[List.length_singleton]at hil;have e:i=la.length:=by omega
   subst e;rw[yM (zD _)]at hb;rw[<- h.len,yM (zD _)]at hL;simp at hb hL;subst hb hL;have hA:=h.lenA;exact⟨h1,h2,(sb,sdOf kp n E (autoOf a.2.1),m),(sb',sdOf kp' n (E.map turnE) (autoOf (turnP a.2.1)),m'),kp,kp',by rw[<- hA,yM (zD _)];simp,by rw[<- hA,yM (by omega)];simp,rfl,rfl⟩
theorem addT_get{ts:List Tm}{t:Tm}{i:Nat}{x:Tm}(h:ts[i]?=some x):(addT ts t)[i]?=some x:=by
 unfold addT;split
 . exact h
 . rw[yH (zE.1 h).1];exact h
theorem addT_mem(ts:List Tm)(t:Tm):t∈addT ts t:=by
 unfold addT;split
 . assumption
 . simp
theorem addT_idx(ts:List Tm)(t:Tm):(addT ts t)[(addT ts t).idxOf t]?=some t:=by
 rw[zB (zZ (addT_mem ts t))];simp
theorem addT_len(ts:List Tm)(t:Tm):(addT ts t).length<=ts.length+1:=by
 unfold addT;split<;>simp
theorem addT_mem_iff{ts:List Tm}{t x:Tm}:x∈addT ts t↔x∈ts\/x=t:=by
 unfold addT;split
 . rename_i h;exact⟨.inl,fun h2=>h2.elim id (fun e=>e▸h)⟩
 . simp
def termsOf(l:List Pa):List Tm:=l.foldl (fun ts a=>addT (addT ts a.1) a.2.2) []
theorem terms_snoc(l:List Pa)(a:Pa):termsOf (l++[a])=addT (addT (termsOf l) a.1) a.2.2:=by simp[termsOf]
theorem terms_mem{l:List Pa}{t:Tm}:t∈termsOf l↔∃a∈l,t=a.1\/t=a.2.2:=by
 have key:∀(l:List Pa) (ts:List Tm),t∈l.foldl (fun ts a=>addT (addT ts a.1) a.2.2) ts↔t∈ts\/∃a∈l,t=a.1\/t=a.2.2:=by
  intro l;induction l with
  |nil=>intro ts;simp
  |cons a l ih=>
   intro ts;rw[yN,ih,addT_mem_iff,addT_mem_iff];constructor
   . rintro (((h|h)|h)|⟨b,hb,h⟩)
     . exact .inl h
     . exact .inr ⟨a,zL ..,.inl h⟩
     . exact .inr ⟨a,zL ..,.inr h⟩
     . exact .inr ⟨b,zP _ hb,h⟩
   . rintro (h|⟨b,hb,h⟩)
     . exact .inl (.inl (.inl h))
     . rcases zX.1 hb with rfl|hb
       . rcases h with h|h
         . exact .inl (.inl (.inr h))
         . exact .inl (.inr h)
       . exact .inr ⟨b,hb,h⟩
 have:=key l [];simpa[termsOf]using this
theorem terms_len(l:List Pa):(termsOf l).length<=2*l.length:=by
 have key:∀(l:List Pa) (ts:List Tm),(l.foldl (fun ts a=>addT (addT ts a.1) a.2.2) ts).length<=ts.length+2*l.length:=by
  intro l;induction l with
  |nil=>intro ts;simp
  |cons a l ih=>
   intro ts;rw[yN];have h1:=ih (addT (addT ts a.1) a.2.2);have h2:=addT_len (addT ts a.1) a.2.2;have h3:=addT_len ts a.1;simp only[yE];omega
 have:=key l [];simpa[termsOf]using this
end Go.Proofs.YtdalcipmpelifaaGreatDoor
