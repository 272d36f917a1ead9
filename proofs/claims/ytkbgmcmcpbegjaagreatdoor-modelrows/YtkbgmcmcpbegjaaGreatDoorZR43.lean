/- XLoops. -/
import Derived.Test.YtkbgmcmcpbegjaaGreatDoorZR35
set_option maxRecDepth 100000
set_option maxHeartbeats 16000000
namespace Go.Proofs.YtkbgmcmcpbegjaaGreatDoor
open Go.RowKit Go.Shelf
structure LInv (w0:World) (S0:Nat->Prop) (vl:Nat) (vs:List Nat) (P:Nat->Bool) (i:Nat) (S:Nat->Prop) (w:World):Prop where
 sub:∀k,S0 k->S k
 fr:Fr S0 w0 w
 svl:S vl
 ex:∃lv,w.heap[vl]?=some (.cells #[lv] 59 (0,0))/\(∀g,lv.ownBlock=some g->S g)/\w.ownsRow w0.heap.size 3 1 lv ((vs.take i).filter P).length (((vs.take i).filter P).flatMap csI)
theorem LInv.keep{w0:World}{S0:Nat->Prop}{vl:Nat}{vs:List Nat}{P:Nat->Bool}{i:Nat}{S:Nat->Prop}{w w':World}(h:LInv w0 S0 vl vs P i S w)(hf:Fr S w w'):LInv w0 S0 vl vs P i S w':=by
 obtain⟨lv,h1,h2,h3⟩:=h.ex;exact⟨h.sub,h.fr.trans (hf.sub h.sub),h.svl,lv,(hf.block vl h.svl).trans h1,h2,jae h3 (fun g o hg ho=>(hf.block g (h2 g hg)).trans ho)⟩
theorem loops1_any{w0:World}{S0:Nat->Prop}{qs qv vl sb:Nat}{d:Sd}{vv:Value}{vs:List Nat}{P:Nat->Bool}{L:List (Value×List Nat)}
 (hlow:Low S0 w0) (hvl:¬S0 vl) (hvl0:vl<w0.heap.size) (hqs:w0.heap[qs]?=some (.cells #[.pointer (some ⟨sb,0,none⟩)] 67 (0,0))/\S0 qs) (hqv:w0.heap[qv]?=some (.cells #[vv] 59 (0,0))/\S0 qv)
 (hvv:NatC S0 w0 vv vs) (hvs:∀x∈vs,x<d.n) (hvsl:vs.length<=10000) (hP:∀x,x<d.n->(P x=true↔d.leads [x] x)) (hkp:∀k,d.kp k->S0 k) (hL:L.map (·.2)=vs.map fun x=>[x]):
 FoundC 100 #[.pointer (some ⟨qs,0,none⟩),.pointer (some ⟨qv,0,none⟩),.pointer (some ⟨vl,0,none⟩)] sb d L (LInv w0 S0 vl vs P):=by
 intro i r S w s m aL aG an aF aI aa;obtain⟨i0,aW,aU,a4,aZ⟩:=jal jcY;obtain⟨x,hx,aJ⟩:∃x,vs[i]?=some x/\r.2=[x]:=by
  have h1:(L.map (·.2))[i]?=some r.2:=by rw[zI,aL];rfl
  rw[hL,zI]at h1;cases hx:vs[i]? with
  |none=>rw[hx]at h1;simp at h1
  |some x=>rw[hx]at h1;exact⟨x,rfl,by simpa using h1.symm⟩
 rw[aJ]at aI;have a0:=hvs x (zC hx);obtain⟨lv,e1,e2,e3⟩:=aa.ex;have ax:w0.heap.size<=w.heap.size:=aa.fr.size;have a5:=(zE.1 hx).1;obtain⟨va,vc,aT⟩:=hvv.1.slice;obtain⟨nv,aK⟩:=eX vs.length;rw[<- aK]at aT hvsl a5;subst aT;obtain⟨g,ae,a6,aD,a9,ah⟩:=(hvv.1.fr aa.fr).get hx;subst a6;have q0:=getI ah;rw[yC]at q0;have hiI:(i:Int)<(nv:Int):=by omega
 have av:Hid (∀u,Below w.heap.size w u->u.cell? ⟨qs,0,none⟩=some (.pointer (some ⟨sb,0,none⟩))/\u.cell? ⟨qv,0,none⟩=some (.slice (some ⟨g,ae,none⟩) nv vc)/\u.cell? ⟨g,ae+i,none⟩=some (.int .i64 (x:Int))):=zA (fun u hu=>by
  have h1:=(hu.block qs (zQ (hlow qs hqs.2) ax)).trans ((aa.fr.block qs hqs.2).trans hqs.1);have h2:=(hu.block qv (zQ (hlow qv hqv.2) ax)).trans ((aa.fr.block qv hqv.2).trans hqv.1);exact⟨by simp[World.cell?,h1],by simp[World.cell?,h2],(hu.cell (p:=⟨g,ae+i,none⟩) a9).trans q0⟩)
 have aB:=jdt (v:=x) (an.below (zF _ _).drew) aF.cl aF.cb a0;rw[jk4 aI (hP x a0)]at aB;have CE:=zA aB;have aq:=jeJ (p:=P) hx;obtain⟨Q,hQ⟩:∃Q:Ending->World->Prop,Q=fun e w'=>e=.returned (.tuple #[])/\∃T,(∀k,S k->T k)/\Low T w'/\SrS T w' sb d s m/\LInv w0 S0 vl vs P (i+1) T w':=⟨_,rfl⟩
 rw[<- hQ];show Calls Tryz.prog _ #[.int .i64 (i:Int),.pointer (some ⟨qs,0,none⟩),.pointer (some ⟨qv,0,none⟩),.pointer (some ⟨vl,0,none⟩)] w _;cases hp:P x with
 |false=>
  rw[hp]at CE;rw[hp,if_neg (by decide),List.append_nil]at aq;have ay:Hid (Q (.returned (.tuple #[])) w.drew.drew):=zA (by
   rw[hQ];refine⟨rfl,S,fun _ h=>h,aG,an.below (zF _ _).drew.drew,aa.sub,aa.fr.trans ⟨rfl,rfl,rfl,zD _,fun _ _=>rfl⟩,aa.svl,lv,e1,e2,?_⟩;rw[aq];exact e3.drew.drew)
  clear aL aG an aF aI aa e1 e2 e3 hlow hvl hvl0 hqs hqv hvv hvs hP hkp hL hx aJ ah q0 hp aq hQ aD aB aK;go_enter Tryz.func100,Tryz.ntmps100;go_wp2_with fail;refine wp_region_held_drew (S:=fun u=>u.cell? ⟨qs,0,none⟩=some (.pointer (some ⟨sb,0,none⟩))/\u.cell? ⟨qv,0,none⟩=some (.slice (some ⟨g,ae,none⟩) nv vc)/\u.cell? ⟨g,ae+i,none⟩=some (.int .i64 (x:Int))) (by kernel_rfl) ?_ (fun hHeld=>?_)
  . exact av.out _ (zF _ _).drew
  refine tkH (i:=0) (oi:=⟨some 5,.load 67 (.tmp 1),67, "join.go:94",#[],none⟩) (v:=?_) rfl ?_ hHeld ?_;rotate_left 1
  . rintro W ⟨l1,l2,l3⟩;go_simp;try with_reducible rfl
  simp only[Act.put,zIB,zSZ,zSS];refine tkH (i:=1) (oi:=⟨some 6,.load 59 (.tmp 2),59, "join.go:94",#[],none⟩) (v:=?_) rfl ?_ hHeld ?_;rotate_left 1
  . rintro W ⟨l1,l2,l3⟩;go_simp;try with_reducible rfl
  simp only[Act.put,zIB,zSZ,zSS];refine tkH (i:=2) (oi:=⟨some 7,.move (.tmp 0),3, "join.go:94",#[],none⟩) (v:=?_) rfl ?_ hHeld ?_;rotate_left 1
  . rintro W ⟨l1,l2,l3⟩;go_simp;try with_reducible rfl
  simp only[Act.put,zIB,zSZ,zSS];refine tkH (i:=3) (oi:=⟨some 8,.indexAddr 59 (.tmp 6) (.tmp 7),0, "join.go:94",#[⟨1,.data⟩,⟨2,.data⟩],none⟩) (v:=?_) rfl ?_ hHeld ?_;rotate_left 1
  . rintro W ⟨l1,l2,l3⟩;go_simp;try with_reducible rfl
  simp only[Act.put,zIB,zSZ,zSS];refine tkH (i:=4) (oi:=⟨some 9,.load 3 (.tmp 8),3, "join.go:94",#[⟨3,.data⟩],none⟩) (v:=?_) rfl ?_ hHeld ?_;rotate_left 1
  . rintro W ⟨l1,l2,l3⟩;go_simp;try with_reducible rfl
  simp only[Act.put,zIB,zSZ,zSS];refine rdH (k:=5) (o:=⟨some 10,.call { callee:=.value (.func 62),args:=#[.tmp 5,.tmp 9],argTypes:=#[67,3] },4, "join.go:94",#[⟨0,.data⟩,⟨4,.data⟩],none⟩) rfl (fun K hK=>?_);go_simp;refine CE.out.mono ?_;rintro e w1 ⟨rfl,rfl⟩;refine hK.out _ _ (av.out _ (zF _ _).drew.drew) (fun hHeld=>?_);clear hK K;refine wpAnyH_done (by kernel_rfl) ?_ _;go_wp2;all_goals (first|(go_end0;exact ay.out)|exact ay.out)
 |true=>
  rw[hp]at CE;rw[hp,if_pos rfl]at aq;obtain⟨X,hX⟩:=eX ((vs.take i).filter P);rw[<- hX]at e3 aq;have a7:X.length<=10000:=by
   rw[hX];have h1:=yH P (vs.take i);rw[zX]at h1;omega
  obtain⟨ua,uc,a3⟩:=jab e3;obtain⟨nu,aO⟩:=eX X.length;rw[<- aO]at a3 a7 e3;subst a3;obtain⟨wq,au⟩:=eX w.drew.drew;have aA:Below w.heap.size w wq:=by rw[au];exact(zF _ _).drew.drew
  have bb:wq.heap.size=w.heap.size:=by rw[au];rfl
  have aE:∀k:Nat,wq.heap[k]?=w.heap[k]?:=fun k=>by rw[au];rfl
  have aS:Hid (wq.heap[vl]?=some (.cells #[.slice ua nu uc] 59 (0,0))):=zA ((aE vl).trans e1);have aR:Hid (wq.ownsRow w0.heap.size 3 1 (.slice ua nu uc) nu (X.flatMap csI)):=zA (by rw[au];exact e3.drew.drew);have az:Hid (∀u,Below wq.heap.size wq u->u.cell? ⟨qv,0,none⟩=some (.slice (some ⟨g,ae,none⟩) nv vc)/\u.cell? ⟨g,ae+i,none⟩=some (.int .i64 (x:Int))):=zA (fun u hu=>(av.out u (aA.trans (hu.mono (by omega)))).2);have aP:Hid (Below wq.heap.size wq wq.drew):=zA (zF _ _).drew;have am:Hid (Below wq.heap.size wq (wq.drew.alloc (.cells #[.int .i64 (x:Int)] 3))):=zA ((zF _ _).drew.alloc (zD _) _);have aN:wq.cell? ⟨vl,0,none⟩=some (.slice ua nu uc):=by
   have:=aS.out;simp[World.cell?,this]
  have hl2:wq.drew.cell? ⟨vl,0,none⟩=some (.slice ua nu uc):=aN;have hl3:(wq.alloc (.cells #[.int .i64 (x:Int)] 3)).cell? ⟨vl,0,none⟩=some (.slice ua nu uc):=by
   have h:=(am.out.cell (p:=⟨vl,0,none⟩) (lt_of_block aS.out)).trans aN;exact h
  have aY:Hid ((wq.drew.alloc (.cells #[.int .i64 (x:Int)] 3)).ownsRow w0.heap.size 3 1 (.slice ua nu uc) nu (X.flatMap csI)):=zA (jao aR.out am.out);have aQ:Hid (∀(j:Nat) u,(csI x)[j]?=some u->(wq.drew.alloc (.cells #[.int .i64 (x:Int)] 3)).cell? ((⟨wq.heap.size,0,none⟩:Addr).add j)=some u):=zA (World.news_of_block (cs:=#[.int .i64 (x:Int)]) (t:=3) (fr:=(0,0)) (heap_alloc_new wq.drew _));have hszz:w0.heap.size<=wq.heap.size:=by omega
  have aw:g≠vl:=fun e=>hvl (e▸aD)
  have ap:g<w0.heap.size:=hlow g aD;have ao:qv≠vl:=fun e=>hvl (e▸hqv.2)
  have ak:=hlow qv hqv.2;have aV:Hid (∀gg ab w9,w9.ownsRow w0.heap.size 3 1 (.slice (some ⟨gg,0,none⟩) (nu+1) ab) (nu+1) (X.flatMap csI++csI x)->(wq.drew.alloc (.cells #[.int .i64 (x:Int)] 3)).grownBy w9 (Value.slice ua nu uc).ownBlock->((Value.slice ua nu uc).ownBlock=some gg\/gg=wq.heap.size+1)->
   (w9.cell? ⟨qv,0,none⟩=some (.slice (some ⟨g,ae,none⟩) nv vc)/\w9.cell? ⟨g,ae+i,none⟩=some (.int .i64 (x:Int)))/\((w9.setCell ⟨vl,0,none⟩ (.slice (some ⟨gg,0,none⟩) (nu+1) ab)).cell? ⟨qv,0,none⟩=some (.slice (some ⟨g,ae,none⟩) nv vc)/\(w9.setCell ⟨vl,0,none⟩ (.slice (some ⟨gg,0,none⟩) (nu+1) ab)).cell? ⟨g,ae+i,none⟩=some (.int .i64 (x:Int)))/\(w9.cell? ⟨vl,0,none⟩=some (.slice ua nu uc)/\w9.frozen? ⟨vl,0,none⟩=false)/\Hid (Q (.returned (.tuple #[])) (w9.setCell ⟨vl,0,none⟩ (.slice (some ⟨gg,0,none⟩) (nu+1) ab)))):=zA (fun gg ab w9 h1 h2 aH=>by
   have af:∀k,k<w0.heap.size->w9.heap[k]?=w.heap[k]?:=fun k hk=>by
    have h3:=h2.block k (by simp;omega) (fun e=>by have:=(aR.out.lt k e.symm).1;omega);exact h3.trans ((am.out.block k (by omega)).trans (aE k))
   have ba:∀k,k<w.heap.size->(Value.slice ua nu uc).ownBlock≠some k->w9.heap[k]?=w.heap[k]?:=fun k hk hne=>(h2.block k (by simp;omega) (fun e=>hne e.symm)).trans ((am.out.block k (by omega)).trans (aE k))
   have aM:w9.heap[vl]?=some (.cells #[.slice ua nu uc] 59 (0,0)):=(af vl hvl0).trans e1;have ag:∀b,b≠vl->(w9.setCell ⟨vl,0,none⟩ (.slice (some ⟨gg,0,none⟩) (nu+1) ab)).heap[b]?=w9.heap[b]?:=fun b hb=>zM _ _ _ _ hb
   have hs9:wq.heap.size+1<=w9.heap.size:=by have:=h2.size;simpa using this
   have al:∀u:World,u.heap[qv]?=w.heap[qv]?->u.heap[g]?=w.heap[g]?->u.cell? ⟨qv,0,none⟩=some (.slice (some ⟨g,ae,none⟩) nv vc)/\u.cell? ⟨g,ae+i,none⟩=some (.int .i64 (x:Int)):=fun u a1 a2=>by
    obtain⟨_,y1,y2⟩:=av.out w (zF _ _);exact⟨by simpa only[World.cell?,a1]using y1,by simpa only[World.cell?,a2]using y2⟩
   refine⟨al w9 (af qv ak) (af g ap),al (w9.setCell ⟨vl,0,none⟩ (.slice (some ⟨gg,0,none⟩) (nu+1) ab)) ((ag qv ao).trans (af qv ak)) ((ag g aw).trans (af g ap)),by simp[World.cell?,World.frozen?,aM],zA ?_⟩;rw[hQ];have aX:w.heap.size<=(w9.setCell ⟨vl,0,none⟩ (.slice (some ⟨gg,0,none⟩) (nu+1) ab)).heap.size:=by simp;omega
   refine⟨rfl,Plus S w.heap.size (w9.setCell ⟨vl,0,none⟩ (.slice (some ⟨gg,0,none⟩) (nu+1) ab)).heap.size,fun k hk=>.inl hk,aG.plus aX,?_,?_⟩
   . refine an.keep aX (fun b hb ho=>⟨fun aC=>?_,(ag b (fun e=>an.own_no ho (e▸aa.svl))).trans (ba b hb (fun e=>an.own_no ho (e2 b e)))⟩) (fun b hb hkb=>(ag b (fun e=>hvl (e▸hkp b hkb))).trans (af b (hlow b (hkp b hkb)))) (fun b hb=>.inl (an.kS b hb));rcases aC with aC|aC
     . exact an.own_no ho aC
     . omega
   . have h4:w9.ownsRow w0.heap.size 3 1 (.slice (some ⟨gg,0,none⟩) (nu+1) ab) ((vs.take (i+1)).filter P).length (((vs.take (i+1)).filter P).flatMap csI):=by
      rw[aq,zG,<- aO,zP];exact h1
     refine⟨fun k hk=>.inl (aa.sub k hk),⟨?_,?_,?_,by omega,fun k hk=>(ag k (fun e=>hvl (e▸hk))).trans ((af k (hlow k hk)).trans (aa.fr.block k hk))⟩,.inl aa.svl,_,?_,fun k hk=>?_,jae h4 (fun b o hb ho=>(ag b (fun e=>jan h4 aM (by decide) (by rw[hb,e]))).trans ho)⟩
     . exact h2.os.trans (am.out.os.trans (aA.os.trans aa.fr.os))
     . exact h2.tape.trans (am.out.tape.trans (aA.tape.trans aa.fr.tape))
     . exact h2.output.trans (am.out.output.trans (aA.output.trans aa.fr.output))
     . simp[World.setCell,Array.getElem?_modify,aM]
     . have a8:gg=k:=by simpa[Value.ownBlock]using hk
       subst a8;have bc:=(h1.lt gg rfl).2;rcases aH with aH|aH
       . exact .inl (e2 gg aH)
       . exact .inr ⟨by omega,by simpa using bc⟩)
  clear aL aG an aF aI aa e1 e2 e3 hlow hvl hvl0 hqs hqv hvv hvs hP hkp hL hx aJ ah q0 hp aq hQ aD aB hX aO aK aA bb aE aN aw ap ao ak;go_enter Tryz.func100,Tryz.ntmps100;go_wp2_with fail;refine wp_region_held_drew (S:=fun u=>u.cell? ⟨qs,0,none⟩=some (.pointer (some ⟨sb,0,none⟩))/\u.cell? ⟨qv,0,none⟩=some (.slice (some ⟨g,ae,none⟩) nv vc)/\u.cell? ⟨g,ae+i,none⟩=some (.int .i64 (x:Int))) (by kernel_rfl) ?_ (fun hHeld=>?_)
  . exact av.out _ (zF _ _).drew
  refine tkH (i:=0) (oi:=⟨some 5,.load 67 (.tmp 1),67, "join.go:94",#[],none⟩) (v:=?_) rfl ?_ hHeld ?_;rotate_left 1
  . rintro W ⟨l1,l2,l3⟩;go_simp;try with_reducible rfl
  simp only[Act.put,zIB,zSZ,zSS];refine tkH (i:=1) (oi:=⟨some 6,.load 59 (.tmp 2),59, "join.go:94",#[],none⟩) (v:=?_) rfl ?_ hHeld ?_;rotate_left 1
  . rintro W ⟨l1,l2,l3⟩;go_simp;try with_reducible rfl
  simp only[Act.put,zIB,zSZ,zSS];refine tkH (i:=2) (oi:=⟨some 7,.move (.tmp 0),3, "join.go:94",#[],none⟩) (v:=?_) rfl ?_ hHeld ?_;rotate_left 1
  . rintro W ⟨l1,l2,l3⟩;go_simp;try with_reducible rfl
  simp only[Act.put,zIB,zSZ,zSS];refine tkH (i:=3) (oi:=⟨some 8,.indexAddr 59 (.tmp 6) (.tmp 7),0, "join.go:94",#[⟨1,.data⟩,⟨2,.data⟩],none⟩) (v:=?_) rfl ?_ hHeld ?_;rotate_left 1
  . rintro W ⟨l1,l2,l3⟩;go_simp;try with_reducible rfl
  simp only[Act.put,zIB,zSZ,zSS];refine tkH (i:=4) (oi:=⟨some 9,.load 3 (.tmp 8),3, "join.go:94",#[⟨3,.data⟩],none⟩) (v:=?_) rfl ?_ hHeld ?_;rotate_left 1
  . rintro W ⟨l1,l2,l3⟩;go_simp;try with_reducible rfl
  simp only[Act.put,zIB,zSZ,zSS];refine rdH (k:=5) (o:=⟨some 10,.call { callee:=.value (.func 62),args:=#[.tmp 5,.tmp 9],argTypes:=#[67,3] },4, "join.go:94",#[⟨0,.data⟩,⟨4,.data⟩],none⟩) rfl (fun K hK=>?_);go_simp;refine CE.out.mono ?_;rintro e w1 ⟨rfl,rfl⟩;refine hK.out _ _ (av.out _ (zF _ _).drew.drew) (fun hHeld=>?_);clear hK K;refine wpAnyH_done (by kernel_rfl) ?_ _;go_wp2_with fail;rw[<- au];clear au;refine wp_region_held_drew (S:=fun u=>u.cell? ⟨qv,0,none⟩=some (.slice (some ⟨g,ae,none⟩) nv vc)/\u.cell? ⟨g,ae+i,none⟩=some (.int .i64 (x:Int))) (by kernel_rfl) ?_ (fun hHeld=>?_)
  . exact az.out _ aP.out
  refine tkH (i:=1) (oi:=⟨some 12,.load 59 (.tmp 2),59, "join.go:95",#[],none⟩) (v:=?_) rfl ?_ hHeld ?_;rotate_left 1
  . rintro W ⟨l1,l2⟩;go_simp;try with_reducible rfl
  simp only[Act.put,zIB,zSZ,zSS];refine tkH (i:=2) (oi:=⟨some 13,.move (.tmp 0),3, "join.go:95",#[],none⟩) (v:=?_) rfl ?_ hHeld ?_;rotate_left 1
  . rintro W ⟨l1,l2⟩;go_simp;try with_reducible rfl
  simp only[Act.put,zIB,zSZ,zSS];refine tkH (i:=3) (oi:=⟨some 14,.indexAddr 59 (.tmp 12) (.tmp 13),0, "join.go:95",#[⟨1,.data⟩,⟨2,.data⟩],none⟩) (v:=?_) rfl ?_ hHeld ?_;rotate_left 1
  . rintro W ⟨l1,l2⟩;go_simp;try with_reducible rfl
  simp only[Act.put,zIB,zSZ,zSS];refine tkH (i:=4) (oi:=⟨some 15,.load 3 (.tmp 14),3, "join.go:95",#[⟨3,.data⟩],none⟩) (v:=?_) rfl ?_ hHeld ?_;rotate_left 1
  . rintro W ⟨l1,l2⟩;go_simp;try with_reducible rfl
  simp only[Act.put,zIB,zSZ,zSS];refine wpAnyH_ready (rs:=[0,5]) (by kernel_rfl) (by simp) ?_;refine AllReadyH.cons (o:=⟨some 11,.load 59 (.tmp 3),59, "join.go:95",#[],none⟩) rfl (fun K hK=>?_) (AllReadyH.cons (o:=⟨some 16,.buildSlice 59 1 #[(0,.tmp 15)],59, "join.go:95",#[⟨4,.data⟩],none⟩) rfl (fun K hK=>?_) AllReadyH.nil)
  . go_simp;refine hK.out _ _ (az.out _ aP.out) (fun hHeld=>?_);clear hK K;refine rdH (k:=5) (o:=⟨some 16,.buildSlice 59 1 #[(0,.tmp 15)],59, "join.go:95",#[⟨4,.data⟩],none⟩) rfl (fun K hK=>?_);go_simp;refine hK.out _ _ (az.out _ am.out) (fun hHeld=>?_);clear hK K;refine rdH (k:=6) (o:=⟨some 17,.call { callee:=.builtin .append,args:=#[.tmp 11,.tmp 16],argTypes:=#[59,59] },59, "join.go:95",#[⟨0,.data⟩,⟨5,.data⟩],none⟩) rfl (fun K hK=>?_);refine step_append_lies _ (by rfl) _ _ _ (by rfl) w0.heap.size 3 i0 _ 1 8 Tryz.underlying59 aW aU a4 aZ rfl (by decide) (.slice ua nu uc) _ _ (by rfl) aY.out ⟨wq.heap.size,0,none⟩ 1 1 (csI x) (by rfl) (by rfl) aQ.out (by simp[Value.oneCell']) (by decide) (by unfold maxLen;omega) (by omega) (by simp;omega) (wq.heap.size+1) (by simp) ?_;intro gg ab w9 ad ac aj ar;have ai:=zA (aV.out gg ab w9 ad ac aj);refine hK.out _ _ ai.out.1 (fun hHeld=>?_);clear hK K ad ac aj ar;obtain⟨c2,c8⟩:=ai.out.2.2.1;refine rdH (k:=7) (o:=⟨none,.store 59 (.tmp 3) (.tmp 17),0, "join.go:95",#[⟨6,.data⟩,⟨6,.chain⟩,⟨0,.phase⟩,⟨1,.phase⟩,⟨2,.phase⟩,⟨3,.phase⟩,⟨4,.phase⟩,⟨5,.phase⟩,⟨6,.phase⟩],none⟩) rfl (fun K hK=>?_);go_simp;refine hK.out _ _ ai.out.2.1 (fun hHeld=>?_);clear hK K c2 c8;refine wpAnyH_done (by kernel_rfl) ?_ _;go_wp2;all_goals (first|(go_end0;exact ai.out.2.2.2.out)|exact ai.out.2.2.2.out)
  . go_simp;refine hK.out _ _ (az.out _ am.out) (fun hHeld=>?_);clear hK K;refine rdH (k:=0) (o:=⟨some 11,.load 59 (.tmp 3),59, "join.go:95",#[],none⟩) rfl (fun K hK=>?_);go_simp;refine hK.out _ _ (az.out _ am.out) (fun hHeld=>?_);clear hK K;refine rdH (k:=6) (o:=⟨some 17,.call { callee:=.builtin .append,args:=#[.tmp 11,.tmp 16],argTypes:=#[59,59] },59, "join.go:95",#[⟨0,.data⟩,⟨5,.data⟩],none⟩) rfl (fun K hK=>?_);refine step_append_lies _ (by rfl) _ _ _ (by rfl) w0.heap.size 3 i0 _ 1 8 Tryz.underlying59 aW aU a4 aZ rfl (by decide) (.slice ua nu uc) _ _ (by rfl) aY.out ⟨wq.heap.size,0,none⟩ 1 1 (csI x) (by rfl) (by rfl) aQ.out (by simp[Value.oneCell']) (by decide) (by unfold maxLen;omega) (by omega) (by simp;omega) (wq.heap.size+1) (by simp) ?_;intro gg ab w9 ad ac aj ar;have ai:=zA (aV.out gg ab w9 ad ac aj);refine hK.out _ _ ai.out.1 (fun hHeld=>?_);clear hK K ad ac aj ar;obtain⟨c2,c8⟩:=ai.out.2.2.1;refine rdH (k:=7) (o:=⟨none,.store 59 (.tmp 3) (.tmp 17),0, "join.go:95",#[⟨6,.data⟩,⟨6,.chain⟩,⟨0,.phase⟩,⟨1,.phase⟩,⟨2,.phase⟩,⟨3,.phase⟩,⟨4,.phase⟩,⟨5,.phase⟩,⟨6,.phase⟩],none⟩) rfl (fun K hK=>?_);go_simp;refine hK.out _ _ ai.out.2.1 (fun hHeld=>?_);clear hK K c2 c8;refine wpAnyH_done (by kernel_rfl) ?_ _;go_wp2;all_goals (first|(go_end0;exact ai.out.2.2.2.out)|exact ai.out.2.2.2.out)
def LooE(S:Nat->Prop)(w:World)(sb:Nat)(d:Sd)(M:List Nat)(e:Ending)(w':World):Prop:=
 ∃lv,e=.returned lv/\w'.ownsRow w.heap.size 3 1 lv M.length (M.flatMap csI)/\∃(T:Nat->Prop) (s':Ss) (m':Sp),(∀k,S k->T k)/\Low T w'/\SrS T w' sb d s' m'/\Rest d s'/\(∀g,lv.ownBlock=some g->T g)/\Fr S w w'
theorem loops_any{S Z:Nat->Prop}{w:World}{sb:Nat}{d:Sd}{s:Ss}{m:Sp}{vv:Value}{vs:List Nat}{P:Nat->Bool}
 (h:SrS S w sb d s m) (hS:Low S w) (hr:Rest d s) (hn:d.n<=10000) (hol:∀u,(d.out u).length<=1000000) (hT:TabG w) (h0:S 0) (hv:NatC Z w vv vs) (hZ:∀k,Z k->S k) (hvs:∀x∈vs,x<d.n) (hvsl:vs.length<=10000) (hP:∀x,x<d.n->(P x=true↔d.leads [x] x)):
 Calls Tryz.prog 77 #[.pointer (some ⟨sb,0,none⟩),vv] w (LooE S w sb d (vs.filter P)):=by
 obtain⟨va,vc,aw⟩:=hv.1.slice;obtain⟨nv,an⟩:=eX vs.length;rw[<- an]at aw;subst aw;obtain⟨o1,ah⟩:=eX (Obj.cells #[.pointer (some ⟨sb,0,none⟩)] 67 (0,0));obtain⟨o2,al⟩:=eX (Obj.cells #[.slice va nv vc] 59 (0,0));obtain⟨o3,ap⟩:=eX (Obj.cells #[.slice none 0 0] 59 (0,0));obtain⟨w3,ad⟩:=eX (((w.alloc o1).alloc o2).alloc o3);have az:w3.heap.size=w.heap.size+3:=by rw[ad];simp
 have ay:Below w.heap.size w w3:=by rw[ad];exact(((zF _ _).alloc (zD _) _).alloc (by simp) _).alloc (by simp;omega) _
 have g1:w3.heap[w.heap.size]?=some o1:=by rw[ad];exact jak [o1,o2,o3] w 0 (by simp)
 have g2:w3.heap[w.heap.size+1]?=some o2:=by rw[ad];exact jak [o1,o2,o3] w 1 (by simp)
 have g3:w3.heap[w.heap.size+2]?=some o3:=by rw[ad];exact jak [o1,o2,o3] w 2 (by simp)
 have aq:Hid (Below w3.heap.size w3 w3.drew):=zA (zF _ _).drew;have KS:Hid (∀u,Below w3.heap.size w3 u->u.cell? ⟨w.heap.size,0,none⟩=some (.pointer (some ⟨sb,0,none⟩))/\u.cell? ⟨w.heap.size+1,0,none⟩=some (.slice va nv vc)):=zA (fun u hu=>by
  have x1:=(hu.block _ (lt_of_block g1)).trans g1;have x2:=(hu.block _ (lt_of_block g2)).trans g2;rw[ah]at x1;rw[al]at x2;exact⟨by simp[World.cell?,x1],by simp[World.cell?,x2]⟩)
 have ak:Below w.heap.size w w3.drew:=ay.drew;have ao:NatC S w3.drew (.slice va nv vc) vs:=hv.keep ak.size (fun k hk hl=>⟨hZ k hk,ak.block k hl⟩);have CO:Hid (Calls Tryz.prog 32 #[.slice va nv vc] w3.drew fun e w4=>∃L:List (Value×List Nat),e=.returned (.slice (some ⟨w3.heap.size,0,none⟩) nv nv)/\VRow w4 w3.drew.heap.size 59 (L.flatMap jaN)/\L.map (·.2)=vs.map (fun x=>[x])/\(∀r∈L,NatS S w4 r.1 r.2)/\Below w3.drew.heap.size w3.drew w4):=zA ((jdS ao (by omega)).mono (fun e w4 h5=>by
  obtain⟨L,e1,h6⟩:=h5;exact⟨L,by rw[e1,an];rfl,h6⟩))
 have HSC:=zA ao;have aj:Hid (∀(w4:World) (L:List (Value×List Nat)),VRow w4 w3.drew.heap.size 59 (L.flatMap jaN)->L.map (·.2)=vs.map (fun x=>[x])->(∀r∈L,NatS S w4 r.1 r.2)->Below w3.drew.heap.size w3.drew w4->
  Calls Tryz.prog 31 #[.pointer (some ⟨sb,0,none⟩),.slice (some ⟨w3.heap.size,0,none⟩) nv nv,.func (.func 100) #[] #[.pointer (some ⟨w.heap.size,0,none⟩),.pointer (some ⟨w.heap.size+1,0,none⟩),.pointer (some ⟨w.heap.size+2,0,none⟩)]] w4 (EachE (Plus S w.heap.size w4.heap.size) sb d nv (LInv w4 (fun k=>Plus S w.heap.size w4.heap.size k/\k≠w.heap.size+2) (w.heap.size+2) vs P))):=zA (fun w4 L am af ac aa=>by
  have au:=aa.size;have au:w3.heap.size<=w4.heap.size:=au;have ab:Below w.heap.size w w4:=ak.trans (aa.mono (by rw[show w3.drew.heap.size=w3.heap.size from rfl];omega));have x1:=(aa.block _ (lt_of_block g1)).trans g1;have x2:=(aa.block _ (lt_of_block g2)).trans g2;have x3:=(aa.block _ (lt_of_block g3)).trans g3;rw[ah]at x1;rw[al]at x2;rw[ap]at x3;have ag:Low (Plus S w.heap.size w4.heap.size) w4:=hS.plus ab.size;have aA:L.length=nv:=by
   have:=congrArg List.length af;rw[zH,zH]at this;rw[this,an]
  have aE:LstS (fun k=>Plus S w.heap.size w4.heap.size k/\k≠w.heap.size+2) w4 (.slice (some ⟨w3.heap.size,0,none⟩) nv nv) L:=by
   refine⟨?_,fun r hr2=>(ac r hr2).sub (fun k hk _=>⟨.inl hk,by have:=hS k hk;omega⟩)⟩;have h5:=am.sl jaU rfl;rw[aA]at h5;exact h5.sub (fun k hk _=>by
    have hk:k=w3.heap.size:=hk;have:=lt_of_block am;have h6:w3.heap.size<w4.heap.size:=this;exact⟨.inr ⟨by omega,by omega⟩,by omega⟩)
  have ae:=loops1_any (L:=L) (qs:=w.heap.size) (qv:=w.heap.size+1) (vl:=w.heap.size+2) (P:=P) (d:=d) (w0:=w4) (S0:=fun k=>Plus S w.heap.size w4.heap.size k/\k≠w.heap.size+2) (fun k hk=>ag k hk.1) (fun hk=>hk.2 rfl) (by omega) ⟨x1,.inr ⟨zD _,by omega⟩,by omega⟩ ⟨x2,.inr ⟨by omega,by omega⟩,by omega⟩ (ao.keep aa.size (fun k hk hl=>⟨⟨.inl hk,by have:=hS k hk;omega⟩,aa.block k hl⟩)) hvs hvsl hP (fun k hk=>⟨.inl (h.kS k hk),by have:=hS k (h.kS k hk);omega⟩) af;have aC:TabG w4:=hT.below (B:=w.heap.size) (hS 0 h0) ab;have ax:(0:Nat)≠w.heap.size+2:=by omega
  have E:=each_any (fn:=100) (Inv:=LInv w4 (fun k=>Plus S w.heap.size w4.heap.size k/\k≠w.heap.size+2) (w.heap.size+2) vs P) (v:=.slice (some ⟨w3.heap.size,0,none⟩) nv nv) (L:=L) (enters_of Tryz.func100 (by kernel_rfl) rfl) (h.plus ab) ag hr hn hol (by omega) (fun r hr2=>by
   have h7:r.2∈vs.map fun x=>[x]:=by rw[<- af];exact zW hr2
   obtain⟨x,hx,e⟩:=zV.1 h7;rw[<- e];exact⟨fun u hu=>by rw[zK.1 hu];exact hvs x hx,by simp⟩) (fun i T x y hi hf=>hi.keep hf) (fun i T x hi=>⟨(aE.fr hi.fr).sub (fun k hk _=>hi.sub k hk),aC.fr (S:=fun k=>Plus S w.heap.size w4.heap.size k/\k≠w.heap.size+2) ⟨.inl h0,ax⟩ hi.fr,hi.sub 0 ⟨.inl h0,ax⟩⟩) ae ⟨fun k hk=>hk.1,Fr.refl _ _,.inr ⟨by omega,by omega⟩,.slice none 0 0,x3,by intro g hg;simp[Value.ownBlock]at hg,World.ownsRow_nil _ _ _ _⟩
  rw[aA]at E;exact E)
 obtain⟨M,hM⟩:=eX (vs.filter P);rw[<- hM];obtain⟨Q,hQ⟩:=eX (LooE S w sb d M);rw[<- hQ];have ar:Hid (∀(w4:World) (L:List (Value×List Nat)) (w5:World) (T:Nat->Prop) (s':Ss) (m':Sp),Below w3.drew.heap.size w3.drew w4->(∀k,Plus S w.heap.size w4.heap.size k->T k)->Low T w5->SrS T w5 sb d s' m'->Rest d s'->LInv w4 (fun k=>Plus S w.heap.size w4.heap.size k/\k≠w.heap.size+2) (w.heap.size+2) vs P nv T w5->
  ∃lv,(w5.cell? ⟨w.heap.size,0,none⟩=some (.pointer (some ⟨sb,0,none⟩))/\w5.cell? ⟨w.heap.size+1,0,none⟩=some (.slice va nv vc))/\w5.cell? ⟨w.heap.size+2,0,none⟩=some lv/\Hid (Q (.returned lv) w5/\w5.ownsRow w.heap.size 3 1 lv M.length (M.flatMap csI))):=zA (fun w4 L w5 T s' m' aa t1 t2 t3 t4 t5=>by
  have au:w3.heap.size<=w4.heap.size:=aa.size;have ab:Below w.heap.size w w4:=ak.trans (aa.mono (by rw[show w3.drew.heap.size=w3.heap.size from rfl];omega));obtain⟨lv,u1,u2,u3⟩:=t5.ex;have aD:vs.take nv=vs:=zJ (by omega);rw[aD,<- hM]at u3;have x1:=(t5.fr.block _ ⟨.inr ⟨zD _,by omega⟩,by omega⟩).trans ((aa.block _ (lt_of_block g1)).trans g1);have x2:=(t5.fr.block (w.heap.size+1) ⟨.inr ⟨by omega,by omega⟩,by omega⟩).trans ((aa.block _ (lt_of_block g2)).trans g2);rw[ah]at x1;rw[al]at x2;have ai:w5.ownsRow w.heap.size 3 1 lv M.length (M.flatMap csI):=by
   refine⟨u3.1,u3.2.imp id ?_⟩;rintro⟨g,cp,aF,a1,a2,a3⟩;exact⟨g,cp,aF,a1,zT ab.size a2,a3⟩
  refine⟨lv,⟨by simp[World.cell?,x1],by simp[World.cell?,x2]⟩,by simp[World.cell?,u1],zA ⟨?_,ai⟩⟩;rw[hQ];exact⟨lv,rfl,ai,T,s',m',fun k hk=>t1 k (.inl hk),t2,t3,t4,u2,⟨t5.fr.os.trans ab.os,t5.fr.tape.trans ab.tape,t5.fr.output.trans ab.output,zT ab.size t5.fr.size,fun k hk=>(t5.fr.block k ⟨.inl hk,by have:=hS k hk;omega⟩).trans (ab.block k (hS k hk))⟩⟩)
 have HS3:=zA az;clear h hS hr hn hol hT h0 hv hZ hvs hvsl hP g1 g2 g3 ay ak ao az hM hQ an;go_enter Tryz.func77,Tryz.ntmps77;go_wp2_with fail;rw[<- ah,<- al,<- ap,<- ad];clear ah al ap ad;refine wp_region_held_drew (S:=fun u=>u.cell? ⟨w.heap.size,0,none⟩=some (.pointer (some ⟨sb,0,none⟩))/\u.cell? ⟨w.heap.size+1,0,none⟩=some (.slice va nv vc)) (by kernel_rfl) ?_ (fun hHeld=>?_)
 . exact KS.out _ aq.out
 refine tkH (i:=0) (oi:=⟨some 6,.load 67 (.tmp 2),67, "join.go:93",#[],none⟩) (v:=?_) rfl ?_ hHeld ?_;rotate_left 1
 . rintro W ⟨l1,l2⟩;go_simp;try with_reducible rfl
 simp only[Act.put,zIB,zSZ,zSS];refine tkH (i:=1) (oi:=⟨some 7,.load 59 (.tmp 3),59, "join.go:93",#[],none⟩) (v:=?_) rfl ?_ hHeld ?_;rotate_left 1
 . rintro W ⟨l1,l2⟩;go_simp;try with_reducible rfl
 simp only[Act.put,zIB,zSZ,zSS];refine tkH (i:=3) (oi:=⟨some 9,.makeFunc (.func 100) #[] #[.tmp 2,.tmp 3,.tmp 5],76, "join.go:93",#[],none⟩) (v:=?_) rfl ?_ hHeld ?_;rotate_left 1
 . rintro W ⟨l1,l2⟩;go_simp;try with_reducible rfl
 simp only[Act.put,zIB,zSZ,zSS];refine rdH (k:=2) (o:=⟨some 8,.call { callee:=.value (.func 32),args:=#[.tmp 7],argTypes:=#[59] },60, "join.go:93",#[⟨1,.data⟩],none⟩) rfl (fun K hK=>?_);go_simp;refine CO.out.mono ?_;rintro e w4 ⟨L,rfl,am,af,ac,aa⟩;have HE:=zA (aj.out w4 L am af ac aa);have aB:=zA aa;have k4:=KS.out w4 (aq.out.trans (aa.mono aq.out.size));clear am af ac aa;refine hK.out _ _ k4 (fun hHeld=>?_);clear hK K;refine rdH (k:=4) (o:=⟨some 10,.call { callee:=.value (.func 31),args:=#[.tmp 6,.tmp 8,.tmp 9],argTypes:=#[67,60,76] },0, "join.go:93",#[⟨0,.data⟩,⟨2,.data⟩,⟨3,.data⟩,⟨2,.chain⟩],none⟩) rfl (fun K hK=>?_);go_simp;refine HE.out.mono ?_;rintro e w5 ⟨rfl,T,s',m',t1,t2,t3,t4,t5⟩;have HF:=zA (ar.out w4 L w5 T s' m' aB.out t1 t2 t3 t4 t5);clear t1 t2 t3 t4 t5;obtain⟨lv,k5,c5,HX⟩:=HF.out;refine hK.out _ _ k5 (fun hHeld=>?_);clear hK K;refine wpAnyH_done (by kernel_rfl) ?_ _;obtain⟨la,lc,av⟩:=jab HX.out.2;subst av;go_wp2;all_goals (first|(go_ret;exact HX.out.1)|exact HX.out.1)
end Go.Proofs.YtkbgmcmcpbegjaaGreatDoor
