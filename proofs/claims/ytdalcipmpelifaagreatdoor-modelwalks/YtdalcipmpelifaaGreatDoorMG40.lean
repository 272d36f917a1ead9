/- XLoops. -/
import Derived.Test.YtdalcipmpelifaaGreatDoorMG31
set_option maxRecDepth 100000
namespace Go.Proofs.YtdalcipmpelifaaGreatDoor
open Go.RowKit Go.Shelf
structure LInv (w0:World) (S0:Nat->Prop) (vl:Nat) (vs:List Nat) (P:Nat->Bool) (i:Nat) (S:Nat->Prop) (w:World):Prop where
 sub:∀k,S0 k->S k
 fr:Fr S0 w0 w
 svl:S vl
 ex:∃lv,w.heap[vl]?=some (.cells #[lv] 56 (0,0))/\(∀g,lv.ownBlock=some g->S g)/\w.ownsRow w0.heap.size 3 1 lv ((vs.take i).filter P).length (((vs.take i).filter P).flatMap csI)
theorem LInv.keep{w0:World}{S0:Nat->Prop}{vl:Nat}{vs:List Nat}{P:Nat->Bool}{i:Nat}{S:Nat->Prop}{w w':World}(h:LInv w0 S0 vl vs P i S w)(hf:Fr S w w'):LInv w0 S0 vl vs P i S w':=by
 obtain⟨lv,h1,h2,h3⟩:=h.ex;exact⟨h.sub,h.fr.trans (hf.sub h.sub),h.svl,lv,(hf.block vl h.svl).trans h1,h2,owns_key h3 (fun g o hg ho=>(hf.block g (h2 g hg)).trans ho)⟩
set_option maxHeartbeats 16000000 in
theorem loops1_any{w0:World}{S0:Nat->Prop}{qs qv vl sb:Nat}{d:Sd}{vv:Value}{vs:List Nat}{P:Nat->Bool}{L:List (Value×List Nat)}
 (hlow:Low S0 w0) (hvl:¬S0 vl) (hvl0:vl<w0.heap.size) (hqs:w0.heap[qs]?=some (.cells #[.pointer (some ⟨sb,0,none⟩)] 64 (0,0))/\S0 qs) (hqv:w0.heap[qv]?=some (.cells #[vv] 56 (0,0))/\S0 qv)
 (hvv:NatC S0 w0 vv vs) (hvs:∀x∈vs,x<d.n) (hvsl:vs.length<=10000) (hP:∀x,x<d.n->(P x=true↔d.leads [x] x)) (hkp:∀k,d.kp k->S0 k) (hL:L.map (·.2)=vs.map fun x=>[x]):
 FoundC 74 #[.pointer (some ⟨qs,0,none⟩),.pointer (some ⟨qv,0,none⟩),.pointer (some ⟨vl,0,none⟩)] sb d L (LInv w0 S0 vl vs P):=by
 intro i r S w s m hri hSl hsr hre hdo hinv;obtain⟨i0,hi0,hz0,hz1,hz2⟩:=info_partsG infoZG;obtain⟨x,hx,hrx⟩:∃x,vs[i]?=some x/\r.2=[x]:=by
  have h1:(L.map (·.2))[i]?=some r.2:=by rw[zI,hri];rfl
  rw[hL,zI]at h1;cases hx:vs[i]? with
  |none=>rw[hx]at h1;simp at h1
  |some x=>rw[hx]at h1;exact⟨x,rfl,by simpa using h1.symm⟩
 rw[hrx]at hdo;have hxn:=hvs x (zC hx);obtain⟨lv,e1,e2,e3⟩:=hinv.ex;have hsz0:w0.heap.size<=w.heap.size:=hinv.fr.size;have hil:=(zE.1 hx).1;obtain⟨va,vc,hve⟩:=hvv.1.slice;obtain⟨nv,hnv⟩:∃q,q=vs.length:=⟨_,rfl⟩
 rw[<- hnv]at hve hvsl hil;subst hve;obtain⟨g,off,hva,hgS,hgl,hcell⟩:=(hvv.1.fr hinv.fr).get hx;subst hva;have q0:=getI hcell;rw[yK]at q0;have hiI:(i:Int)<(nv:Int):=by omega
 have KS0:Hid (∀u,Below w.heap.size w u->u.cell? ⟨qs,0,none⟩=some (.pointer (some ⟨sb,0,none⟩))/\u.cell? ⟨qv,0,none⟩=some (.slice (some ⟨g,off,none⟩) nv vc)/\u.cell? ⟨g,off+i,none⟩=some (.int .i64 (x:Int))):=zA (fun u hu=>by
  have h1:=(hu.block qs (zO (hlow qs hqs.2) hsz0)).trans ((hinv.fr.block qs hqs.2).trans hqs.1);have h2:=(hu.block qv (zO (hlow qv hqv.2) hsz0)).trans ((hinv.fr.block qv hqv.2).trans hqv.1);exact⟨by simp[World.cell?,h1],by simp[World.cell?,h2],(hu.cell (p:=⟨g,off+i,none⟩) hgl).trans q0⟩)
 have CE0:=endsAt_any (v:=x) (hsr.below (zF _ _).drew) hre.cl hre.cb hxn;rw[ends_P hdo (hP x hxn)]at CE0;have CE:=zA CE0;have htk:=filt_take (p:=P) hx;obtain⟨Q,hQ⟩:∃Q:Ending->World->Prop,Q=fun e w'=>e=.returned (.tuple #[])/\∃T,(∀k,S k->T k)/\Low T w'/\SrS T w' sb d s m/\LInv w0 S0 vl vs P (i+1) T w':=⟨_,rfl⟩
 rw[<- hQ];show Calls Tryz.prog _ #[.int .i64 (i:Int),.pointer (some ⟨qs,0,none⟩),.pointer (some ⟨qv,0,none⟩),.pointer (some ⟨vl,0,none⟩)] w _;cases hp:P x with
 |false=>
  rw[hp]at CE;rw[hp,if_neg (by decide),List.append_nil]at htk;have HFIN:Hid (Q (.returned (.tuple #[])) w.drew.drew):=zA (by
   rw[hQ];refine⟨rfl,S,fun _ h=>h,hSl,hsr.below (zF _ _).drew.drew,hinv.sub,hinv.fr.trans ⟨rfl,rfl,rfl,zD _,fun _ _=>rfl⟩,hinv.svl,lv,e1,e2,?_⟩;rw[htk];exact e3.drew.drew)
  clear hri hSl hsr hre hdo hinv e1 e2 e3 hlow hvl hvl0 hqs hqv hvv hvs hP hkp hL hx hrx hcell q0 hp htk hQ hgS CE0 hnv;go_enter Tryz.func74,Tryz.ntmps74;go_wp2_with fail;refine wp_region_held_drew (S:=fun u=>u.cell? ⟨qs,0,none⟩=some (.pointer (some ⟨sb,0,none⟩))/\u.cell? ⟨qv,0,none⟩=some (.slice (some ⟨g,off,none⟩) nv vc)/\u.cell? ⟨g,off+i,none⟩=some (.int .i64 (x:Int))) (by kernel_rfl) ?_ (fun hHeld=>?_)
  . exact KS0.out _ (zF _ _).drew
  refine tkH (i:=0) (oi:=⟨some 5,.load 64 (.tmp 1),64, "join.go:94",#[],none⟩) (v:=?_) rfl ?_ hHeld ?_;rotate_left 1
  . rintro W ⟨l1,l2,l3⟩;go_simp;try with_reducible rfl
  simp only[Act.put,zIB,zSZ,zSS];refine tkH (i:=1) (oi:=⟨some 6,.load 56 (.tmp 2),56, "join.go:94",#[],none⟩) (v:=?_) rfl ?_ hHeld ?_;rotate_left 1
  . rintro W ⟨l1,l2,l3⟩;go_simp;try with_reducible rfl
  simp only[Act.put,zIB,zSZ,zSS];refine tkH (i:=2) (oi:=⟨some 7,.move (.tmp 0),3, "join.go:94",#[],none⟩) (v:=?_) rfl ?_ hHeld ?_;rotate_left 1
  . rintro W ⟨l1,l2,l3⟩;go_simp;try with_reducible rfl
  simp only[Act.put,zIB,zSZ,zSS];refine tkH (i:=3) (oi:=⟨some 8,.indexAddr 56 (.tmp 6) (.tmp 7),0, "join.go:94",#[⟨1,.data⟩,⟨2,.data⟩],none⟩) (v:=?_) rfl ?_ hHeld ?_;rotate_left 1
  . rintro W ⟨l1,l2,l3⟩;go_simp;try with_reducible rfl
  simp only[Act.put,zIB,zSZ,zSS];refine tkH (i:=4) (oi:=⟨some 9,.load 3 (.tmp 8),3, "join.go:94",#[⟨3,.data⟩],none⟩) (v:=?_) rfl ?_ hHeld ?_;rotate_left 1
  . rintro W ⟨l1,l2,l3⟩;go_simp;try with_reducible rfl
  simp only[Act.put,zIB,zSZ,zSS];refine wpAnyH_ready (rs:=[5]) (by kernel_rfl) (by simp) ?_;refine AllReadyH.cons (o:=⟨some 10,.call { callee:=.value (.func 44),args:=#[.tmp 5,.tmp 9],argTypes:=#[64,3] },4, "join.go:94",#[⟨0,.data⟩,⟨4,.data⟩],none⟩) rfl (fun K hK=>?_) AllReadyH.nil;go_simp;refine CE.out.mono ?_;rintro e w1 ⟨rfl,rfl⟩;refine hK.out _ _ (KS0.out _ (zF _ _).drew.drew) (fun hHeld=>?_);clear hK K;refine wpAnyH_done (by kernel_rfl) ?_ _;go_wp2;all_goals (first|(go_end0;exact HFIN.out)|exact HFIN.out)
 |true=>
  rw[hp]at CE;rw[hp,if_pos rfl]at htk;obtain⟨X,hX⟩:∃X,X=(vs.take i).filter P:=⟨_,rfl⟩
  rw[<- hX]at e3 htk;have hXl:X.length<=10000:=by
   rw[hX];have h1:=yD P (vs.take i);rw[yL]at h1;omega
  obtain⟨ua,uc,hlv⟩:=own_slice e3;obtain⟨nu,hnu⟩:∃n,n=X.length:=⟨_,rfl⟩
  rw[<- hnu]at hlv hXl e3;subst hlv;obtain⟨wq,hwq⟩:∃W,W=w.drew.drew:=⟨_,rfl⟩
  have hbq:Below w.heap.size w wq:=by rw[hwq];exact(zF _ _).drew.drew
  have hsq:wq.heap.size=w.heap.size:=by rw[hwq];rfl
  have hhq:∀k:Nat,wq.heap[k]?=w.heap[k]?:=fun k=>by rw[hwq];rfl
  have HVQ:Hid (wq.heap[vl]?=some (.cells #[.slice ua nu uc] 56 (0,0))):=zA ((hhq vl).trans e1);have HRQ:Hid (wq.ownsRow w0.heap.size 3 1 (.slice ua nu uc) nu (X.flatMap csI)):=zA (by rw[hwq];exact e3.drew.drew);have KS1:Hid (∀u,Below wq.heap.size wq u->u.cell? ⟨qv,0,none⟩=some (.slice (some ⟨g,off,none⟩) nv vc)/\u.cell? ⟨g,off+i,none⟩=some (.int .i64 (x:Int))):=zA (fun u hu=>(KS0.out u (hbq.trans (hu.mono (by omega)))).2);have HA1:Hid (Below wq.heap.size wq wq.drew):=zA (zF _ _).drew;have HA2:Hid (Below wq.heap.size wq (wq.drew.alloc (.cells #[.int .i64 (x:Int)] 3))):=zA ((zF _ _).drew.alloc (zD _) _);have qlq:wq.cell? ⟨vl,0,none⟩=some (.slice ua nu uc):=by
   have:=HVQ.out;simp[World.cell?,this]
  have hl2:wq.drew.cell? ⟨vl,0,none⟩=some (.slice ua nu uc):=qlq;have hl3:(wq.alloc (.cells #[.int .i64 (x:Int)] 3)).cell? ⟨vl,0,none⟩=some (.slice ua nu uc):=by
   have h:=(HA2.out.cell (p:=⟨vl,0,none⟩) (lt_of_block HVQ.out)).trans qlq;exact h
  have HOE:Hid ((wq.drew.alloc (.cells #[.int .i64 (x:Int)] 3)).ownsRow w0.heap.size 3 1 (.slice ua nu uc) nu (X.flatMap csI)):=zA (owns_below HRQ.out HA2.out);have HNW:Hid (∀(j:Nat) u,(csI x)[j]?=some u->(wq.drew.alloc (.cells #[.int .i64 (x:Int)] 3)).cell? ((⟨wq.heap.size,0,none⟩:Addr).add j)=some u):=zA (World.news_of_block (cs:=#[.int .i64 (x:Int)]) (t:=3) (fr:=(0,0)) (heap_alloc_new wq.drew _));have hszz:w0.heap.size<=wq.heap.size:=by omega
  have hgne:g≠vl:=fun e=>hvl (e▸hgS)
  have hgl0:g<w0.heap.size:=hlow g hgS;have hqvne:qv≠vl:=fun e=>hvl (e▸hqv.2)
  have hqvl0:=hlow qv hqv.2;have HKG:Hid (∀gg cap2 w9,w9.ownsRow w0.heap.size 3 1 (.slice (some ⟨gg,0,none⟩) (nu+1) cap2) (nu+1) (X.flatMap csI++csI x)->(wq.drew.alloc (.cells #[.int .i64 (x:Int)] 3)).grownBy w9 (Value.slice ua nu uc).ownBlock->((Value.slice ua nu uc).ownBlock=some gg\/gg=wq.heap.size+1)->
   (w9.cell? ⟨qv,0,none⟩=some (.slice (some ⟨g,off,none⟩) nv vc)/\w9.cell? ⟨g,off+i,none⟩=some (.int .i64 (x:Int)))/\((w9.setCell ⟨vl,0,none⟩ (.slice (some ⟨gg,0,none⟩) (nu+1) cap2)).cell? ⟨qv,0,none⟩=some (.slice (some ⟨g,off,none⟩) nv vc)/\(w9.setCell ⟨vl,0,none⟩ (.slice (some ⟨gg,0,none⟩) (nu+1) cap2)).cell? ⟨g,off+i,none⟩=some (.int .i64 (x:Int)))/\(w9.cell? ⟨vl,0,none⟩=some (.slice ua nu uc)/\w9.frozen? ⟨vl,0,none⟩=false)/\Hid (Q (.returned (.tuple #[])) (w9.setCell ⟨vl,0,none⟩ (.slice (some ⟨gg,0,none⟩) (nu+1) cap2)))):=zA (fun gg cap2 w9 h1 h2 hat=>by
   have hold:∀k,k<w0.heap.size->w9.heap[k]?=w.heap[k]?:=fun k hk=>by
    have h3:=h2.block k (by simp;omega) (fun e=>by have:=(HRQ.out.lt k e.symm).1;omega);exact h3.trans ((HA2.out.block k (by omega)).trans (hhq k))
   have hk9:∀k,k<w.heap.size->(Value.slice ua nu uc).ownBlock≠some k->w9.heap[k]?=w.heap[k]?:=fun k hk hne=>(h2.block k (by simp;omega) (fun e=>hne e.symm)).trans ((HA2.out.block k (by omega)).trans (hhq k))
   have hv9:w9.heap[vl]?=some (.cells #[.slice ua nu uc] 56 (0,0)):=(hold vl hvl0).trans e1;have hset:∀b,b≠vl->(w9.setCell ⟨vl,0,none⟩ (.slice (some ⟨gg,0,none⟩) (nu+1) cap2)).heap[b]?=w9.heap[b]?:=fun b hb=>zM _ _ _ _ hb
   have hs9:wq.heap.size+1<=w9.heap.size:=by have:=h2.size;simpa using this
   have hcells:∀u:World,u.heap[qv]?=w.heap[qv]?->u.heap[g]?=w.heap[g]?->u.cell? ⟨qv,0,none⟩=some (.slice (some ⟨g,off,none⟩) nv vc)/\u.cell? ⟨g,off+i,none⟩=some (.int .i64 (x:Int)):=fun u a1 a2=>by
    obtain⟨_,y1,y2⟩:=KS0.out w (zF _ _);exact⟨by simpa only[World.cell?,a1]using y1,by simpa only[World.cell?,a2]using y2⟩
   refine⟨hcells w9 (hold qv hqvl0) (hold g hgl0),hcells (w9.setCell ⟨vl,0,none⟩ (.slice (some ⟨gg,0,none⟩) (nu+1) cap2)) ((hset qv hqvne).trans (hold qv hqvl0)) ((hset g hgne).trans (hold g hgl0)),by simp[World.cell?,World.frozen?,hv9],zA ?_⟩;rw[hQ];have hsf:w.heap.size<=(w9.setCell ⟨vl,0,none⟩ (.slice (some ⟨gg,0,none⟩) (nu+1) cap2)).heap.size:=by simp;omega
   refine⟨rfl,Plus S w.heap.size (w9.setCell ⟨vl,0,none⟩ (.slice (some ⟨gg,0,none⟩) (nu+1) cap2)).heap.size,fun k hk=>.inl hk,hSl.plus hsf,?_,?_⟩
   . refine hsr.keep hsf (fun b hb ho=>⟨fun hp2=>?_,(hset b (fun e=>hsr.own_no ho (e▸hinv.svl))).trans (hk9 b hb (fun e=>hsr.own_no ho (e2 b e)))⟩) (fun b hb hkb=>(hset b (fun e=>hvl (e▸hkp b hkb))).trans (hold b (hlow b (hkp b hkb)))) (fun b hb=>.inl (hsr.kS b hb));rcases hp2 with hp2|hp2
     . exact hsr.own_no ho hp2
     . omega
   . have h4:w9.ownsRow w0.heap.size 3 1 (.slice (some ⟨gg,0,none⟩) (nu+1) cap2) ((vs.take (i+1)).filter P).length (((vs.take (i+1)).filter P).flatMap csI):=by
      rw[htk,zG,<- hnu,zY];exact h1
     refine⟨fun k hk=>.inl (hinv.sub k hk),⟨?_,?_,?_,by omega,fun k hk=>(hset k (fun e=>hvl (e▸hk))).trans ((hold k (hlow k hk)).trans (hinv.fr.block k hk))⟩,.inl hinv.svl,_,?_,fun k hk=>?_,owns_key h4 (fun b o hb ho=>(hset b (fun e=>own_neG h4 hv9 (by decide) (by rw[hb,e]))).trans ho)⟩
     . exact h2.os.trans (HA2.out.os.trans (hbq.os.trans hinv.fr.os))
     . exact h2.tape.trans (HA2.out.tape.trans (hbq.tape.trans hinv.fr.tape))
     . exact h2.output.trans (HA2.out.output.trans (hbq.output.trans hinv.fr.output))
     . simp[World.setCell,Array.getElem?_modify,hv9]
     . have hgk:gg=k:=by simpa[Value.ownBlock]using hk
       subst hgk;have hl9:=(h1.lt gg rfl).2;rcases hat with hat|hat
       . exact .inl (e2 gg hat)
       . exact .inr ⟨by omega,by simpa using hl9⟩)
  clear hri hSl hsr hre hdo hinv e1 e2 e3 hlow hvl hvl0 hqs hqv hvv hvs hP hkp hL hx hrx hcell q0 hp htk hQ hgS CE0 hX hnu hnv hbq hsq hhq qlq hgne hgl0 hqvne hqvl0;go_enter Tryz.func74,Tryz.ntmps74;go_wp2_with fail;refine wp_region_held_drew (S:=fun u=>u.cell? ⟨qs,0,none⟩=some (.pointer (some ⟨sb,0,none⟩))/\u.cell? ⟨qv,0,none⟩=some (.slice (some ⟨g,off,none⟩) nv vc)/\u.cell? ⟨g,off+i,none⟩=some (.int .i64 (x:Int))) (by kernel_rfl) ?_ (fun hHeld=>?_)
  . exact KS0.out _ (zF _ _).drew
  refine tkH (i:=0) (oi:=⟨some 5,.load 64 (.tmp 1),64, "join.go:94",#[],none⟩) (v:=?_) rfl ?_ hHeld ?_;rotate_left 1
  . rintro W ⟨l1,l2,l3⟩;go_simp;try with_reducible rfl
  simp only[Act.put,zIB,zSZ,zSS];refine tkH (i:=1) (oi:=⟨some 6,.load 56 (.tmp 2),56, "join.go:94",#[],none⟩) (v:=?_) rfl ?_ hHeld ?_;rotate_left 1
  . rintro W ⟨l1,l2,l3⟩;go_simp;try with_reducible rfl
  simp only[Act.put,zIB,zSZ,zSS];refine tkH (i:=2) (oi:=⟨some 7,.move (.tmp 0),3, "join.go:94",#[],none⟩) (v:=?_) rfl ?_ hHeld ?_;rotate_left 1
  . rintro W ⟨l1,l2,l3⟩;go_simp;try with_reducible rfl
  simp only[Act.put,zIB,zSZ,zSS];refine tkH (i:=3) (oi:=⟨some 8,.indexAddr 56 (.tmp 6) (.tmp 7),0, "join.go:94",#[⟨1,.data⟩,⟨2,.data⟩],none⟩) (v:=?_) rfl ?_ hHeld ?_;rotate_left 1
  . rintro W ⟨l1,l2,l3⟩;go_simp;try with_reducible rfl
  simp only[Act.put,zIB,zSZ,zSS];refine tkH (i:=4) (oi:=⟨some 9,.load 3 (.tmp 8),3, "join.go:94",#[⟨3,.data⟩],none⟩) (v:=?_) rfl ?_ hHeld ?_;rotate_left 1
  . rintro W ⟨l1,l2,l3⟩;go_simp;try with_reducible rfl
  simp only[Act.put,zIB,zSZ,zSS];refine wpAnyH_ready (rs:=[5]) (by kernel_rfl) (by simp) ?_;refine AllReadyH.cons (o:=⟨some 10,.call { callee:=.value (.func 44),args:=#[.tmp 5,.tmp 9],argTypes:=#[64,3] },4, "join.go:94",#[⟨0,.data⟩,⟨4,.data⟩],none⟩) rfl (fun K hK=>?_) AllReadyH.nil;go_simp;refine CE.out.mono ?_;rintro e w1 ⟨rfl,rfl⟩;refine hK.out _ _ (KS0.out _ (zF _ _).drew.drew) (fun hHeld=>?_);clear hK K;refine wpAnyH_done (by kernel_rfl) ?_ _;go_wp2_with fail;rw[<- hwq];clear hwq;refine wp_region_held_drew (S:=fun u=>u.cell? ⟨qv,0,none⟩=some (.slice (some ⟨g,off,none⟩) nv vc)/\u.cell? ⟨g,off+i,none⟩=some (.int .i64 (x:Int))) (by kernel_rfl) ?_ (fun hHeld=>?_)
  . exact KS1.out _ HA1.out
  refine tkH (i:=1) (oi:=⟨some 12,.load 56 (.tmp 2),56, "join.go:95",#[],none⟩) (v:=?_) rfl ?_ hHeld ?_;rotate_left 1
  . rintro W ⟨l1,l2⟩;go_simp;try with_reducible rfl
  simp only[Act.put,zIB,zSZ,zSS];refine tkH (i:=2) (oi:=⟨some 13,.move (.tmp 0),3, "join.go:95",#[],none⟩) (v:=?_) rfl ?_ hHeld ?_;rotate_left 1
  . rintro W ⟨l1,l2⟩;go_simp;try with_reducible rfl
  simp only[Act.put,zIB,zSZ,zSS];refine tkH (i:=3) (oi:=⟨some 14,.indexAddr 56 (.tmp 12) (.tmp 13),0, "join.go:95",#[⟨1,.data⟩,⟨2,.data⟩],none⟩) (v:=?_) rfl ?_ hHeld ?_;rotate_left 1
  . rintro W ⟨l1,l2⟩;go_simp;try with_reducible rfl
  simp only[Act.put,zIB,zSZ,zSS];refine tkH (i:=4) (oi:=⟨some 15,.load 3 (.tmp 14),3, "join.go:95",#[⟨3,.data⟩],none⟩) (v:=?_) rfl ?_ hHeld ?_;rotate_left 1
  . rintro W ⟨l1,l2⟩;go_simp;try with_reducible rfl
  simp only[Act.put,zIB,zSZ,zSS];refine wpAnyH_ready (rs:=[0,5]) (by kernel_rfl) (by simp) ?_;refine AllReadyH.cons (o:=⟨some 11,.load 56 (.tmp 3),56, "join.go:95",#[],none⟩) rfl (fun K hK=>?_) (AllReadyH.cons (o:=⟨some 16,.buildSlice 56 1 #[(0,.tmp 15)],56, "join.go:95",#[⟨4,.data⟩],none⟩) rfl (fun K hK=>?_) AllReadyH.nil)
  . go_simp;refine hK.out _ _ (KS1.out _ HA1.out) (fun hHeld=>?_);clear hK K;refine wpAnyH_ready (rs:=[5]) (by kernel_rfl) (by simp) ?_;refine AllReadyH.cons (o:=⟨some 16,.buildSlice 56 1 #[(0,.tmp 15)],56, "join.go:95",#[⟨4,.data⟩],none⟩) rfl (fun K hK=>?_) AllReadyH.nil;go_simp;refine hK.out _ _ (KS1.out _ HA2.out) (fun hHeld=>?_);clear hK K;refine wpAnyH_ready (rs:=[6]) (by kernel_rfl) (by simp) ?_;refine AllReadyH.cons (o:=⟨some 17,.call { callee:=.builtin .append,args:=#[.tmp 11,.tmp 16],argTypes:=#[56,56] },56, "join.go:95",#[⟨0,.data⟩,⟨5,.data⟩],none⟩) rfl (fun K hK=>?_) AllReadyH.nil;refine step_append_lies _ (by rfl) _ _ _ (by rfl) w0.heap.size 3 i0 _ 1 8 Tryz.underlying56 hi0 hz0 hz1 hz2 rfl (by decide) (.slice ua nu uc) _ _ (by rfl) HOE.out ⟨wq.heap.size,0,none⟩ 1 1 (csI x) (by rfl) (by rfl) HNW.out (by simp[Value.oneCell']) (by decide) (by unfold maxLen;omega) (by omega) (by simp;omega) (wq.heap.size+1) (by simp) ?_;intro gg cap2 w9 hown9 hgrow9 hat9 hlt9;have HW9:=zA (HKG.out gg cap2 w9 hown9 hgrow9 hat9);refine hK.out _ _ HW9.out.1 (fun hHeld=>?_);clear hK K hown9 hgrow9 hat9 hlt9;obtain⟨c2,c8⟩:=HW9.out.2.2.1;refine wpAnyH_ready (rs:=[7]) (by kernel_rfl) (by simp) ?_;refine AllReadyH.cons (o:=⟨none,.store 56 (.tmp 3) (.tmp 17),0, "join.go:95",#[⟨6,.data⟩,⟨6,.chain⟩,⟨0,.phase⟩,⟨1,.phase⟩,⟨2,.phase⟩,⟨3,.phase⟩,⟨4,.phase⟩,⟨5,.phase⟩,⟨6,.phase⟩],none⟩) rfl (fun K hK=>?_) AllReadyH.nil;go_simp;refine hK.out _ _ HW9.out.2.1 (fun hHeld=>?_);clear hK K c2 c8;refine wpAnyH_done (by kernel_rfl) ?_ _;go_wp2;all_goals (first|(go_end0;exact HW9.out.2.2.2.out)|exact HW9.out.2.2.2.out)
  . go_simp;refine hK.out _ _ (KS1.out _ HA2.out) (fun hHeld=>?_);clear hK K;refine wpAnyH_ready (rs:=[0]) (by kernel_rfl) (by simp) ?_;refine AllReadyH.cons (o:=⟨some 11,.load 56 (.tmp 3),56, "join.go:95",#[],none⟩) rfl (fun K hK=>?_) AllReadyH.nil;go_simp;refine hK.out _ _ (KS1.out _ HA2.out) (fun hHeld=>?_);clear hK K;refine wpAnyH_ready (rs:=[6]) (by kernel_rfl) (by simp) ?_;refine AllReadyH.cons (o:=⟨some 17,.call { callee:=.builtin .append,args:=#[.tmp 11,.tmp 16],argTypes:=#[56,56] },56, "join.go:95",#[⟨0,.data⟩,⟨5,.data⟩],none⟩) rfl (fun K hK=>?_) AllReadyH.nil;refine step_append_lies _ (by rfl) _ _ _ (by rfl) w0.heap.size 3 i0 _ 1 8 Tryz.underlying56 hi0 hz0 hz1 hz2 rfl (by decide) (.slice ua nu uc) _ _ (by rfl) HOE.out ⟨wq.heap.size,0,none⟩ 1 1 (csI x) (by rfl) (by rfl) HNW.out (by simp[Value.oneCell']) (by decide) (by unfold maxLen;omega) (by omega) (by simp;omega) (wq.heap.size+1) (by simp) ?_;intro gg cap2 w9 hown9 hgrow9 hat9 hlt9;have HW9:=zA (HKG.out gg cap2 w9 hown9 hgrow9 hat9);refine hK.out _ _ HW9.out.1 (fun hHeld=>?_);clear hK K hown9 hgrow9 hat9 hlt9;obtain⟨c2,c8⟩:=HW9.out.2.2.1;refine wpAnyH_ready (rs:=[7]) (by kernel_rfl) (by simp) ?_;refine AllReadyH.cons (o:=⟨none,.store 56 (.tmp 3) (.tmp 17),0, "join.go:95",#[⟨6,.data⟩,⟨6,.chain⟩,⟨0,.phase⟩,⟨1,.phase⟩,⟨2,.phase⟩,⟨3,.phase⟩,⟨4,.phase⟩,⟨5,.phase⟩,⟨6,.phase⟩],none⟩) rfl (fun K hK=>?_) AllReadyH.nil;go_simp;refine hK.out _ _ HW9.out.2.1 (fun hHeld=>?_);clear hK K c2 c8;refine wpAnyH_done (by kernel_rfl) ?_ _;go_wp2;all_goals (first|(go_end0;exact HW9.out.2.2.2.out)|exact HW9.out.2.2.2.out)
def LooE(S:Nat->Prop)(w:World)(sb:Nat)(d:Sd)(M:List Nat)(e:Ending)(w':World):Prop:=
 ∃lv,e=.returned lv/\w'.ownsRow w.heap.size 3 1 lv M.length (M.flatMap csI)/\∃(T:Nat->Prop) (s':Ss) (m':Sp),(∀k,S k->T k)/\Low T w'/\SrS T w' sb d s' m'/\Rest d s'/\(∀g,lv.ownBlock=some g->T g)/\Fr S w w'
set_option maxHeartbeats 16000000 in
theorem loops_any{S Z:Nat->Prop}{w:World}{sb:Nat}{d:Sd}{s:Ss}{m:Sp}{vv:Value}{vs:List Nat}{P:Nat->Bool}
 (h:SrS S w sb d s m) (hS:Low S w) (hr:Rest d s) (hn:d.n<=10000) (hol:∀u,(d.out u).length<=1000000) (hT:TabG w) (h0:S 0) (hv:NatC Z w vv vs) (hZ:∀k,Z k->S k) (hvs:∀x∈vs,x<d.n) (hvsl:vs.length<=10000) (hP:∀x,x<d.n->(P x=true↔d.leads [x] x)):
 Calls Tryz.prog 53 #[.pointer (some ⟨sb,0,none⟩),vv] w (LooE S w sb d (vs.filter P)):=by
 obtain⟨va,vc,hve⟩:=hv.1.slice;obtain⟨nv,hnv⟩:∃q,q=vs.length:=⟨_,rfl⟩
 rw[<- hnv]at hve;subst hve;obtain⟨o1,ho1⟩:∃o,o=Obj.cells #[.pointer (some ⟨sb,0,none⟩)] 64 (0,0):=⟨_,rfl⟩
 obtain⟨o2,ho2⟩:∃o,o=Obj.cells #[.slice va nv vc] 56 (0,0):=⟨_,rfl⟩
 obtain⟨o3,ho3⟩:∃o,o=Obj.cells #[.slice none 0 0] 56 (0,0):=⟨_,rfl⟩
 obtain⟨w3,hw3⟩:∃W,W=((w.alloc o1).alloc o2).alloc o3:=⟨_,rfl⟩
 have hs3:w3.heap.size=w.heap.size+3:=by rw[hw3];simp
 have hb3:Below w.heap.size w w3:=by rw[hw3];exact(((zF _ _).alloc (zD _) _).alloc (by simp) _).alloc (by simp;omega) _
 have g1:w3.heap[w.heap.size]?=some o1:=by rw[hw3];exact get_atG [o1,o2,o3] w 0 (by simp)
 have g2:w3.heap[w.heap.size+1]?=some o2:=by rw[hw3];exact get_atG [o1,o2,o3] w 1 (by simp)
 have g3:w3.heap[w.heap.size+2]?=some o3:=by rw[hw3];exact get_atG [o1,o2,o3] w 2 (by simp)
 have HA0:Hid (Below w3.heap.size w3 w3.drew):=zA (zF _ _).drew;have KS:Hid (∀u,Below w3.heap.size w3 u->u.cell? ⟨w.heap.size,0,none⟩=some (.pointer (some ⟨sb,0,none⟩))/\u.cell? ⟨w.heap.size+1,0,none⟩=some (.slice va nv vc)):=zA (fun u hu=>by
  have x1:=(hu.block _ (lt_of_block g1)).trans g1;have x2:=(hu.block _ (lt_of_block g2)).trans g2;rw[ho1]at x1;rw[ho2]at x2;exact⟨by simp[World.cell?,x1],by simp[World.cell?,x2]⟩)
 have hbd:Below w.heap.size w w3.drew:=hb3.drew;have hvd:NatC S w3.drew (.slice va nv vc) vs:=hv.keep hbd.size (fun k hk hl=>⟨hZ k hk,hbd.block k hl⟩);have CO:Hid (Calls Tryz.prog 22 #[.slice va nv vc] w3.drew fun e w4=>∃L:List (Value×List Nat),e=.returned (.slice (some ⟨w3.heap.size,0,none⟩) nv nv)/\VRow w4 w3.drew.heap.size 56 (L.flatMap csRow)/\L.map (·.2)=vs.map (fun x=>[x])/\(∀r∈L,NatS S w4 r.1 r.2)/\Below w3.drew.heap.size w3.drew w4):=zA ((oneByOne_any hvd (by omega)).mono (fun e w4 h5=>by
  obtain⟨L,e1,h6⟩:=h5;exact⟨L,by rw[e1,hnv];rfl,h6⟩))
 have HSC:=zA hvd;have HEACH:Hid (∀(w4:World) (L:List (Value×List Nat)),VRow w4 w3.drew.heap.size 56 (L.flatMap csRow)->L.map (·.2)=vs.map (fun x=>[x])->(∀r∈L,NatS S w4 r.1 r.2)->Below w3.drew.heap.size w3.drew w4->
  Calls Tryz.prog 21 #[.pointer (some ⟨sb,0,none⟩),.slice (some ⟨w3.heap.size,0,none⟩) nv nv,.func (.func 74) #[] #[.pointer (some ⟨w.heap.size,0,none⟩),.pointer (some ⟨w.heap.size+1,0,none⟩),.pointer (some ⟨w.heap.size+2,0,none⟩)]] w4 (EachE (Plus S w.heap.size w4.heap.size) sb d nv (LInv w4 (fun k=>Plus S w.heap.size w4.heap.size k/\k≠w.heap.size+2) (w.heap.size+2) vs P))):=zA (fun w4 L hv4 hL4 hat4 hb4=>by
  have hz4:=hb4.size;have hz4:w3.heap.size<=w4.heap.size:=hz4;have hbw:Below w.heap.size w w4:=hbd.trans (hb4.mono (by rw[show w3.drew.heap.size=w3.heap.size from rfl];omega));have x1:=(hb4.block _ (lt_of_block g1)).trans g1;have x2:=(hb4.block _ (lt_of_block g2)).trans g2;have x3:=(hb4.block _ (lt_of_block g3)).trans g3;rw[ho1]at x1;rw[ho2]at x2;rw[ho3]at x3;have hlow:Low (Plus S w.heap.size w4.heap.size) w4:=hS.plus hbw.size;have hLl:L.length=nv:=by
   have:=congrArg List.length hL4;rw[zH,zH]at this;rw[this,hnv]
  have hLS:LstS (fun k=>Plus S w.heap.size w4.heap.size k/\k≠w.heap.size+2) w4 (.slice (some ⟨w3.heap.size,0,none⟩) nv nv) L:=by
   refine⟨?_,fun r hr2=>(hat4 r hr2).sub (fun k hk _=>⟨.inl hk,by have:=hS k hk;omega⟩)⟩;have h5:=hv4.sl csRow_len rfl;rw[hLl]at h5;exact h5.sub (fun k hk _=>by
    have hk:k=w3.heap.size:=hk;have:=lt_of_block hv4;have h6:w3.heap.size<w4.heap.size:=this;exact⟨.inr ⟨by omega,by omega⟩,by omega⟩)
  have hfound:=loops1_any (L:=L) (qs:=w.heap.size) (qv:=w.heap.size+1) (vl:=w.heap.size+2) (P:=P) (d:=d) (w0:=w4) (S0:=fun k=>Plus S w.heap.size w4.heap.size k/\k≠w.heap.size+2) (fun k hk=>hlow k hk.1) (fun hk=>hk.2 rfl) (by omega) ⟨x1,.inr ⟨zD _,by omega⟩,by omega⟩ ⟨x2,.inr ⟨by omega,by omega⟩,by omega⟩ (hvd.keep hb4.size (fun k hk hl=>⟨⟨.inl hk,by have:=hS k hk;omega⟩,hb4.block k hl⟩)) hvs hvsl hP (fun k hk=>⟨.inl (h.kS k hk),by have:=hS k (h.kS k hk);omega⟩) hL4;have hT4:TabG w4:=hT.below (B:=w.heap.size) (hS 0 h0) hbw;have hz0:(0:Nat)≠w.heap.size+2:=by omega
  have E:=each_any (fn:=74) (Inv:=LInv w4 (fun k=>Plus S w.heap.size w4.heap.size k/\k≠w.heap.size+2) (w.heap.size+2) vs P) (v:=.slice (some ⟨w3.heap.size,0,none⟩) nv nv) (L:=L) (enters_of Tryz.func74 (by kernel_rfl) rfl) (h.plus hbw) hlow hr hn hol (by omega) (fun r hr2=>by
   have h7:r.2∈vs.map fun x=>[x]:=by rw[<- hL4];exact zU hr2
   obtain⟨x,hx,e⟩:=zR.1 h7;rw[<- e];exact⟨fun u hu=>by rw[zJ.1 hu];exact hvs x hx,by simp⟩) (fun i T x y hi hf=>hi.keep hf) (fun i T x hi=>⟨(hLS.fr hi.fr).sub (fun k hk _=>hi.sub k hk),hT4.fr (S:=fun k=>Plus S w.heap.size w4.heap.size k/\k≠w.heap.size+2) ⟨.inl h0,hz0⟩ hi.fr,hi.sub 0 ⟨.inl h0,hz0⟩⟩) hfound ⟨fun k hk=>hk.1,Fr.refl _ _,.inr ⟨by omega,by omega⟩,.slice none 0 0,x3,by intro g hg;simp[Value.ownBlock]at hg,World.ownsRow_nil _ _ _ _⟩
  rw[hLl]at E;exact E)
 obtain⟨M,hM⟩:∃M,M=vs.filter P:=⟨_,rfl⟩
 rw[<- hM];obtain⟨Q,hQ⟩:∃Q,Q=LooE S w sb d M:=⟨_,rfl⟩
 rw[<- hQ];have HFIN:Hid (∀(w4:World) (L:List (Value×List Nat)) (w5:World) (T:Nat->Prop) (s':Ss) (m':Sp),Below w3.drew.heap.size w3.drew w4->(∀k,Plus S w.heap.size w4.heap.size k->T k)->Low T w5->SrS T w5 sb d s' m'->Rest d s'->LInv w4 (fun k=>Plus S w.heap.size w4.heap.size k/\k≠w.heap.size+2) (w.heap.size+2) vs P nv T w5->
  ∃lv,(w5.cell? ⟨w.heap.size,0,none⟩=some (.pointer (some ⟨sb,0,none⟩))/\w5.cell? ⟨w.heap.size+1,0,none⟩=some (.slice va nv vc))/\w5.cell? ⟨w.heap.size+2,0,none⟩=some lv/\Hid (Q (.returned lv) w5/\w5.ownsRow w.heap.size 3 1 lv M.length (M.flatMap csI))):=zA (fun w4 L w5 T s' m' hb4 t1 t2 t3 t4 t5=>by
  have hz4:w3.heap.size<=w4.heap.size:=hb4.size;have hbw:Below w.heap.size w w4:=hbd.trans (hb4.mono (by rw[show w3.drew.heap.size=w3.heap.size from rfl];omega));obtain⟨lv,u1,u2,u3⟩:=t5.ex;have htk:vs.take nv=vs:=zK (by omega);rw[htk,<- hM]at u3;have x1:=(t5.fr.block _ ⟨.inr ⟨zD _,by omega⟩,by omega⟩).trans ((hb4.block _ (lt_of_block g1)).trans g1);have x2:=(t5.fr.block (w.heap.size+1) ⟨.inr ⟨by omega,by omega⟩,by omega⟩).trans ((hb4.block _ (lt_of_block g2)).trans g2);rw[ho1]at x1;rw[ho2]at x2;have hown:w5.ownsRow w.heap.size 3 1 lv M.length (M.flatMap csI):=by
   refine⟨u3.1,u3.2.imp id ?_⟩;rintro⟨g,cp,cur,a1,a2,a3⟩;exact⟨g,cp,cur,a1,zQ hbw.size a2,a3⟩
  refine⟨lv,⟨by simp[World.cell?,x1],by simp[World.cell?,x2]⟩,by simp[World.cell?,u1],zA ⟨?_,hown⟩⟩;rw[hQ];exact⟨lv,rfl,hown,T,s',m',fun k hk=>t1 k (.inl hk),t2,t3,t4,u2,⟨t5.fr.os.trans hbw.os,t5.fr.tape.trans hbw.tape,t5.fr.output.trans hbw.output,zQ hbw.size t5.fr.size,fun k hk=>(t5.fr.block k ⟨.inl hk,by have:=hS k hk;omega⟩).trans (hbw.block k (hS k hk))⟩⟩)
 have HS3:=zA hs3;clear h hS hr hn hol hT h0 hv hZ hvs hvsl hP g1 g2 g3 hb3 hbd hvd hs3 hM hQ hnv;go_enter Tryz.func53,Tryz.ntmps53;go_wp2_with fail;rw[<- ho1,<- ho2,<- ho3,<- hw3];clear ho1 ho2 ho3 hw3;refine wp_region_held_drew (S:=fun u=>u.cell? ⟨w.heap.size,0,none⟩=some (.pointer (some ⟨sb,0,none⟩))/\u.cell? ⟨w.heap.size+1,0,none⟩=some (.slice va nv vc)) (by kernel_rfl) ?_ (fun hHeld=>?_)
 . exact KS.out _ HA0.out
 refine tkH (i:=0) (oi:=⟨some 6,.load 64 (.tmp 2),64, "join.go:93",#[],none⟩) (v:=?_) rfl ?_ hHeld ?_;rotate_left 1
 . rintro W ⟨l1,l2⟩;go_simp;try with_reducible rfl
 simp only[Act.put,zIB,zSZ,zSS];refine tkH (i:=1) (oi:=⟨some 7,.load 56 (.tmp 3),56, "join.go:93",#[],none⟩) (v:=?_) rfl ?_ hHeld ?_;rotate_left 1
 . rintro W ⟨l1,l2⟩;go_simp;try with_reducible rfl
 simp only[Act.put,zIB,zSZ,zSS];refine tkH (i:=3) (oi:=⟨some 9,.makeFunc (.func 74) #[] #[.tmp 2,.tmp 3,.tmp 5],73, "join.go:93",#[],none⟩) (v:=?_) rfl ?_ hHeld ?_;rotate_left 1
 . rintro W ⟨l1,l2⟩;go_simp;try with_reducible rfl
 simp only[Act.put,zIB,zSZ,zSS];refine wpAnyH_ready (rs:=[2]) (by kernel_rfl) (by simp) ?_;refine AllReadyH.cons (o:=⟨some 8,.call { callee:=.value (.func 22),args:=#[.tmp 7],argTypes:=#[56] },57, "join.go:93",#[⟨1,.data⟩],none⟩) rfl (fun K hK=>?_) AllReadyH.nil;go_simp;refine CO.out.mono ?_;rintro e w4 ⟨L,rfl,hv4,hL4,hat4,hb4⟩;have HE:=zA (HEACH.out w4 L hv4 hL4 hat4 hb4);have HB4:=zA hb4;have k4:=KS.out w4 (HA0.out.trans (hb4.mono HA0.out.size));clear hv4 hL4 hat4 hb4;refine hK.out _ _ k4 (fun hHeld=>?_);clear hK K;refine wpAnyH_ready (rs:=[4]) (by kernel_rfl) (by simp) ?_;refine AllReadyH.cons (o:=⟨some 10,.call { callee:=.value (.func 21),args:=#[.tmp 6,.tmp 8,.tmp 9],argTypes:=#[64,57,73] },0, "join.go:93",#[⟨0,.data⟩,⟨2,.data⟩,⟨3,.data⟩,⟨2,.chain⟩],none⟩) rfl (fun K hK=>?_) AllReadyH.nil;go_simp;refine HE.out.mono ?_;rintro e w5 ⟨rfl,T,s',m',t1,t2,t3,t4,t5⟩;have HF:=zA (HFIN.out w4 L w5 T s' m' HB4.out t1 t2 t3 t4 t5);clear t1 t2 t3 t4 t5;obtain⟨lv,k5,c5,HX⟩:=HF.out;refine hK.out _ _ k5 (fun hHeld=>?_);clear hK K;refine wpAnyH_done (by kernel_rfl) ?_ _;obtain⟨la,lc,hlve⟩:=own_slice HX.out.2;subst hlve;go_wp2;all_goals (first|(go_ret;exact HX.out.1)|exact HX.out.1)
end Go.Proofs.YtdalcipmpelifaaGreatDoor
