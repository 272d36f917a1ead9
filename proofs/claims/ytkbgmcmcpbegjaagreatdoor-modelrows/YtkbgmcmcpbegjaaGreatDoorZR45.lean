/- XSlot2. -/
import Derived.Test.YtkbgmcmcpbegjaaGreatDoorZR44
set_option maxRecDepth 100000
set_option maxHeartbeats 16000000
namespace Go.Proofs.YtkbgmcmcpbegjaaGreatDoor
open Go.RowKit Go.Shelf
theorem two_cellsX{w:World}{b:Nat}{c0 c1:Value}{t:TypeId}(h:w.heap[b]?=some (.cells #[c0,c1] t (0,0))):w.cell? ⟨b,0,none⟩=some c0/\w.cell? ⟨b,1,none⟩=some c1:=by
 simp[World.cell?,h]
theorem infoCh:(Tryz.prog.info? 59).map (fun i=>(i.zero,i.size,i.bytes))=some (some (.slice none 0 0),1,24):=by kernel_rfl
theorem zeroIM(w:World):(zeroValue 3).run Tryz.prog w=.ok (.int .i64 0) w:=by kernel_rfl
theorem underM:Tryz.prog.underlying 130=some (.map 53 3):=by kernel_rfl
theorem jg3.look{w:World}{mp cnt:Nat}{DM:DataW Unit}{ts:List Tm}(hm:w.ownsMap Tryz.prog 53 (plainElem Tryz.prog 3) mp cnt DM)(hT:jg3 DM ts){t:Tm}(hf:jdX t):∃c:Int,(Instr.lookup 130 (.map (some mp)) (jky t) true).run Tryz.prog w=.ok (.tuple #[.int .i64 c,.bool (decide (t∈ts))]) w/\∀i:Nat,ts[i]?=some t->c=i:=by
 obtain⟨v,ps,aa,hv⟩:=hm.look_ok lawM underM (zeroIM w) (plainElem_int Tryz.underlying3 (by decide)) (keyM hf);obtain⟨c,rfl,hc,_⟩:=plainElem_int_inv Tryz.underlying3 hv;refine⟨c,by rw[aa,hT.has t hf],fun i hi=>?_⟩;have h1:=congrArg Prod.fst hc;dsimp only at h1;rw[hT.at_ i t hi]at h1;injection h1 with h1;injection h1 with _ h1;exact h1.symm
theorem slot_any{B:Nat}{V:List Wd}{w:World}{jb mp:Nat}{J:Jv}{ts:List Tm}{frs:List (Value×List Nat)}{D S:Nat->Prop}{gb:Nat}{E:List Eg}{mb:Nat}{nv ev:Value}{DG:DataW Unit}{cg:Nat}(h:SL B V w jb mp J ts frs D)(hg:GrS S w gb V E mb nv ev DG cg)(hS:∀k,S k->¬XS jb mp J k)(hBw:B<=w.heap.size){t:Tm}(hf:t.2.length<=140737488351232)(htl:ts.length<=1000)(hV:V.length<=10000):
 Calls Tryz.prog 72 #[.pointer (some ⟨jb,0,none⟩),.pointer (some ⟨gb,0,none⟩),jky t] w (SloE B V w jb mp J ts D t):=by
 obtain⟨ab,tn⟩:=t;have aF:jdX (ab,tn):=by unfold jdX maxLen;dsimp only at hf ⊢;omega
 obtain⟨a7,DM,hm,aC,hT⟩:=h.map;have aS:=lt_of_block h.blk;have aZ:=hm.lt;obtain⟨w1,aM⟩:=eX (w.alloc (.cells #[.bool ab,.string ⟨tn.toArray⟩] 53));have az:Below w.heap.size w w1:=by rw[aM];exact(zF _ _).alloc (zD _) _
 have bC:w1.heap.size=w.heap.size+1:=by rw[aM];simp
 have ao:w1.heap[w.heap.size]?=some (.cells #[.bool ab,.string ⟨tn.toArray⟩] 53 (0,0)):=by rw[aM];exact heap_alloc_new _ _
 have bu:Hid (w.alloc (.cells #[.bool ab,.string ⟨tn.toArray⟩] 53)=w1):=zA aM.symm;have K5:Hid (∀u,Below w1.heap.size w1 u->u.cell? ⟨jb,0,none⟩=some (.map (some mp))/\u.cell? ⟨w.heap.size,0,none⟩=some (.bool ab)/\u.cell? ⟨w.heap.size,1,none⟩=some (.string ⟨tn.toArray⟩)):=zA (fun u hu=>by
  have x1:=(hu.block jb (by omega)).trans ((az.block jb aS).trans h.blk);have x2:=(hu.block w.heap.size (by omega)).trans ao;obtain⟨c0,c1⟩:=two_cellsX x2;exact⟨by rw[<- h.sv];simp[World.cell?,x1,Jv.cells],c0,c1⟩)
 obtain⟨Q,hQ⟩:=eX (SloE B V w jb mp J ts D (ab,tn));rw[<- hQ];show Calls Tryz.prog _ #[_,_,.agg #[.bool ab,.string ⟨tn.toArray⟩]] w _;by_cases hmem:((ab,tn):Tm)∈ts
 . obtain⟨x,hx⟩:=eX (ts.idxOf ((ab,tn):Tm));have bB:ts[x]?=some (ab,tn):=by
    rw[hx,zB (yD hmem)];simp
   have KS:Hid (∀u,Below w1.heap.size w1 u->u.cell? ⟨jb,0,none⟩=some (.map (some mp))/\u.cell? ⟨w.heap.size,0,none⟩=some (.bool ab)/\u.cell? ⟨w.heap.size,1,none⟩=some (.string ⟨tn.toArray⟩)/\(Instr.lookup 130 (.map (some mp)) (.agg #[.bool ab,.string ⟨tn.toArray⟩]) true).run Tryz.prog u=.ok (.tuple #[.int .i64 (x:Int),.bool true]) u):=zA (fun u hu=>by
    obtain⟨a1,a2,a3⟩:=K5.out u hu;refine⟨a1,a2,a3,?_⟩;have bp:u.ownsMap Tryz.prog 53 (plainElem Tryz.prog 3) mp a7 DM:=map_keyG hm (fun o ho=>(hu.block mp (by omega)).trans ((az.block mp aZ).trans ho));obtain⟨c,h1,h2⟩:=hT.look bp aF;rw[zU hmem,h2 x bB]at h1;exact h1)
   have aP:Hid (Q (.returned (.int .i64 (x:Int))) w1.drew):=zA (by
    have aE:Below w.heap.size w w1.drew:=az.drew;have ak:addT ts (ab,tn)=ts:=by rw[addT,if_pos hmem]
    rw[hQ];refine⟨by rw[ak,hx],J.av,J.cv,frs,D,?_,fun k hk=>.inl hk,fun k hk=>.inl hk,⟨aE.os,aE.tape,aE.output,aE.size,fun k hk=>aE.block k hk.1⟩⟩;rw[ak];exact h.keep aE.size (fun k hk=>aE.block k (hk.elim (fun h1=>(h.xlt h1).2) (fun h1=>(h.dl k h1).2))))
   clear h hg hS hf hm aC hT az bC ao aM bB hx hmem hQ aF aS aZ hBw;go_enter Tryz.func72,Tryz.ntmps72;go_wp2_with fail;rw[bu.out];refine wp_region_held_drew (S:=fun u=>u.cell? ⟨jb,0,none⟩=some (.map (some mp))/\u.cell? ⟨w.heap.size,0,none⟩=some (.bool ab)/\u.cell? ⟨w.heap.size,1,none⟩=some (.string ⟨tn.toArray⟩)/\(Instr.lookup 130 (.map (some mp)) (.agg #[.bool ab,.string ⟨tn.toArray⟩]) true).run Tryz.prog u=.ok (.tuple #[.int .i64 (x:Int),.bool true]) u) (by kernel_rfl) ?_ (fun hHeld=>?_)
   . exact KS.out _ (zF _ _).drew
   refine tkH (i:=0) (oi:=⟨some 11,.move (.tmp 0),85, "join.go:57",#[],none⟩) (v:=?_) rfl ?_ hHeld ?_;rotate_left 1
   . rintro W ⟨l1,l2,l3,l4⟩;go_simp;try with_reducible rfl
   simp only[Act.put,zIB,zSZ,zSS];refine tkH (i:=1) (oi:=⟨some 12,.nilCheck (.tmp 11),0, "join.go:57",#[⟨0,.data⟩],none⟩) (v:=?_) rfl ?_ hHeld ?_;rotate_left 1
   . rintro W ⟨l1,l2,l3,l4⟩;go_simp;try with_reducible rfl
   simp only[Act.put,zIB,zSZ,zSS];refine tkH (i:=2) (oi:=⟨some 13,.fieldAddr 134 (.tmp 12) 0,0, "join.go:57",#[⟨1,.data⟩],none⟩) (v:=?_) rfl ?_ hHeld ?_;rotate_left 1
   . rintro W ⟨l1,l2,l3,l4⟩;go_simp;try with_reducible rfl
   simp only[Act.put,zIB,zSZ,zSS];refine tkH (i:=3) (oi:=⟨some 14,.load 130 (.tmp 13),130, "join.go:57",#[⟨2,.data⟩],none⟩) (v:=?_) rfl ?_ hHeld ?_;rotate_left 1
   . rintro W ⟨l1,l2,l3,l4⟩;go_simp;try with_reducible rfl
   simp only[Act.put,zIB,zSZ,zSS];refine tkH (i:=4) (oi:=⟨some 15,.load 53 (.tmp 5),53, "join.go:57",#[],none⟩) (v:=?_) rfl ?_ hHeld ?_;rotate_left 1
   . rintro W ⟨l1,l2,l3,l4⟩;go_simp;try with_reducible rfl
   simp only[Act.put,zIB,zSZ,zSS];refine tkH (i:=5) (oi:=⟨some 16,.lookup 130 (.tmp 14) (.tmp 15) true,123, "join.go:57",#[⟨3,.data⟩,⟨4,.data⟩],none⟩) (v:=?_) rfl ?_ hHeld ?_;rotate_left 1
   . rintro W ⟨l1,l2,l3,l4⟩;go_simp;try with_reducible rfl
   simp only[Act.put,zIB,zSZ,zSS];refine tkH (i:=6) (oi:=⟨some 10,.move (.tmp 16),123, "join.go:57",#[⟨5,.data⟩],none⟩) (v:=?_) rfl ?_ hHeld ?_;rotate_left 1
   . rintro W ⟨l1,l2,l3,l4⟩;go_simp;try with_reducible rfl
   simp only[Act.put,zIB,zSZ,zSS];refine tkH (i:=7) (oi:=⟨some 17,.extract (.tmp 10) 0,3, "join.go:57",#[⟨6,.data⟩],none⟩) (v:=?_) rfl ?_ hHeld ?_;rotate_left 1
   . rintro W ⟨l1,l2,l3,l4⟩;go_simp;try with_reducible rfl
   simp only[Act.put,zIB,zSZ,zSS];refine tkH (i:=8) (oi:=⟨some 18,.extract (.tmp 10) 1,4, "join.go:57",#[⟨6,.data⟩,{ on:=9,ground:=.gcOnly .lateStores }],none⟩) (v:=?_) rfl ?_ hHeld ?_;rotate_left 1
   . rintro W ⟨l1,l2,l3,l4⟩;go_simp;try with_reducible rfl
   simp only[Act.put,zIB,zSZ,zSS];refine tkH (i:=9) (oi:=⟨some 7,.assign (.tmp 17),3, "join.go:57",#[⟨7,.data⟩,⟨0,.phase⟩,⟨1,.phase⟩,⟨2,.phase⟩,⟨3,.phase⟩,⟨4,.phase⟩,⟨5,.phase⟩,⟨6,.phase⟩,⟨7,.phase⟩,{ on:=8,ground:=.textOnly .lateStores }],none⟩) (v:=?_) rfl ?_ hHeld ?_;rotate_left 1
   . rintro W ⟨l1,l2,l3,l4⟩;go_simp;try with_reducible rfl
   simp only[Act.put,zIB,zSZ,zSS];refine tkH (i:=10) (oi:=⟨some 8,.assign (.tmp 18),4, "join.go:57",#[⟨8,.data⟩,⟨9,.chain⟩,⟨0,.phase⟩,⟨1,.phase⟩,⟨2,.phase⟩,⟨3,.phase⟩,⟨4,.phase⟩,⟨5,.phase⟩,⟨6,.phase⟩,⟨7,.phase⟩,⟨8,.phase⟩,⟨9,.phase⟩],none⟩) (v:=?_) rfl ?_ hHeld ?_;rotate_left 1
   . rintro W ⟨l1,l2,l3,l4⟩;go_simp;try with_reducible rfl
   simp only[Act.put,zIB,zSZ,zSS];refine wpAnyH_done (by kernel_rfl) ?_ _;go_wp2;all_goals (first|(go_ret;exact aP.out)|exact aP.out)
 . obtain⟨i0,bV,bT,b1,bZ⟩:=jal jcY;obtain⟨i1,bs,bv,bw,bt⟩:=jal infoCh;obtain⟨zx,bG⟩:∃z:Int,∀u,Below w1.heap.size w1 u->(Instr.lookup 130 (.map (some mp)) (.agg #[.bool ab,.string ⟨tn.toArray⟩]) true).run Tryz.prog u=.ok (.tuple #[.int .i64 z,.bool false]) u:=by
    have bp:∀u,Below w1.heap.size w1 u->u.ownsMap Tryz.prog 53 (plainElem Tryz.prog 3) mp a7 DM:=fun u hu=>map_keyG hm (fun o ho=>(hu.block mp (by omega)).trans ((az.block mp aZ).trans ho))
    have bS:∀u,Below w1.heap.size w1 u->(Instr.lookup 130 (.map (some mp)) (.agg #[.bool ab,.string ⟨tn.toArray⟩]) true).run Tryz.prog u=.ok (.tuple #[.int .i64 (match DM.atKey (kM (ab,tn)) (.lit (.int .i64 0))with| .lit (.int _ z)=>z|_=>0),.bool false]) u:=fun u hu=>by
     obtain⟨v,ps,aX,hv⟩:=(bp u hu).look_ok lawM underM (zeroIM u) (plainElem_int Tryz.underlying3 (by decide)) (keyM aF);obtain⟨c,rfl,hc,_⟩:=plainElem_int_inv Tryz.underlying3 hv;have h1:=congrArg Prod.fst hc;dsimp only at h1;rw[h1];rw[hT.has _ aF,decide_eq_false hmem]at aX;exact aX
    exact⟨_,bS⟩
   have KS:Hid (∀u,Below w1.heap.size w1 u->u.cell? ⟨jb,0,none⟩=some (.map (some mp))/\u.cell? ⟨w.heap.size,0,none⟩=some (.bool ab)/\u.cell? ⟨w.heap.size,1,none⟩=some (.string ⟨tn.toArray⟩)/\(Instr.lookup 130 (.map (some mp)) (.agg #[.bool ab,.string ⟨tn.toArray⟩]) true).run Tryz.prog u=.ok (.tuple #[.int .i64 zx,.bool false]) u):=zA (fun u hu=>by
    obtain⟨a1,a2,a3⟩:=K5.out u hu;exact⟨a1,a2,a3,bG u hu⟩)
   obtain⟨w2,aQ⟩:=eX w1.drew.drew;have aD:Below w1.heap.size w1 w2:=by rw[aQ];exact(zF _ _).drew.drew
   have ar:Below w.heap.size w w2:=az.trans (aD.mono (by omega));have b0:w2.heap.size=w1.heap.size:=by rw[aQ];rfl
   obtain⟨n,hn⟩:=eX ts.length;have bE:w2.ownsMap Tryz.prog 53 (plainElem Tryz.prog 3) mp a7 DM:=map_keyG hm (fun o ho=>(ar.block mp aZ).trans ho);obtain⟨w3,a9,bI,a4⟩:∃w3,(Instr.mapUpdate 130 (.map (some mp)) (.agg #[.bool ab,.string ⟨tn.toArray⟩]) (.int .i64 (n:Int))).run Tryz.prog w2=.ok () w3/\w3.ownsMap Tryz.prog 53 (plainElem Tryz.prog 3) mp (a7+1) (DM.put (kM (ab,tn)) (.lit (.int .i64 (n:Int))))/\w2.grownBy w3 (some mp):=bE.update lawM underM (by unfold maxLen;omega) (keyM aF) (plainElem_int (H:=Unit) (P:=Tryz.prog) (e:=3) (q:=.i64) (a:=(n:Int)) Tryz.underlying3 (by simp[Lit.wf,IntKind.min,IntKind.max,IntKind.bits,IntKind.signed];omega));have bJ:mp≠jb:=blk_ne_mapG h.blk hm;have bD:J.av.ownBlock≠some jb:=jan h.al h.blk (by decide);have bg:J.cv.ownBlock≠some jb:=jan h.fi h.blk (by decide);have bY:=a4.size;have aI:∀k,k<w2.heap.size->k≠mp->w3.heap[k]?=w2.heap[k]?:=fun k hk hne=>a4.block k hk (fun e=>hne (by injection e))
   have ag:w3.heap[jb]?=some (.cells J.cells 134 (0,0)):=(aI jb (by omega) (fun e=>bJ e.symm)).trans ((ar.block jb aS).trans h.blk);have ai:w3.heap[w.heap.size]?=some (.cells #[.bool ab,.string ⟨tn.toArray⟩] 53 (0,0)):=(aI _ (by omega) (by omega)).trans ((aD.block _ (by omega)).trans ao);have bA:Hid (w3.cell? ⟨jb,0,none⟩=some (.map (some mp))/\w3.cell? ⟨w.heap.size,0,none⟩=some (.bool ab)/\w3.cell? ⟨w.heap.size,1,none⟩=some (.string ⟨tn.toArray⟩)):=zA (by
    obtain⟨c0,c1⟩:=two_cellsX ai;exact⟨by rw[<- h.sv];simp[World.cell?,ag,Jv.cells],c0,c1⟩)
   have am:w3.ownsRow B 3 1 J.av n ((List.range n).flatMap csI):=by
    rw[hn];exact jae h.al (fun g o hg2 ho=>by
     have:=(h.al.lt g hg2).2;exact(aI g (by omega) (fun e=>own_ne_mapG h.al hm (e▸hg2))).trans ((ar.block g this).trans ho))
   obtain⟨aa,ac,aL⟩:=jab am;obtain⟨ca,cc,aK⟩:=jab h.fi;have a8:=h.fl;rw[a8,<- hn]at aK;rw[aL]at am;have bi:w2.cell? ⟨jb,1,none⟩=some (.slice aa n ac):=by
    have h1:=(ar.block jb aS).trans h.blk;rw[<- aL];simp[World.cell?,h1,Jv.cells]
   have bO:w1.cell? ⟨jb,1,none⟩=some (.slice aa n ac):=by rw[aQ]at bi;exact bi
   have bL:w3.cell? ⟨jb,1,none⟩=some (.slice aa n ac):=by
    rw[<- aL];simp[World.cell?,ag,Jv.cells]
   have bn:=zA am;have au:Hid (∀gg af w5,w5.ownsRow B 3 1 (.slice (some ⟨gg,0,none⟩) (n+1) af) (n+1) ((List.range n).flatMap csI++csI n)->(w3.alloc (.cells #[.int .i64 (n:Int)] 3)).grownBy w5 (Value.slice aa n ac).ownBlock->((Value.slice aa n ac).ownBlock=some gg\/gg=w3.heap.size+1)->
    (w5.cell? ⟨jb,1,none⟩=some (.slice aa n ac)/\w5.frozen? ⟨jb,1,none⟩=false)/\(∀u,Below w5.heap.size (w5.setCell ⟨jb,1,none⟩ (.slice (some ⟨gg,0,none⟩) (n+1) af)) u->GrS S u gb V E mb nv ev DG cg/\(u.cell? ⟨jb,5,none⟩=some (.slice ca n cc)/\u.cell? ⟨w.heap.size,0,none⟩=some (.bool ab)/\u.cell? ⟨w.heap.size,1,none⟩=some (.string ⟨tn.toArray⟩))/\u.ownsRow B 59 1 (.slice ca n cc) n (frs.flatMap jaN)/\w.heap.size<=u.heap.size)/\
    Hid (∀w8 lv,Below w5.heap.size (w5.setCell ⟨jb,1,none⟩ (.slice (some ⟨gg,0,none⟩) (n+1) af)) w8->NatC (fun k=>w5.heap.size<=k) w8 lv (jaG V (ab,tn))->∀g9 ad w9,w9.ownsRow B 59 1 (.slice (some ⟨g9,0,none⟩) (n+1) ad) (n+1) (frs.flatMap jaN++[lv])->(w8.alloc (.cells #[lv] 59)).grownBy w9 (Value.slice ca n cc).ownBlock->((Value.slice ca n cc).ownBlock=some g9\/g9=w8.heap.size+1)->
     (w9.cell? ⟨jb,5,none⟩=some (.slice ca n cc)/\w9.frozen? ⟨jb,5,none⟩=false)/\Q (.returned (.int .i64 (n:Int))) (w9.setCell ⟨jb,5,none⟩ (.slice (some ⟨g9,0,none⟩) (n+1) ad)))):=zA (fun gg af w5 a5 ap ah=>by
    have hs5:w3.heap.size+1<=w5.heap.size:=by have:=ap.size;simpa using this
    have aJ:∀k,k<w3.heap.size->(Value.slice aa n ac).ownBlock≠some k->w5.heap[k]?=w3.heap[k]?:=fun k hk hne=>jbb ap k hk hne
    rw[<- aL]at aJ ah;have aq:w5.heap[jb]?=some (.cells J.cells 134 (0,0)):=(aJ jb (by omega) bD).trans ag;have bk:(w5.setCell ⟨jb,1,none⟩ (.slice (some ⟨gg,0,none⟩) (n+1) af)).heap.size=w5.heap.size:=by simp
    have bm:∀k,k≠jb->(w5.setCell ⟨jb,1,none⟩ (.slice (some ⟨gg,0,none⟩) (n+1) af)).heap[k]?=w5.heap[k]?:=fun k hk=>zM _ _ _ _ hk
    have aY:∀k,k<w.heap.size->¬XS jb mp J k->(w5.setCell ⟨jb,1,none⟩ (.slice (some ⟨gg,0,none⟩) (n+1) af)).heap[k]?=w.heap[k]?:=fun k hk hx=>(bm k (fun e=>hx (.inl e))).trans ((aJ k (by omega) (fun e=>hx (.inr (.inr (.inl e))))).trans ((aI k (by omega) (fun e=>hx (.inr (.inl e)))).trans (ar.block k hk)))
    have aN:(w5.setCell ⟨jb,1,none⟩ (.slice (some ⟨gg,0,none⟩) (n+1) af)).heap[jb]?=some (.cells ({ J with av:=.slice (some ⟨gg,0,none⟩) (n+1) af }:Jv).cells 134 (0,0)):=by
     simp[World.setCell,Array.getElem?_modify,aq,Jv.cells]
    have bM:∀k,J.av.ownBlock=some k->J.cv.ownBlock≠some k:=fun k hk=>jd4 h.al h.fi (by decide) hk
    have hU:∀u,Below w5.heap.size (w5.setCell ⟨jb,1,none⟩ (.slice (some ⟨gg,0,none⟩) (n+1) af)) u->u.heap[jb]?=some (.cells ({ J with av:=.slice (some ⟨gg,0,none⟩) (n+1) af }:Jv).cells 134 (0,0))/\u.ownsRow B 59 1 (.slice ca n cc) n (frs.flatMap jaN):=fun u hu=>by
     refine⟨(hu.block jb (by omega)).trans aN,?_⟩;have br:=h.fi;rw[a8,<- hn]at br;rw[<- aK];refine jae br (fun g o hg2 ho=>?_);have bN:=(h.fi.lt g hg2).2;exact(hu.block g (by omega)).trans ((bm g (fun e=>bg (e▸hg2))).trans ((aJ g (by omega) (fun e=>bM g e hg2)).trans ((aI g (by omega) (fun e=>own_ne_mapG h.fi hm (e▸hg2))).trans ((ar.block g bN).trans ho))))
    refine⟨?_,fun u hu=>⟨hg.keep (by have:=hu.size;omega) (fun k hk hl=>⟨hk,(hu.block k (by omega)).trans (aY k hl (hS k hk))⟩),?_,(hU u hu).2,by have:=hu.size;omega⟩,zA (fun w8 lv aH hL g9 ad w9 aA aj ae=>?_)⟩
    . rw[<- aL];simp[World.cell?,World.frozen?,aq,Jv.cells]
    . have x1:=(hU u hu).1;have x2:u.heap[w.heap.size]?=_:=(hu.block w.heap.size (by omega)).trans ((bm _ (by omega)).trans ((aJ _ (by omega) (fun e=>by have:=(h.al.lt _ e).2;omega)).trans ai));obtain⟨c0,c1⟩:=two_cellsX x2;refine⟨?_,c0,c1⟩;rw[<- aK];simp[World.cell?,x1,Jv.cells]
    . have hs9:w8.heap.size+1<=w9.heap.size:=by have:=aj.size;simpa using this
      have bo:∀k,k<w8.heap.size->(Value.slice ca n cc).ownBlock≠some k->w9.heap[k]?=w8.heap[k]?:=fun k hk hne=>jbb aj k hk hne
      rw[<- aK]at bo ae;have aV:=(bo jb (by have:=aH.size;omega) bg).trans (hU w8 aH).1;refine⟨by rw[<- aK];simp[World.cell?,World.frozen?,aV,Jv.cells],?_⟩;rw[hQ];have ak:addT ts (ab,tn)=ts++[(ab,tn)]:=by rw[addT,if_neg hmem]
      refine⟨by rw[ak,jlk hmem,hn],.slice (some ⟨gg,0,none⟩) (n+1) af,.slice (some ⟨g9,0,none⟩) (n+1) ad,?_⟩;rw[ak];refine h.done hmem aF hBw ar aC hm.isMap hT (by rw[<- hn];exact bI) a4 (by rw[<- hn];exact a5) aJ (by omega) (ap.os.trans rfl) (ap.tape.trans rfl) (ap.output.trans rfl) (fun g hg2=>?_) aH hL (by rw[a8,<- hn];exact aA) bo (by omega) (aj.os.trans rfl) (aj.tape.trans rfl) (aj.output.trans rfl) (fun g hg2=>?_)
      . have e:gg=g:=by simpa[Value.ownBlock]using hg2
        subst e;exact ah.imp id (fun e=>by omega)
      . have e:g9=g:=by simpa[Value.ownBlock]using hg2
        subst e;exact ae.imp id (fun e=>by omega))
   have bF:B<=w3.heap.size:=by omega
   have bQ:=zA bF;have hn1000:n<=1000:=by omega
   have HG:=zA hg;have bP:tn.length<=140737488351232:=hf;have bK:=zA hBw;have aw:=a9;rw[aQ]at aw;clear a9;have a9:=aw;clear aw;clear h hg hS hf hm aC hT az bC ao aM hmem hQ aF aS aZ hBw bE bI a4 bY aI ag ai am aL aK a8 aD ar b0 bG bJ bD bg hn htl bF;go_enter Tryz.func72,Tryz.ntmps72;go_wp2_with fail;rw[bu.out];refine wp_region_held_drew (S:=fun u=>u.cell? ⟨jb,0,none⟩=some (.map (some mp))/\u.cell? ⟨w.heap.size,0,none⟩=some (.bool ab)/\u.cell? ⟨w.heap.size,1,none⟩=some (.string ⟨tn.toArray⟩)/\(Instr.lookup 130 (.map (some mp)) (.agg #[.bool ab,.string ⟨tn.toArray⟩]) true).run Tryz.prog u=.ok (.tuple #[.int .i64 zx,.bool false]) u) (by kernel_rfl) ?_ (fun hHeld=>?_)
   . exact KS.out _ (zF _ _).drew
   refine tkH (i:=0) (oi:=⟨some 11,.move (.tmp 0),85, "join.go:57",#[],none⟩) (v:=?_) rfl ?_ hHeld ?_;rotate_left 1
   . rintro W ⟨l1,l2,l3,l4⟩;go_simp;try with_reducible rfl
   simp only[Act.put,zIB,zSZ,zSS];refine tkH (i:=1) (oi:=⟨some 12,.nilCheck (.tmp 11),0, "join.go:57",#[⟨0,.data⟩],none⟩) (v:=?_) rfl ?_ hHeld ?_;rotate_left 1
   . rintro W ⟨l1,l2,l3,l4⟩;go_simp;try with_reducible rfl
   simp only[Act.put,zIB,zSZ,zSS];refine tkH (i:=2) (oi:=⟨some 13,.fieldAddr 134 (.tmp 12) 0,0, "join.go:57",#[⟨1,.data⟩],none⟩) (v:=?_) rfl ?_ hHeld ?_;rotate_left 1
   . rintro W ⟨l1,l2,l3,l4⟩;go_simp;try with_reducible rfl
   simp only[Act.put,zIB,zSZ,zSS];refine tkH (i:=3) (oi:=⟨some 14,.load 130 (.tmp 13),130, "join.go:57",#[⟨2,.data⟩],none⟩) (v:=?_) rfl ?_ hHeld ?_;rotate_left 1
   . rintro W ⟨l1,l2,l3,l4⟩;go_simp;try with_reducible rfl
   simp only[Act.put,zIB,zSZ,zSS];refine tkH (i:=4) (oi:=⟨some 15,.load 53 (.tmp 5),53, "join.go:57",#[],none⟩) (v:=?_) rfl ?_ hHeld ?_;rotate_left 1
   . rintro W ⟨l1,l2,l3,l4⟩;go_simp;try with_reducible rfl
   simp only[Act.put,zIB,zSZ,zSS];refine tkH (i:=5) (oi:=⟨some 16,.lookup 130 (.tmp 14) (.tmp 15) true,123, "join.go:57",#[⟨3,.data⟩,⟨4,.data⟩],none⟩) (v:=?_) rfl ?_ hHeld ?_;rotate_left 1
   . rintro W ⟨l1,l2,l3,l4⟩;go_simp;try with_reducible rfl
   simp only[Act.put,zIB,zSZ,zSS];refine tkH (i:=6) (oi:=⟨some 10,.move (.tmp 16),123, "join.go:57",#[⟨5,.data⟩],none⟩) (v:=?_) rfl ?_ hHeld ?_;rotate_left 1
   . rintro W ⟨l1,l2,l3,l4⟩;go_simp;try with_reducible rfl
   simp only[Act.put,zIB,zSZ,zSS];refine tkH (i:=7) (oi:=⟨some 17,.extract (.tmp 10) 0,3, "join.go:57",#[⟨6,.data⟩],none⟩) (v:=?_) rfl ?_ hHeld ?_;rotate_left 1
   . rintro W ⟨l1,l2,l3,l4⟩;go_simp;try with_reducible rfl
   simp only[Act.put,zIB,zSZ,zSS];refine tkH (i:=8) (oi:=⟨some 18,.extract (.tmp 10) 1,4, "join.go:57",#[⟨6,.data⟩,{ on:=9,ground:=.gcOnly .lateStores }],none⟩) (v:=?_) rfl ?_ hHeld ?_;rotate_left 1
   . rintro W ⟨l1,l2,l3,l4⟩;go_simp;try with_reducible rfl
   simp only[Act.put,zIB,zSZ,zSS];refine tkH (i:=9) (oi:=⟨some 7,.assign (.tmp 17),3, "join.go:57",#[⟨7,.data⟩,⟨0,.phase⟩,⟨1,.phase⟩,⟨2,.phase⟩,⟨3,.phase⟩,⟨4,.phase⟩,⟨5,.phase⟩,⟨6,.phase⟩,⟨7,.phase⟩,{ on:=8,ground:=.textOnly .lateStores }],none⟩) (v:=?_) rfl ?_ hHeld ?_;rotate_left 1
   . rintro W ⟨l1,l2,l3,l4⟩;go_simp;try with_reducible rfl
   simp only[Act.put,zIB,zSZ,zSS];refine tkH (i:=10) (oi:=⟨some 8,.assign (.tmp 18),4, "join.go:57",#[⟨8,.data⟩,⟨9,.chain⟩,⟨0,.phase⟩,⟨1,.phase⟩,⟨2,.phase⟩,⟨3,.phase⟩,⟨4,.phase⟩,⟨5,.phase⟩,⟨6,.phase⟩,⟨7,.phase⟩,⟨8,.phase⟩,⟨9,.phase⟩],none⟩) (v:=?_) rfl ?_ hHeld ?_;rotate_left 1
   . rintro W ⟨l1,l2,l3,l4⟩;go_simp;try with_reducible rfl
   simp only[Act.put,zIB,zSZ,zSS];refine wpAnyH_done (by kernel_rfl) ?_ _;go_wp2_with fail;refine wp_region_held_drew (S:=fun u=>u.cell? ⟨jb,0,none⟩=some (.map (some mp))/\u.cell? ⟨w.heap.size,0,none⟩=some (.bool ab)/\u.cell? ⟨w.heap.size,1,none⟩=some (.string ⟨tn.toArray⟩)) (by kernel_rfl) ?_ (fun hHeld=>?_)
   . exact K5.out _ (zF _ _).drew.drew
   refine tkH (i:=0) (oi:=⟨some 26,.move (.tmp 0),85, "join.go:62",#[],none⟩) (v:=?_) rfl ?_ hHeld ?_;rotate_left 1
   . rintro W ⟨l1,l2,l3⟩;go_simp;try with_reducible rfl
   simp only[Act.put,zIB,zSZ,zSS];refine tkH (i:=1) (oi:=⟨some 27,.nilCheck (.tmp 26),0, "join.go:62",#[⟨0,.data⟩],none⟩) (v:=?_) rfl ?_ hHeld ?_;rotate_left 1
   . rintro W ⟨l1,l2,l3⟩;go_simp;try with_reducible rfl
   simp only[Act.put,zIB,zSZ,zSS];refine tkH (i:=2) (oi:=⟨some 28,.fieldAddr 134 (.tmp 27) 0,0, "join.go:62",#[⟨1,.data⟩],none⟩) (v:=?_) rfl ?_ hHeld ?_;rotate_left 1
   . rintro W ⟨l1,l2,l3⟩;go_simp;try with_reducible rfl
   simp only[Act.put,zIB,zSZ,zSS];refine tkH (i:=3) (oi:=⟨some 29,.load 130 (.tmp 28),130, "join.go:62",#[⟨2,.data⟩],none⟩) (v:=?_) rfl ?_ hHeld ?_;rotate_left 1
   . rintro W ⟨l1,l2,l3⟩;go_simp;try with_reducible rfl
   simp only[Act.put,zIB,zSZ,zSS];refine tkH (i:=4) (oi:=⟨some 30,.load 53 (.tmp 5),53, "join.go:62",#[],none⟩) (v:=?_) rfl ?_ hHeld ?_;rotate_left 1
   . rintro W ⟨l1,l2,l3⟩;go_simp;try with_reducible rfl
   simp only[Act.put,zIB,zSZ,zSS];refine tkH (i:=5) (oi:=⟨some 31,.move (.tmp 7),3, "join.go:62",#[],none⟩) (v:=?_) rfl ?_ hHeld ?_;rotate_left 1
   . rintro W ⟨l1,l2,l3⟩;go_simp;try with_reducible rfl
   simp only[Act.put,zIB,zSZ,zSS];refine rdH (k:=6) (o:=⟨none,.mapUpdate 130 (.tmp 29) (.tmp 30) (.tmp 31),0, "join.go:62",#[⟨3,.data⟩,⟨4,.data⟩,⟨5,.data⟩,⟨0,.phase⟩,⟨1,.phase⟩,⟨2,.phase⟩,⟨3,.phase⟩,⟨4,.phase⟩,⟨5,.phase⟩],none⟩) rfl (fun K hK=>?_);go_simp;refine hK.out _ _ bA.out (fun hHeld=>?_);clear hK K a9;refine wpAnyH_done (by kernel_rfl) ?_ _;clear bA aQ bi bO K5 KS;go_wp2_with (at_builtin;refine wpList_append_lies _ rfl _ _ _ rfl B 3 i0 _ 1 8 Tryz.underlying59 bV bT b1 bZ rfl (by decide) (.slice aa n ac) _ _ (by rfl) (bn.out.alloc _) ⟨w3.heap.size,0,none⟩ 1 1 (csI n) (by rfl) (by rfl) ?d1 ?d2 (by decide) ?d3 ?d4 ?d5 (w3.heap.size+1) (by simp) ?_)
   case d1=>exact World.news_of_block (cs:=#[.int .i64 (n:Int)]) (t:=3) (fr:=(0,0)) (heap_alloc_new w3 _)
   case d2=>simp[Value.oneCell']
   case d3=>unfold maxLen;omega
   case d4=>omega
   case d5=>have:=bQ.out;simp;omega
   intro gg af w5 a5 ap ah bh;obtain⟨⟨x1,x2⟩,hU,HF⟩:=au.out gg af w5 a5 ap ah;have HU:=zA hU;obtain⟨w6,aW⟩:=eX (w5.setCell ⟨jb,1,none⟩ (.slice (some ⟨gg,0,none⟩) (n+1) af));have bk:w6.heap.size=w5.heap.size:=by rw[aW];simp
   rw[<- aW]at HU HF;have ba:=zA bk;obtain⟨bH,⟨y5,y0,y1⟩,_,_⟩:=HU.out w6 (zF _ _);have CV:=zA (jid bH tn bP);have bW:=zA aW;clear a5 ap ah bh hU bk bH au;rw[aW]at y0 y1 y5;clear aW;go_wp2_with fail;rw[<- bW.out];refine CV.out.mono ?_;rintro e w7 ⟨v7,rfl,aU,aG⟩;rw[ba.out]at aU aG;obtain⟨bf,⟨p5,p0,p1⟩,ay,aR⟩:=HU.out w7 aG;obtain⟨a0,a6,an⟩:=aU.1.slice;obtain⟨n7,bx⟩:=eX ((jdu V tn).length);rw[<- bx]at an;clear bx y0 y1 y5 x1 x2 bL;cases ab with
   |false=>
    have bU:Hid (NatC (fun k=>w5.heap.size<=k) w7 (.slice a0 n7 a6) (jaG V (false,tn))):=zA (by rw[<- an];exact aU);have bq:=zA ay;have H9:=zA (HF.out w7 (.slice a0 n7 a6) aG bU.out);have bl:Hid (B<=w7.heap.size):=zA (by have:=bK.out;omega);subst an;clear aU aG bf ay HF aR;go_wp2_with (at_builtin;refine wpList_append_lies _ rfl _ _ _ rfl B 59 i1 _ 1 24 Tryz.underlying132 bs bv bw bt rfl (by decide) (.slice ca n cc) _ _ (by rfl) (bq.out.alloc _) ⟨w7.heap.size,0,none⟩ 1 1 [.slice a0 n7 a6] (by rfl) (by rfl) ?f1 ?f2 (by decide) ?f3 ?f4 ?f5 (w7.heap.size+1) (by simp) ?_)
    case f1=>exact World.news_of_block (cs:=#[.slice a0 n7 a6]) (t:=59) (fr:=(0,0)) (heap_alloc_new w7 _)
    case f2=>simp[Value.oneCell']
    case f3=>unfold maxLen;omega
    case f4=>omega
    case f5=>have:=bl.out;simp;omega
    intro g9 ad w9 aA aj ae aB;obtain⟨⟨z1,z2⟩,hq⟩:=H9.out g9 ad w9 aA aj ae;have aO:=zA hq;clear aA aj ae aB hq H9;go_wp2;all_goals (first|(go_ret;exact aO.out)|exact aO.out)
   |true=>
    have CW:=zA (jdQ bf (by omega));subst an;clear aU bf ay aR;have bd:=zA aG;clear aG;obtain⟨nV,bb⟩:=eX V.length;rw[<- bb]at CW;have bR:=zA bb;clear bb;go_wp2_with fail;refine CW.out.mono ?_;rintro e w8 ⟨rfl,bz,aH⟩;have ax:Below w5.heap.size w6 w8:=bd.out.trans (aH.mono (by have:=bd.out.size;have:=ba.out;omega));obtain⟨_,⟨r5,r0,r1⟩,aT,bc⟩:=HU.out w8 ax;have bX:Hid (NatC (fun k=>w5.heap.size<=k) w8 (.slice (some ⟨w7.heap.size,0,none⟩) nV nV) (jaG V (true,tn))):=zA (by
     have hz7:w5.heap.size<=w7.heap.size:=by have:=bd.out.size;have:=ba.out;omega
     have e:jaG V (true,tn)=List.range nV:=by rw[jaG,if_pos rfl,bR.out]
     rw[e];refine⟨(bz.sl (fun _=>rfl) (by simp)).sub (fun k hk _=>by have hk:k=w7.heap.size:=hk;omega),some ⟨w7.heap.size,0,none⟩,nV,by rw[List.length_range],by rw[List.length_range];exact zD _⟩)
    have bq:=zA aT;have H9:=zA (HF.out w8 _ ax bX.out);have bj:Hid (B<=w8.heap.size):=zA (by have:=bK.out;omega);clear bz aH ax aT bc HF p5 p0 p1;go_wp2_with (at_builtin;refine wpList_append_lies _ rfl _ _ _ rfl B 59 i1 _ 1 24 Tryz.underlying132 bs bv bw bt rfl (by decide) (.slice ca n cc) _ _ (by rfl) (bq.out.alloc _) ⟨w8.heap.size,0,none⟩ 1 1 [.slice (some ⟨w7.heap.size,0,none⟩) nV nV] (by rfl) (by rfl) ?f1 ?f2 (by decide) ?f3 ?f4 ?f5 (w8.heap.size+1) (by simp) ?_)
    case f1=>exact World.news_of_block (cs:=#[.slice (some ⟨w7.heap.size,0,none⟩) nV nV]) (t:=59) (fr:=(0,0)) (heap_alloc_new w8 _)
    case f2=>simp[Value.oneCell']
    case f3=>unfold maxLen;omega
    case f4=>omega
    case f5=>have:=bj.out;simp;omega
    intro g9 ad w9 aA aj ae aB;obtain⟨⟨z1,z2⟩,hq⟩:=H9.out g9 ad w9 aA aj ae;have aO:=zA hq;clear aA aj ae aB hq H9;go_wp2;all_goals (first|(go_ret;exact aO.out)|exact aO.out)
end Go.Proofs.YtkbgmcmcpbegjaaGreatDoor
