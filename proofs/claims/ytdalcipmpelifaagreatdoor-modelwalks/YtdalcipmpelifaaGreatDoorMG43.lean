/- XSlot2. -/
import Derived.Test.YtdalcipmpelifaaGreatDoorMG42
set_option maxRecDepth 100000
namespace Go.Proofs.YtdalcipmpelifaaGreatDoor
open Go.RowKit Go.Shelf
theorem two_cellsX{w:World}{b:Nat}{c0 c1:Value}{t:TypeId}(h:w.heap[b]?=some (.cells #[c0,c1] t (0,0))):w.cell? ⟨b,0,none⟩=some c0/\w.cell? ⟨b,1,none⟩=some c1:=by
 simp[World.cell?,h]
theorem infoCh:(Tryz.prog.info? 56).map (fun i=>(i.zero,i.size,i.bytes))=some (some (.slice none 0 0),1,24):=by kernel_rfl
theorem zeroIM(w:World):(zeroValue 3).run Tryz.prog w=.ok (.int .i64 0) w:=by kernel_rfl
theorem underM:Tryz.prog.underlying 110=some (.map 42 3):=by kernel_rfl
theorem TellM.look{w:World}{mp cnt:Nat}{DM:DataW Unit}{ts:List Tm}(hm:w.ownsMap Tryz.prog 42 (plainElem Tryz.prog 3) mp cnt DM)(hT:TellM DM ts){t:Tm}(hf:FineM t):∃c:Int,(Instr.lookup 110 (.map (some mp)) (encTm t) true).run Tryz.prog w=.ok (.tuple #[.int .i64 c,.bool (decide (t∈ts))]) w/\∀i:Nat,ts[i]?=some t->c=i:=by
 obtain⟨v,ps,hrun,hv⟩:=hm.look_ok lawM underM (zeroIM w) (plainElem_int Tryz.underlying3 (by decide)) (keyM hf);obtain⟨c,rfl,hc,_⟩:=plainElem_int_inv Tryz.underlying3 hv;refine⟨c,by rw[hrun,hT.has t hf],fun i hi=>?_⟩;have h1:=congrArg Prod.fst hc;dsimp only at h1;rw[hT.at_ i t hi]at h1;injection h1 with h1;injection h1 with _ h1;exact h1.symm
set_option maxHeartbeats 16000000 in
theorem slot_any{B:Nat}{V:List Wd}{w:World}{jb mp:Nat}{J:Jv}{ts:List Tm}{frs:List (Value×List Nat)}{D S:Nat->Prop}{gb:Nat}{E:List Eg}{mb:Nat}{nv ev:Value}{DG:DataW Unit}{cg:Nat}(h:SL B V w jb mp J ts frs D)(hg:GrS S w gb V E mb nv ev DG cg)(hS:∀k,S k->¬XS jb mp J k)(hBw:B<=w.heap.size){t:Tm}(hf:t.2.length<=140737488351232)(htl:ts.length<=1000)(hV:V.length<=10000):
 Calls Tryz.prog 48 #[.pointer (some ⟨jb,0,none⟩),.pointer (some ⟨gb,0,none⟩),encTm t] w (SloE B V w jb mp J ts D t):=by
 obtain⟨tv0,tn⟩:=t;have hfm:FineM (tv0,tn):=by unfold FineM maxLen;dsimp only at hf ⊢;omega
 obtain⟨cnt,DM,hm,hcnt,hT⟩:=h.map;have hjl:=lt_of_block h.blk;have hml:=hm.lt;obtain⟨w1,hw1⟩:∃W,W=w.alloc (.cells #[.bool tv0,.string ⟨tn.toArray⟩] 42):=⟨_,rfl⟩
 have hb1:Below w.heap.size w w1:=by rw[hw1];exact(zF _ _).alloc (zD _) _
 have hs1:w1.heap.size=w.heap.size+1:=by rw[hw1];simp
 have hbox:w1.heap[w.heap.size]?=some (.cells #[.bool tv0,.string ⟨tn.toArray⟩] 42 (0,0)):=by rw[hw1];exact heap_alloc_new _ _
 have HW1:Hid (w.alloc (.cells #[.bool tv0,.string ⟨tn.toArray⟩] 42)=w1):=zA hw1.symm;have K5:Hid (∀u,Below w1.heap.size w1 u->u.cell? ⟨jb,0,none⟩=some (.map (some mp))/\u.cell? ⟨w.heap.size,0,none⟩=some (.bool tv0)/\u.cell? ⟨w.heap.size,1,none⟩=some (.string ⟨tn.toArray⟩)):=zA (fun u hu=>by
  have x1:=(hu.block jb (by omega)).trans ((hb1.block jb hjl).trans h.blk);have x2:=(hu.block w.heap.size (by omega)).trans hbox;obtain⟨c0,c1⟩:=two_cellsX x2;exact⟨by rw[<- h.sv];simp[World.cell?,x1,Jv.cells],c0,c1⟩)
 obtain⟨Q,hQ⟩:∃Q,Q=SloE B V w jb mp J ts D (tv0,tn):=⟨_,rfl⟩
 rw[<- hQ];show Calls Tryz.prog _ #[_,_,.agg #[.bool tv0,.string ⟨tn.toArray⟩]] w _;by_cases hmem:((tv0,tn):Tm)∈ts
 . obtain⟨x,hx⟩:∃x,x=ts.idxOf ((tv0,tn):Tm):=⟨_,rfl⟩
   have hxi:ts[x]?=some (tv0,tn):=by
    rw[hx,zB (zZ hmem)];simp
   have KS:Hid (∀u,Below w1.heap.size w1 u->u.cell? ⟨jb,0,none⟩=some (.map (some mp))/\u.cell? ⟨w.heap.size,0,none⟩=some (.bool tv0)/\u.cell? ⟨w.heap.size,1,none⟩=some (.string ⟨tn.toArray⟩)/\(Instr.lookup 110 (.map (some mp)) (.agg #[.bool tv0,.string ⟨tn.toArray⟩]) true).run Tryz.prog u=.ok (.tuple #[.int .i64 (x:Int),.bool true]) u):=zA (fun u hu=>by
    obtain⟨a1,a2,a3⟩:=K5.out u hu;refine⟨a1,a2,a3,?_⟩;have hmu:u.ownsMap Tryz.prog 42 (plainElem Tryz.prog 3) mp cnt DM:=map_keyG hm (fun o ho=>(hu.block mp (by omega)).trans ((hb1.block mp hml).trans ho));obtain⟨c,h1,h2⟩:=hT.look hmu hfm;rw[yC hmem,h2 x hxi]at h1;exact h1)
   have HFIN:Hid (Q (.returned (.int .i64 (x:Int))) w1.drew):=zA (by
    have hbd:Below w.heap.size w w1.drew:=hb1.drew;have hadd:addT ts (tv0,tn)=ts:=by rw[addT,if_pos hmem]
    rw[hQ];refine⟨by rw[hadd,hx],J.av,J.cv,frs,D,?_,fun k hk=>.inl hk,fun k hk=>.inl hk,⟨hbd.os,hbd.tape,hbd.output,hbd.size,fun k hk=>hbd.block k hk.1⟩⟩;rw[hadd];exact h.keep hbd.size (fun k hk=>hbd.block k (hk.elim (fun h1=>(h.xlt h1).2) (fun h1=>(h.dl k h1).2))))
   clear h hg hS hf hm hcnt hT hb1 hs1 hbox hw1 hxi hx hmem hQ hfm hjl hml hBw;go_enter Tryz.func48,Tryz.ntmps48;go_wp2_with fail;rw[HW1.out];refine wp_region_held_drew (S:=fun u=>u.cell? ⟨jb,0,none⟩=some (.map (some mp))/\u.cell? ⟨w.heap.size,0,none⟩=some (.bool tv0)/\u.cell? ⟨w.heap.size,1,none⟩=some (.string ⟨tn.toArray⟩)/\(Instr.lookup 110 (.map (some mp)) (.agg #[.bool tv0,.string ⟨tn.toArray⟩]) true).run Tryz.prog u=.ok (.tuple #[.int .i64 (x:Int),.bool true]) u) (by kernel_rfl) ?_ (fun hHeld=>?_)
   . exact KS.out _ (zF _ _).drew
   refine tkH (i:=0) (oi:=⟨some 11,.move (.tmp 0),78, "join.go:57",#[],none⟩) (v:=?_) rfl ?_ hHeld ?_;rotate_left 1
   . rintro W ⟨l1,l2,l3,l4⟩;go_simp;try with_reducible rfl
   simp only[Act.put,zIB,zSZ,zSS];refine tkH (i:=1) (oi:=⟨some 12,.nilCheck (.tmp 11),0, "join.go:57",#[⟨0,.data⟩],none⟩) (v:=?_) rfl ?_ hHeld ?_;rotate_left 1
   . rintro W ⟨l1,l2,l3,l4⟩;go_simp;try with_reducible rfl
   simp only[Act.put,zIB,zSZ,zSS];refine tkH (i:=2) (oi:=⟨some 13,.fieldAddr 114 (.tmp 12) 0,0, "join.go:57",#[⟨1,.data⟩],none⟩) (v:=?_) rfl ?_ hHeld ?_;rotate_left 1
   . rintro W ⟨l1,l2,l3,l4⟩;go_simp;try with_reducible rfl
   simp only[Act.put,zIB,zSZ,zSS];refine tkH (i:=3) (oi:=⟨some 14,.load 110 (.tmp 13),110, "join.go:57",#[⟨2,.data⟩],none⟩) (v:=?_) rfl ?_ hHeld ?_;rotate_left 1
   . rintro W ⟨l1,l2,l3,l4⟩;go_simp;try with_reducible rfl
   simp only[Act.put,zIB,zSZ,zSS];refine tkH (i:=4) (oi:=⟨some 15,.load 42 (.tmp 5),42, "join.go:57",#[],none⟩) (v:=?_) rfl ?_ hHeld ?_;rotate_left 1
   . rintro W ⟨l1,l2,l3,l4⟩;go_simp;try with_reducible rfl
   simp only[Act.put,zIB,zSZ,zSS];refine tkH (i:=5) (oi:=⟨some 16,.lookup 110 (.tmp 14) (.tmp 15) true,107, "join.go:57",#[⟨3,.data⟩,⟨4,.data⟩],none⟩) (v:=?_) rfl ?_ hHeld ?_;rotate_left 1
   . rintro W ⟨l1,l2,l3,l4⟩;go_simp;try with_reducible rfl
   simp only[Act.put,zIB,zSZ,zSS];refine tkH (i:=6) (oi:=⟨some 10,.move (.tmp 16),107, "join.go:57",#[⟨5,.data⟩],none⟩) (v:=?_) rfl ?_ hHeld ?_;rotate_left 1
   . rintro W ⟨l1,l2,l3,l4⟩;go_simp;try with_reducible rfl
   simp only[Act.put,zIB,zSZ,zSS];refine tkH (i:=7) (oi:=⟨some 17,.extract (.tmp 10) 0,3, "join.go:57",#[⟨6,.data⟩],none⟩) (v:=?_) rfl ?_ hHeld ?_;rotate_left 1
   . rintro W ⟨l1,l2,l3,l4⟩;go_simp;try with_reducible rfl
   simp only[Act.put,zIB,zSZ,zSS];refine tkH (i:=8) (oi:=⟨some 18,.extract (.tmp 10) 1,4, "join.go:57",#[⟨6,.data⟩,{ on:=9,ground:=.gcOnly .lateStores }],none⟩) (v:=?_) rfl ?_ hHeld ?_;rotate_left 1
   . rintro W ⟨l1,l2,l3,l4⟩;go_simp;try with_reducible rfl
   simp only[Act.put,zIB,zSZ,zSS];refine tkH (i:=9) (oi:=⟨some 7,.assign (.tmp 17),3, "join.go:57",#[⟨7,.data⟩,⟨0,.phase⟩,⟨1,.phase⟩,⟨2,.phase⟩,⟨3,.phase⟩,⟨4,.phase⟩,⟨5,.phase⟩,⟨6,.phase⟩,⟨7,.phase⟩,{ on:=8,ground:=.textOnly .lateStores }],none⟩) (v:=?_) rfl ?_ hHeld ?_;rotate_left 1
   . rintro W ⟨l1,l2,l3,l4⟩;go_simp;try with_reducible rfl
   simp only[Act.put,zIB,zSZ,zSS];refine tkH (i:=10) (oi:=⟨some 8,.assign (.tmp 18),4, "join.go:57",#[⟨8,.data⟩,⟨9,.chain⟩,⟨0,.phase⟩,⟨1,.phase⟩,⟨2,.phase⟩,⟨3,.phase⟩,⟨4,.phase⟩,⟨5,.phase⟩,⟨6,.phase⟩,⟨7,.phase⟩,⟨8,.phase⟩,⟨9,.phase⟩],none⟩) (v:=?_) rfl ?_ hHeld ?_;rotate_left 1
   . rintro W ⟨l1,l2,l3,l4⟩;go_simp;try with_reducible rfl
   simp only[Act.put,zIB,zSZ,zSS];refine wpAnyH_done (by kernel_rfl) ?_ _;go_wp2;all_goals (first|(go_ret;exact HFIN.out)|exact HFIN.out)
 . obtain⟨i0,hi0,hz0,hz1,hz2⟩:=info_partsG infoZG;obtain⟨i1,hi1,hy0,hy1,hy2⟩:=info_partsG infoCh;obtain⟨zx,hzx⟩:∃z:Int,∀u,Below w1.heap.size w1 u->(Instr.lookup 110 (.map (some mp)) (.agg #[.bool tv0,.string ⟨tn.toArray⟩]) true).run Tryz.prog u=.ok (.tuple #[.int .i64 z,.bool false]) u:=by
    have hmu:∀u,Below w1.heap.size w1 u->u.ownsMap Tryz.prog 42 (plainElem Tryz.prog 3) mp cnt DM:=fun u hu=>map_keyG hm (fun o ho=>(hu.block mp (by omega)).trans ((hb1.block mp hml).trans ho))
    have key:∀u,Below w1.heap.size w1 u->(Instr.lookup 110 (.map (some mp)) (.agg #[.bool tv0,.string ⟨tn.toArray⟩]) true).run Tryz.prog u=.ok (.tuple #[.int .i64 (match DM.atKey (kM (tv0,tn)) (.lit (.int .i64 0))with| .lit (.int _ z)=>z|_=>0),.bool false]) u:=fun u hu=>by
     obtain⟨v,ps,hrun,hv⟩:=(hmu u hu).look_ok lawM underM (zeroIM u) (plainElem_int Tryz.underlying3 (by decide)) (keyM hfm);obtain⟨c,rfl,hc,_⟩:=plainElem_int_inv Tryz.underlying3 hv;have h1:=congrArg Prod.fst hc;dsimp only at h1;rw[h1];rw[hT.has _ hfm,decide_eq_false hmem]at hrun;exact hrun
    exact⟨_,key⟩
   have KS:Hid (∀u,Below w1.heap.size w1 u->u.cell? ⟨jb,0,none⟩=some (.map (some mp))/\u.cell? ⟨w.heap.size,0,none⟩=some (.bool tv0)/\u.cell? ⟨w.heap.size,1,none⟩=some (.string ⟨tn.toArray⟩)/\(Instr.lookup 110 (.map (some mp)) (.agg #[.bool tv0,.string ⟨tn.toArray⟩]) true).run Tryz.prog u=.ok (.tuple #[.int .i64 zx,.bool false]) u):=zA (fun u hu=>by
    obtain⟨a1,a2,a3⟩:=K5.out u hu;exact⟨a1,a2,a3,hzx u hu⟩)
   obtain⟨w2,hw2⟩:∃W,W=w1.drew.drew:=⟨_,rfl⟩
   have hb12:Below w1.heap.size w1 w2:=by rw[hw2];exact(zF _ _).drew.drew
   have hb2:Below w.heap.size w w2:=hb1.trans (hb12.mono (by omega));have hs2:w2.heap.size=w1.heap.size:=by rw[hw2];rfl
   obtain⟨n,hn⟩:∃q,q=ts.length:=⟨_,rfl⟩
   have hm2:w2.ownsMap Tryz.prog 42 (plainElem Tryz.prog 3) mp cnt DM:=map_keyG hm (fun o ho=>(hb2.block mp hml).trans ho);obtain⟨w3,hup,hm3,hg3⟩:∃w3,(Instr.mapUpdate 110 (.map (some mp)) (.agg #[.bool tv0,.string ⟨tn.toArray⟩]) (.int .i64 (n:Int))).run Tryz.prog w2=.ok () w3/\w3.ownsMap Tryz.prog 42 (plainElem Tryz.prog 3) mp (cnt+1) (DM.put (kM (tv0,tn)) (.lit (.int .i64 (n:Int))))/\w2.grownBy w3 (some mp):=hm2.update lawM underM (by unfold maxLen;omega) (keyM hfm) (plainElem_int (H:=Unit) (P:=Tryz.prog) (e:=3) (q:=.i64) (a:=(n:Int)) Tryz.underlying3 (by simp[Lit.wf,IntKind.min,IntKind.max,IntKind.bits,IntKind.signed];omega));have hmj:mp≠jb:=blk_ne_mapG h.blk hm;have haj:J.av.ownBlock≠some jb:=own_neG h.al h.blk (by decide);have hcj:J.cv.ownBlock≠some jb:=own_neG h.fi h.blk (by decide);have hz3:=hg3.size;have h23:∀k,k<w2.heap.size->k≠mp->w3.heap[k]?=w2.heap[k]?:=fun k hk hne=>hg3.block k hk (fun e=>hne (by injection e))
   have hblk3:w3.heap[jb]?=some (.cells J.cells 114 (0,0)):=(h23 jb (by omega) (fun e=>hmj e.symm)).trans ((hb2.block jb hjl).trans h.blk);have hbox3:w3.heap[w.heap.size]?=some (.cells #[.bool tv0,.string ⟨tn.toArray⟩] 42 (0,0)):=(h23 _ (by omega) (by omega)).trans ((hb12.block _ (by omega)).trans hbox);have KS3:Hid (w3.cell? ⟨jb,0,none⟩=some (.map (some mp))/\w3.cell? ⟨w.heap.size,0,none⟩=some (.bool tv0)/\w3.cell? ⟨w.heap.size,1,none⟩=some (.string ⟨tn.toArray⟩)):=zA (by
    obtain⟨c0,c1⟩:=two_cellsX hbox3;exact⟨by rw[<- h.sv];simp[World.cell?,hblk3,Jv.cells],c0,c1⟩)
   have hal3:w3.ownsRow B 3 1 J.av n ((List.range n).flatMap csI):=by
    rw[hn];exact owns_key h.al (fun g o hg2 ho=>by
     have:=(h.al.lt g hg2).2;exact(h23 g (by omega) (fun e=>own_ne_mapG h.al hm (e▸hg2))).trans ((hb2.block g this).trans ho))
   obtain⟨aa,ac,hav⟩:=own_slice hal3;obtain⟨ca,cc,hcv⟩:=own_slice h.fi;have hfl:=h.fl;rw[hfl,<- hn]at hcv;rw[hav]at hal3;have q1d:w2.cell? ⟨jb,1,none⟩=some (.slice aa n ac):=by
    have h1:=(hb2.block jb hjl).trans h.blk;rw[<- hav];simp[World.cell?,h1,Jv.cells]
   have q1a:w1.cell? ⟨jb,1,none⟩=some (.slice aa n ac):=by rw[hw2]at q1d;exact q1d
   have q1c:w3.cell? ⟨jb,1,none⟩=some (.slice aa n ac):=by
    rw[<- hav];simp[World.cell?,hblk3,Jv.cells]
   have HAL3:=zA hal3;have HSTEP:Hid (∀gg cap w5,w5.ownsRow B 3 1 (.slice (some ⟨gg,0,none⟩) (n+1) cap) (n+1) ((List.range n).flatMap csI++csI n)->(w3.alloc (.cells #[.int .i64 (n:Int)] 3)).grownBy w5 (Value.slice aa n ac).ownBlock->((Value.slice aa n ac).ownBlock=some gg\/gg=w3.heap.size+1)->
    (w5.cell? ⟨jb,1,none⟩=some (.slice aa n ac)/\w5.frozen? ⟨jb,1,none⟩=false)/\(∀u,Below w5.heap.size (w5.setCell ⟨jb,1,none⟩ (.slice (some ⟨gg,0,none⟩) (n+1) cap)) u->GrS S u gb V E mb nv ev DG cg/\(u.cell? ⟨jb,5,none⟩=some (.slice ca n cc)/\u.cell? ⟨w.heap.size,0,none⟩=some (.bool tv0)/\u.cell? ⟨w.heap.size,1,none⟩=some (.string ⟨tn.toArray⟩))/\u.ownsRow B 56 1 (.slice ca n cc) n (frs.flatMap csRow)/\w.heap.size<=u.heap.size)/\
    Hid (∀w8 lv,Below w5.heap.size (w5.setCell ⟨jb,1,none⟩ (.slice (some ⟨gg,0,none⟩) (n+1) cap)) w8->NatC (fun k=>w5.heap.size<=k) w8 lv (firstT V (tv0,tn))->∀g9 cap9 w9,w9.ownsRow B 56 1 (.slice (some ⟨g9,0,none⟩) (n+1) cap9) (n+1) (frs.flatMap csRow++[lv])->(w8.alloc (.cells #[lv] 56)).grownBy w9 (Value.slice ca n cc).ownBlock->((Value.slice ca n cc).ownBlock=some g9\/g9=w8.heap.size+1)->
     (w9.cell? ⟨jb,5,none⟩=some (.slice ca n cc)/\w9.frozen? ⟨jb,5,none⟩=false)/\Q (.returned (.int .i64 (n:Int))) (w9.setCell ⟨jb,5,none⟩ (.slice (some ⟨g9,0,none⟩) (n+1) cap9)))):=zA (fun gg cap w5 hr5 hg5 hat5=>by
    have hs5:w3.heap.size+1<=w5.heap.size:=by have:=hg5.size;simpa using this
    have hk5:∀k,k<w3.heap.size->(Value.slice aa n ac).ownBlock≠some k->w5.heap[k]?=w3.heap[k]?:=fun k hk hne=>grown_keep hg5 k hk hne
    rw[<- hav]at hk5 hat5;have hblk5:w5.heap[jb]?=some (.cells J.cells 114 (0,0)):=(hk5 jb (by omega) haj).trans hblk3;have hz6:(w5.setCell ⟨jb,1,none⟩ (.slice (some ⟨gg,0,none⟩) (n+1) cap)).heap.size=w5.heap.size:=by simp
    have hs6:∀k,k≠jb->(w5.setCell ⟨jb,1,none⟩ (.slice (some ⟨gg,0,none⟩) (n+1) cap)).heap[k]?=w5.heap[k]?:=fun k hk=>zM _ _ _ _ hk
    have hold6:∀k,k<w.heap.size->¬XS jb mp J k->(w5.setCell ⟨jb,1,none⟩ (.slice (some ⟨gg,0,none⟩) (n+1) cap)).heap[k]?=w.heap[k]?:=fun k hk hx=>(hs6 k (fun e=>hx (.inl e))).trans ((hk5 k (by omega) (fun e=>hx (.inr (.inr (.inl e))))).trans ((h23 k (by omega) (fun e=>hx (.inr (.inl e)))).trans (hb2.block k hk)))
    have hblk6:(w5.setCell ⟨jb,1,none⟩ (.slice (some ⟨gg,0,none⟩) (n+1) cap)).heap[jb]?=some (.cells ({ J with av:=.slice (some ⟨gg,0,none⟩) (n+1) cap }:Jv).cells 114 (0,0)):=by
     simp[World.setCell,Array.getElem?_modify,hblk5,Jv.cells]
    have hac:∀k,J.av.ownBlock=some k->J.cv.ownBlock≠some k:=fun k hk=>rows_neX h.al h.fi (by decide) hk
    have hU:∀u,Below w5.heap.size (w5.setCell ⟨jb,1,none⟩ (.slice (some ⟨gg,0,none⟩) (n+1) cap)) u->u.heap[jb]?=some (.cells ({ J with av:=.slice (some ⟨gg,0,none⟩) (n+1) cap }:Jv).cells 114 (0,0))/\u.ownsRow B 56 1 (.slice ca n cc) n (frs.flatMap csRow):=fun u hu=>by
     refine⟨(hu.block jb (by omega)).trans hblk6,?_⟩;have hfi:=h.fi;rw[hfl,<- hn]at hfi;rw[<- hcv];refine owns_key hfi (fun g o hg2 ho=>?_);have hgl:=(h.fi.lt g hg2).2;exact(hu.block g (by omega)).trans ((hs6 g (fun e=>hcj (e▸hg2))).trans ((hk5 g (by omega) (fun e=>hac g e hg2)).trans ((h23 g (by omega) (fun e=>own_ne_mapG h.fi hm (e▸hg2))).trans ((hb2.block g hgl).trans ho))))
    refine⟨?_,fun u hu=>⟨hg.keep (by have:=hu.size;omega) (fun k hk hl=>⟨hk,(hu.block k (by omega)).trans (hold6 k hl (hS k hk))⟩),?_,(hU u hu).2,by have:=hu.size;omega⟩,zA (fun w8 lv hb8 hL g9 cap9 w9 hr9 hg9 hat9=>?_)⟩
    . rw[<- hav];simp[World.cell?,World.frozen?,hblk5,Jv.cells]
    . have x1:=(hU u hu).1;have x2:u.heap[w.heap.size]?=_:=(hu.block w.heap.size (by omega)).trans ((hs6 _ (by omega)).trans ((hk5 _ (by omega) (fun e=>by have:=(h.al.lt _ e).2;omega)).trans hbox3));obtain⟨c0,c1⟩:=two_cellsX x2;refine⟨?_,c0,c1⟩;rw[<- hcv];simp[World.cell?,x1,Jv.cells]
    . have hs9:w8.heap.size+1<=w9.heap.size:=by have:=hg9.size;simpa using this
      have hk9:∀k,k<w8.heap.size->(Value.slice ca n cc).ownBlock≠some k->w9.heap[k]?=w8.heap[k]?:=fun k hk hne=>grown_keep hg9 k hk hne
      rw[<- hcv]at hk9 hat9;have hblk9:=(hk9 jb (by have:=hb8.size;omega) hcj).trans (hU w8 hb8).1;refine⟨by rw[<- hcv];simp[World.cell?,World.frozen?,hblk9,Jv.cells],?_⟩;rw[hQ];have hadd:addT ts (tv0,tn)=ts++[(tv0,tn)]:=by rw[addT,if_neg hmem]
      refine⟨by rw[hadd,idx_add hmem,hn],.slice (some ⟨gg,0,none⟩) (n+1) cap,.slice (some ⟨g9,0,none⟩) (n+1) cap9,?_⟩;rw[hadd];refine h.done hmem hfm hBw hb2 hcnt hm.isMap hT (by rw[<- hn];exact hm3) hg3 (by rw[<- hn];exact hr5) hk5 (by omega) (hg5.os.trans rfl) (hg5.tape.trans rfl) (hg5.output.trans rfl) (fun g hg2=>?_) hb8 hL (by rw[hfl,<- hn];exact hr9) hk9 (by omega) (hg9.os.trans rfl) (hg9.tape.trans rfl) (hg9.output.trans rfl) (fun g hg2=>?_)
      . have e:gg=g:=by simpa[Value.ownBlock]using hg2
        subst e;exact hat5.imp id (fun e=>by omega)
      . have e:g9=g:=by simpa[Value.ownBlock]using hg2
        subst e;exact hat9.imp id (fun e=>by omega))
   have hBs:B<=w3.heap.size:=by omega
   have HBs:=zA hBs;have hn1000:n<=1000:=by omega
   have HG:=zA hg;have hfn:tn.length<=140737488351232:=hf;have HBW:=zA hBw;have hup0:=hup;rw[hw2]at hup0;clear hup;have hup:=hup0;clear hup0;clear h hg hS hf hm hcnt hT hb1 hs1 hbox hw1 hmem hQ hfm hjl hml hBw hm2 hm3 hg3 hz3 h23 hblk3 hbox3 hal3 hav hcv hfl hb12 hb2 hs2 hzx hmj haj hcj hn htl hBs;go_enter Tryz.func48,Tryz.ntmps48;go_wp2_with fail;rw[HW1.out];refine wp_region_held_drew (S:=fun u=>u.cell? ⟨jb,0,none⟩=some (.map (some mp))/\u.cell? ⟨w.heap.size,0,none⟩=some (.bool tv0)/\u.cell? ⟨w.heap.size,1,none⟩=some (.string ⟨tn.toArray⟩)/\(Instr.lookup 110 (.map (some mp)) (.agg #[.bool tv0,.string ⟨tn.toArray⟩]) true).run Tryz.prog u=.ok (.tuple #[.int .i64 zx,.bool false]) u) (by kernel_rfl) ?_ (fun hHeld=>?_)
   . exact KS.out _ (zF _ _).drew
   refine tkH (i:=0) (oi:=⟨some 11,.move (.tmp 0),78, "join.go:57",#[],none⟩) (v:=?_) rfl ?_ hHeld ?_;rotate_left 1
   . rintro W ⟨l1,l2,l3,l4⟩;go_simp;try with_reducible rfl
   simp only[Act.put,zIB,zSZ,zSS];refine tkH (i:=1) (oi:=⟨some 12,.nilCheck (.tmp 11),0, "join.go:57",#[⟨0,.data⟩],none⟩) (v:=?_) rfl ?_ hHeld ?_;rotate_left 1
   . rintro W ⟨l1,l2,l3,l4⟩;go_simp;try with_reducible rfl
   simp only[Act.put,zIB,zSZ,zSS];refine tkH (i:=2) (oi:=⟨some 13,.fieldAddr 114 (.tmp 12) 0,0, "join.go:57",#[⟨1,.data⟩],none⟩) (v:=?_) rfl ?_ hHeld ?_;rotate_left 1
   . rintro W ⟨l1,l2,l3,l4⟩;go_simp;try with_reducible rfl
   simp only[Act.put,zIB,zSZ,zSS];refine tkH (i:=3) (oi:=⟨some 14,.load 110 (.tmp 13),110, "join.go:57",#[⟨2,.data⟩],none⟩) (v:=?_) rfl ?_ hHeld ?_;rotate_left 1
   . rintro W ⟨l1,l2,l3,l4⟩;go_simp;try with_reducible rfl
   simp only[Act.put,zIB,zSZ,zSS];refine tkH (i:=4) (oi:=⟨some 15,.load 42 (.tmp 5),42, "join.go:57",#[],none⟩) (v:=?_) rfl ?_ hHeld ?_;rotate_left 1
   . rintro W ⟨l1,l2,l3,l4⟩;go_simp;try with_reducible rfl
   simp only[Act.put,zIB,zSZ,zSS];refine tkH (i:=5) (oi:=⟨some 16,.lookup 110 (.tmp 14) (.tmp 15) true,107, "join.go:57",#[⟨3,.data⟩,⟨4,.data⟩],none⟩) (v:=?_) rfl ?_ hHeld ?_;rotate_left 1
   . rintro W ⟨l1,l2,l3,l4⟩;go_simp;try with_reducible rfl
   simp only[Act.put,zIB,zSZ,zSS];refine tkH (i:=6) (oi:=⟨some 10,.move (.tmp 16),107, "join.go:57",#[⟨5,.data⟩],none⟩) (v:=?_) rfl ?_ hHeld ?_;rotate_left 1
   . rintro W ⟨l1,l2,l3,l4⟩;go_simp;try with_reducible rfl
   simp only[Act.put,zIB,zSZ,zSS];refine tkH (i:=7) (oi:=⟨some 17,.extract (.tmp 10) 0,3, "join.go:57",#[⟨6,.data⟩],none⟩) (v:=?_) rfl ?_ hHeld ?_;rotate_left 1
   . rintro W ⟨l1,l2,l3,l4⟩;go_simp;try with_reducible rfl
   simp only[Act.put,zIB,zSZ,zSS];refine tkH (i:=8) (oi:=⟨some 18,.extract (.tmp 10) 1,4, "join.go:57",#[⟨6,.data⟩,{ on:=9,ground:=.gcOnly .lateStores }],none⟩) (v:=?_) rfl ?_ hHeld ?_;rotate_left 1
   . rintro W ⟨l1,l2,l3,l4⟩;go_simp;try with_reducible rfl
   simp only[Act.put,zIB,zSZ,zSS];refine tkH (i:=9) (oi:=⟨some 7,.assign (.tmp 17),3, "join.go:57",#[⟨7,.data⟩,⟨0,.phase⟩,⟨1,.phase⟩,⟨2,.phase⟩,⟨3,.phase⟩,⟨4,.phase⟩,⟨5,.phase⟩,⟨6,.phase⟩,⟨7,.phase⟩,{ on:=8,ground:=.textOnly .lateStores }],none⟩) (v:=?_) rfl ?_ hHeld ?_;rotate_left 1
   . rintro W ⟨l1,l2,l3,l4⟩;go_simp;try with_reducible rfl
   simp only[Act.put,zIB,zSZ,zSS];refine tkH (i:=10) (oi:=⟨some 8,.assign (.tmp 18),4, "join.go:57",#[⟨8,.data⟩,⟨9,.chain⟩,⟨0,.phase⟩,⟨1,.phase⟩,⟨2,.phase⟩,⟨3,.phase⟩,⟨4,.phase⟩,⟨5,.phase⟩,⟨6,.phase⟩,⟨7,.phase⟩,⟨8,.phase⟩,⟨9,.phase⟩],none⟩) (v:=?_) rfl ?_ hHeld ?_;rotate_left 1
   . rintro W ⟨l1,l2,l3,l4⟩;go_simp;try with_reducible rfl
   simp only[Act.put,zIB,zSZ,zSS];refine wpAnyH_done (by kernel_rfl) ?_ _;go_wp2_with fail;refine wp_region_held_drew (S:=fun u=>u.cell? ⟨jb,0,none⟩=some (.map (some mp))/\u.cell? ⟨w.heap.size,0,none⟩=some (.bool tv0)/\u.cell? ⟨w.heap.size,1,none⟩=some (.string ⟨tn.toArray⟩)) (by kernel_rfl) ?_ (fun hHeld=>?_)
   . exact K5.out _ (zF _ _).drew.drew
   refine tkH (i:=0) (oi:=⟨some 26,.move (.tmp 0),78, "join.go:62",#[],none⟩) (v:=?_) rfl ?_ hHeld ?_;rotate_left 1
   . rintro W ⟨l1,l2,l3⟩;go_simp;try with_reducible rfl
   simp only[Act.put,zIB,zSZ,zSS];refine tkH (i:=1) (oi:=⟨some 27,.nilCheck (.tmp 26),0, "join.go:62",#[⟨0,.data⟩],none⟩) (v:=?_) rfl ?_ hHeld ?_;rotate_left 1
   . rintro W ⟨l1,l2,l3⟩;go_simp;try with_reducible rfl
   simp only[Act.put,zIB,zSZ,zSS];refine tkH (i:=2) (oi:=⟨some 28,.fieldAddr 114 (.tmp 27) 0,0, "join.go:62",#[⟨1,.data⟩],none⟩) (v:=?_) rfl ?_ hHeld ?_;rotate_left 1
   . rintro W ⟨l1,l2,l3⟩;go_simp;try with_reducible rfl
   simp only[Act.put,zIB,zSZ,zSS];refine tkH (i:=3) (oi:=⟨some 29,.load 110 (.tmp 28),110, "join.go:62",#[⟨2,.data⟩],none⟩) (v:=?_) rfl ?_ hHeld ?_;rotate_left 1
   . rintro W ⟨l1,l2,l3⟩;go_simp;try with_reducible rfl
   simp only[Act.put,zIB,zSZ,zSS];refine tkH (i:=4) (oi:=⟨some 30,.load 42 (.tmp 5),42, "join.go:62",#[],none⟩) (v:=?_) rfl ?_ hHeld ?_;rotate_left 1
   . rintro W ⟨l1,l2,l3⟩;go_simp;try with_reducible rfl
   simp only[Act.put,zIB,zSZ,zSS];refine tkH (i:=5) (oi:=⟨some 31,.move (.tmp 7),3, "join.go:62",#[],none⟩) (v:=?_) rfl ?_ hHeld ?_;rotate_left 1
   . rintro W ⟨l1,l2,l3⟩;go_simp;try with_reducible rfl
   simp only[Act.put,zIB,zSZ,zSS];refine wpAnyH_ready (rs:=[6]) (by kernel_rfl) (by simp) ?_;refine AllReadyH.cons (o:=⟨none,.mapUpdate 110 (.tmp 29) (.tmp 30) (.tmp 31),0, "join.go:62",#[⟨3,.data⟩,⟨4,.data⟩,⟨5,.data⟩,⟨0,.phase⟩,⟨1,.phase⟩,⟨2,.phase⟩,⟨3,.phase⟩,⟨4,.phase⟩,⟨5,.phase⟩],none⟩) rfl (fun K hK=>?_) AllReadyH.nil;go_simp;refine hK.out _ _ KS3.out (fun hHeld=>?_);clear hK K hup;refine wpAnyH_done (by kernel_rfl) ?_ _;clear KS3 hw2 q1d q1a K5 KS;go_wp2_with (at_builtin;refine wpList_append_lies _ rfl _ _ _ rfl B 3 i0 _ 1 8 Tryz.underlying56 hi0 hz0 hz1 hz2 rfl (by decide) (.slice aa n ac) _ _ (by rfl) (HAL3.out.alloc _) ⟨w3.heap.size,0,none⟩ 1 1 (csI n) (by rfl) (by rfl) ?d1 ?d2 (by decide) ?d3 ?d4 ?d5 (w3.heap.size+1) (by simp) ?_)
   case d1=>exact World.news_of_block (cs:=#[.int .i64 (n:Int)]) (t:=3) (fr:=(0,0)) (heap_alloc_new w3 _)
   case d2=>simp[Value.oneCell']
   case d3=>unfold maxLen;omega
   case d4=>omega
   case d5=>have:=HBs.out;simp;omega
   intro gg cap w5 hr5 hg5 hat5 hlt5;obtain⟨⟨x1,x2⟩,hU,HF⟩:=HSTEP.out gg cap w5 hr5 hg5 hat5;have HU:=zA hU;obtain⟨w6,hw6⟩:∃W,W=w5.setCell ⟨jb,1,none⟩ (.slice (some ⟨gg,0,none⟩) (n+1) cap):=⟨_,rfl⟩
   have hz6:w6.heap.size=w5.heap.size:=by rw[hw6];simp
   rw[<- hw6]at HU HF;have HZ6:=zA hz6;obtain⟨hg6,⟨y5,y0,y1⟩,_,_⟩:=HU.out w6 (zF _ _);have CV:=zA (vertex_any hg6 tn hfn);have HW6:=zA hw6;clear hr5 hg5 hat5 hlt5 hU hz6 hg6 HSTEP;rw[hw6]at y0 y1 y5;clear hw6;go_wp2_with fail;rw[<- HW6.out];refine CV.out.mono ?_;rintro e w7 ⟨v7,rfl,hv7,hb7⟩;rw[HZ6.out]at hv7 hb7;obtain⟨hg7,⟨p5,p0,p1⟩,hfi7,hsz7⟩:=HU.out w7 hb7;obtain⟨va7,vc7,hve7⟩:=hv7.1.slice;obtain⟨n7,hn7⟩:∃q,q=(vertexL V tn).length:=⟨_,rfl⟩
   rw[<- hn7]at hve7;clear hn7 y0 y1 y5 x1 x2 q1c;cases tv0 with
   |false=>
    have HV7:Hid (NatC (fun k=>w5.heap.size<=k) w7 (.slice va7 n7 vc7) (firstT V (false,tn))):=zA (by rw[<- hve7];exact hv7);have HFI:=zA hfi7;have H9:=zA (HF.out w7 (.slice va7 n7 vc7) hb7 HV7.out);have HBs7:Hid (B<=w7.heap.size):=zA (by have:=HBW.out;omega);subst hve7;clear hv7 hb7 hg7 hfi7 HF hsz7;go_wp2_with (at_builtin;refine wpList_append_lies _ rfl _ _ _ rfl B 56 i1 _ 1 24 Tryz.underlying112 hi1 hy0 hy1 hy2 rfl (by decide) (.slice ca n cc) _ _ (by rfl) (HFI.out.alloc _) ⟨w7.heap.size,0,none⟩ 1 1 [.slice va7 n7 vc7] (by rfl) (by rfl) ?f1 ?f2 (by decide) ?f3 ?f4 ?f5 (w7.heap.size+1) (by simp) ?_)
    case f1=>exact World.news_of_block (cs:=#[.slice va7 n7 vc7]) (t:=56) (fr:=(0,0)) (heap_alloc_new w7 _)
    case f2=>simp[Value.oneCell']
    case f3=>unfold maxLen;omega
    case f4=>omega
    case f5=>have:=HBs7.out;simp;omega
    intro g9 cap9 w9 hr9 hg9 hat9 hlt9;obtain⟨⟨z1,z2⟩,hq⟩:=H9.out g9 cap9 w9 hr9 hg9 hat9;have HQ9:=zA hq;clear hr9 hg9 hat9 hlt9 hq H9;go_wp2;all_goals (first|(go_ret;exact HQ9.out)|exact HQ9.out)
   |true=>
    have CW:=zA (vertices_any hg7 (by omega));subst hve7;clear hv7 hg7 hfi7 hsz7;have HB7:=zA hb7;clear hb7;obtain⟨nV,hnV⟩:∃q,q=V.length:=⟨_,rfl⟩
    rw[<- hnV]at CW;have HNV:=zA hnV;clear hnV;go_wp2_with fail;refine CW.out.mono ?_;rintro e w8 ⟨rfl,hv8,hb8⟩;have hb8w:Below w5.heap.size w6 w8:=HB7.out.trans (hb8.mono (by have:=HB7.out.size;have:=HZ6.out;omega));obtain⟨_,⟨r5,r0,r1⟩,hfi8,hsz8⟩:=HU.out w8 hb8w;have HV8:Hid (NatC (fun k=>w5.heap.size<=k) w8 (.slice (some ⟨w7.heap.size,0,none⟩) nV nV) (firstT V (true,tn))):=zA (by
     have hz7:w5.heap.size<=w7.heap.size:=by have:=HB7.out.size;have:=HZ6.out;omega
     have e:firstT V (true,tn)=List.range nV:=by rw[firstT,if_pos rfl,HNV.out]
     rw[e];refine⟨(hv8.sl (fun _=>rfl) (by simp)).sub (fun k hk _=>by have hk:k=w7.heap.size:=hk;omega),some ⟨w7.heap.size,0,none⟩,nV,by rw[List.length_range],by rw[List.length_range];exact zD _⟩)
    have HFI:=zA hfi8;have H9:=zA (HF.out w8 _ hb8w HV8.out);have HBs8:Hid (B<=w8.heap.size):=zA (by have:=HBW.out;omega);clear hv8 hb8 hb8w hfi8 hsz8 HF p5 p0 p1;go_wp2_with (at_builtin;refine wpList_append_lies _ rfl _ _ _ rfl B 56 i1 _ 1 24 Tryz.underlying112 hi1 hy0 hy1 hy2 rfl (by decide) (.slice ca n cc) _ _ (by rfl) (HFI.out.alloc _) ⟨w8.heap.size,0,none⟩ 1 1 [.slice (some ⟨w7.heap.size,0,none⟩) nV nV] (by rfl) (by rfl) ?f1 ?f2 (by decide) ?f3 ?f4 ?f5 (w8.heap.size+1) (by simp) ?_)
    case f1=>exact World.news_of_block (cs:=#[.slice (some ⟨w7.heap.size,0,none⟩) nV nV]) (t:=56) (fr:=(0,0)) (heap_alloc_new w8 _)
    case f2=>simp[Value.oneCell']
    case f3=>unfold maxLen;omega
    case f4=>omega
    case f5=>have:=HBs8.out;simp;omega
    intro g9 cap9 w9 hr9 hg9 hat9 hlt9;obtain⟨⟨z1,z2⟩,hq⟩:=H9.out g9 cap9 w9 hr9 hg9 hat9;have HQ9:=zA hq;clear hr9 hg9 hat9 hlt9 hq H9;go_wp2;all_goals (first|(go_ret;exact HQ9.out)|exact HQ9.out)
end Go.Proofs.YtdalcipmpelifaaGreatDoor
