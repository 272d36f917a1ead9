/- XSlot1. -/
import Derived.Test.YtdalcipmpelifaaGreatDoorMG41
set_option maxRecDepth 100000
namespace Go.Proofs.YtdalcipmpelifaaGreatDoor
open Go.RowKit Go.Shelf
theorem rows_neX{w:World}{B1 B2 n1 n2 s1 s2:Nat}{e1 e2:TypeId}{v1 v2:Value}{xs1 xs2:List Value}(h1:w.ownsRow B1 e1 s1 v1 n1 xs1)(h2:w.ownsRow B2 e2 s2 v2 n2 xs2)(hne:e1≠e2){k:Nat}(hk:v1.ownBlock=some k):v2.ownBlock≠some k:=by
 rcases h1.2 with⟨e,_⟩|⟨g,cap,cur,e,_,hb,_⟩
 . rw[e]at hk;simp[Value.ownBlock]at hk
 . have hgk:g=k:=by rw[e]at hk;simpa[Value.ownBlock]using hk
   subst hgk;exact own_neG h2 hb (fun e2=>hne e2.symm)
theorem SL.done{B:Nat}{V:List Wd}{w:World}{jb mp:Nat}{J:Jv}{ts:List Tm}{frs:List (Value×List Nat)}{D:Nat->Prop}(h:SL B V w jb mp J ts frs D){t:Tm}(ht:t∉ts)(hf:FineM t)(hBw:B<=w.heap.size)
 {w2 w3 w5 w8 w9:World} {cnt:Nat} {DM:DataW Unit} {av5 cv9 lv:Value} (hb2:Below w.heap.size w w2) (hcnt:cnt<=ts.length) (hDM:Maps.IsMap DM) (hT:TellM DM ts) (hm3:w3.ownsMap Tryz.prog 42 (plainElem Tryz.prog 3) mp (cnt+1) (DM.put (kM t) (.lit (.int .i64 (ts.length:Int))))) (hg3:w2.grownBy w3 (some mp))
 (hr5:w5.ownsRow B 3 1 av5 (ts.length+1) ((List.range ts.length).flatMap csI++csI ts.length)) (hk5:∀k,k<w3.heap.size->J.av.ownBlock≠some k->w5.heap[k]?=w3.heap[k]?) (hz5:w3.heap.size<=w5.heap.size) (ho5:w5.os=w3.os) (ht5:w5.tape=w3.tape) (hu5:w5.output=w3.output) (ha5:∀g,av5.ownBlock=some g->J.av.ownBlock=some g\/w3.heap.size<=g)
 (hb8:Below w5.heap.size (w5.setCell ⟨jb,1,none⟩ av5) w8) (hL:NatC (fun k=>w5.heap.size<=k) w8 lv (firstT V t))
 (hr9:w9.ownsRow B 56 1 cv9 (frs.length+1) (frs.flatMap csRow++[lv])) (hk9:∀k,k<w8.heap.size->J.cv.ownBlock≠some k->w9.heap[k]?=w8.heap[k]?) (hz9:w8.heap.size<=w9.heap.size) (ho9:w9.os=w8.os) (ht9:w9.tape=w8.tape) (hu9:w9.output=w8.output) (ha9:∀g,cv9.ownBlock=some g->J.cv.ownBlock=some g\/w8.heap.size<=g):
 ∃frs' D',SL B V (w9.setCell ⟨jb,5,none⟩ cv9) jb mp { J with av:=av5,cv:=cv9 } (ts++[t]) frs' D'/\(∀k,XS jb mp { J with av:=av5,cv:=cv9 } k->XS jb mp J k\/w.heap.size<=k)/\(∀k,D' k->D k\/w.heap.size<=k)/\Fr (fun k=>k<w.heap.size/\¬XS jb mp J k) w (w9.setCell ⟨jb,5,none⟩ cv9):=by
 have hz2:=hb2.size;have hz3:=hg3.size;have hz6:(w5.setCell ⟨jb,1,none⟩ av5).heap.size=w5.heap.size:=by simp
 have hz8:w5.heap.size<=w8.heap.size:=by have:=hb8.size;omega
 have hzF:(w9.setCell ⟨jb,5,none⟩ cv9).heap.size=w9.heap.size:=by simp
 have hjl:=lt_of_block h.blk;obtain⟨_,_,hmw,_⟩:=h.map;have hmj:mp≠jb:=blk_ne_mapG h.blk hmw;have hml:=hmw.lt;have haj:J.av.ownBlock≠some jb:=own_neG h.al h.blk (by decide);have hcj:J.cv.ownBlock≠some jb:=own_neG h.fi h.blk (by decide);have ham:J.av.ownBlock≠some mp:=own_ne_mapG h.al hmw;have hcm:J.cv.ownBlock≠some mp:=own_ne_mapG h.fi hmw;have hac:∀k,J.av.ownBlock=some k->J.cv.ownBlock≠some k:=fun k hk=>rows_neX h.al h.fi (by decide) hk
 have hs1:∀k,k≠jb->(w5.setCell ⟨jb,1,none⟩ av5).heap[k]?=w5.heap[k]?:=fun k hk=>zM _ _ _ _ hk
 have hs9:∀k,k≠jb->(w9.setCell ⟨jb,5,none⟩ cv9).heap[k]?=w9.heap[k]?:=fun k hk=>zM _ _ _ _ hk
 have h58:∀k,k<w5.heap.size->k≠jb->w8.heap[k]?=w5.heap[k]?:=fun k hk hne=>(hb8.block k hk).trans (hs1 k hne)
 have h23:∀k,k<w2.heap.size->k≠mp->w3.heap[k]?=w2.heap[k]?:=fun k hk hne=>hg3.block k hk (fun e=>hne (by injection e))
 have hblk3:w3.heap[jb]?=some (.cells J.cells 114 (0,0)):=(h23 jb (by omega) (fun e=>hmj e.symm)).trans ((hb2.block jb hjl).trans h.blk);have hblk5:w5.heap[jb]?=some (.cells J.cells 114 (0,0)):=(hk5 jb (by omega) haj).trans hblk3;have hblk6:(w5.setCell ⟨jb,1,none⟩ av5).heap[jb]?=some (.cells ({ J with av:=av5 }:Jv).cells 114 (0,0)):=by
  simp[World.setCell,Array.getElem?_modify,hblk5,Jv.cells]
 have hblk9:w9.heap[jb]?=some (.cells ({ J with av:=av5 }:Jv).cells 114 (0,0)):=(hk9 jb (by omega) hcj).trans ((hb8.block jb (by omega)).trans hblk6);have hblkF:(w9.setCell ⟨jb,5,none⟩ cv9).heap[jb]?=some (.cells ({ J with av:=av5,cv:=cv9 }:Jv).cells 114 (0,0)):=by
  simp[World.setCell,Array.getElem?_modify,hblk9,Jv.cells]
 have hold:∀k,k<w.heap.size->¬XS jb mp J k->(w9.setCell ⟨jb,5,none⟩ cv9).heap[k]?=w.heap[k]?:=fun k hk hx=>by
  have n1:k≠jb:=fun e=>hx (.inl e)
  have n2:k≠mp:=fun e=>hx (.inr (.inl e))
  have n3:J.av.ownBlock≠some k:=fun e=>hx (.inr (.inr (.inl e)))
  have n4:J.cv.ownBlock≠some k:=fun e=>hx (.inr (.inr (.inr e)))
  exact(hs9 k n1).trans ((hk9 k (by omega) n4).trans ((h58 k (by omega) n1).trans ((hk5 k (by omega) n3).trans ((h23 k (by omega) n2).trans (hb2.block k hk)))))
 have ha5j:∀g,av5.ownBlock=some g->g≠jb/\g≠mp/\J.cv.ownBlock≠some g/\g<w5.heap.size:=fun g hg=>by
  have hl:=(hr5.lt g hg).2;rcases ha5 g hg with h1|h1
  . exact⟨fun e=>haj (e▸h1),fun e=>ham (e▸h1),hac g h1,hl⟩
  . refine⟨by omega,by omega,fun e=>?_,hl⟩;have:=(h.fi.lt g e).2;omega
 have hdv:∀k,D k->¬XS jb mp { J with av:=av5,cv:=cv9 } k:=fun k hk hx=>by
  have hkl:=(h.dl k hk).2;rcases hx with e|e|e|e
  . exact h.dx k hk (.inl e)
  . exact h.dx k hk (.inr (.inl e))
  . rcases ha5 k e with h1|h1
    . exact h.dx k hk (.inr (.inr (.inl h1)))
    . omega
  . rcases ha9 k e with h1|h1
    . exact h.dx k hk (.inr (.inr (.inr h1)))
    . omega
 refine⟨frs++[(lv,firstT V t)],fun k=>D k\/(w5.heap.size<=k/\k<w8.heap.size),⟨hblkF,h.sv,h.jB,h.mB,⟨cnt+1,_,map_keyG hm3 (fun o ho=>?_),by rw[zG];simp only[List.length_singleton];omega,hT.put hDM hf ht⟩,?_,?_,?_,fun r hr=>?_,fun k hk=>?_,fun k hk=>?_⟩,fun k hk=>?_,fun k hk=>?_,?_⟩
 . have hmp3:w5.heap[mp]?=w3.heap[mp]?:=hk5 mp (by omega) ham;exact(hs9 mp hmj).trans ((hk9 mp (by omega) hcm).trans ((h58 mp (by omega) hmj).trans (hmp3.trans ho)))
 . rw[zG,List.length_singleton,List.range_succ,zY];refine owns_key (show w5.ownsRow B 3 1 av5 (ts.length+1) _ from by simpa using hr5) (fun g o hg ho=>?_);obtain⟨a1,a2,a3,a4⟩:=ha5j g hg;exact(hs9 g a1).trans ((hk9 g (by omega) a3).trans ((h58 g a4 a1).trans ho))
 . rw[zG,zY];refine owns_key hr9 (fun g o hg ho=>(hs9 g (fun e=>?_)).trans ho);rcases ha9 g hg with h1|h1
   . exact hcj (e▸h1)
   . omega
 . rw[yP,yP,h.frc];rfl
 . rcases zN.1 hr with hr|hr
   . refine(h.fat r hr).keep (by omega) (fun k hk hl=>⟨.inl hk,hold k hl (h.dx k hk)⟩)
   . rw[zJ.1 hr];refine hL.keep (by omega) (fun k hk hl=>⟨.inr ⟨hk,hl⟩,(hs9 k (by omega)).trans (hk9 k hl (fun e=>?_))⟩);have:=(h.fi.lt k e).2;omega
 . rcases hk with hk|hk
   . have:=h.dl k hk;exact⟨this.1,by omega⟩
   . exact⟨by omega,by omega⟩
 . rcases hk with hk|hk
   . exact hdv k hk
   . intro hx;rcases hx with e|e|e|e
     . omega
     . omega
     . have:=(ha5j k e).2.2.2;omega
     . rcases ha9 k e with h1|h1
       . have:=(h.fi.lt k h1).2;omega
       . omega
 . rcases hk with e|e|e|e
   . exact .inl (.inl e)
   . exact .inl (.inr (.inl e))
   . rcases ha5 k e with h1|h1
     . exact .inl (.inr (.inr (.inl h1)))
     . exact .inr (by omega)
   . rcases ha9 k e with h1|h1
     . exact .inl (.inr (.inr (.inr h1)))
     . exact .inr (by omega)
 . exact hk.imp id (fun h1=>by omega)
 . refine⟨?_,?_,?_,by omega,fun k hk=>hold k hk.1 hk.2⟩
   . exact ho9.trans (hb8.os.trans (ho5.trans (hg3.os.trans hb2.os)))
   . exact ht9.trans (hb8.tape.trans (ht5.trans (hg3.tape.trans hb2.tape)))
   . exact hu9.trans (hb8.output.trans (hu5.trans (hg3.output.trans hb2.output)))
end Go.Proofs.YtdalcipmpelifaaGreatDoor
