/- MMem, MPairs. -/
import Derived.Test.YtkbgmcmcpbegjabGreatDoorMH14
import Derived.OwnWalk
set_option maxRecDepth 100000
namespace Go.Proofs.YtkbgmcmcpbegjabGreatDoor
open Go.RowKit Go.Shelf
def bCells(n:Nat)(f:Nat->Bool):Array Value:=((List.range n).map fun k=>Value.bool (f k)).toArray
theorem bCells_size(n:Nat)(f:Nat->Bool):(bCells n f).size=n:=by simp[bCells]
theorem bCells_get{n k:Nat}(f:Nat->Bool)(h:k<n):(bCells n f)[k]?=some (.bool (f k)):=by
 simp[bCells,h]
theorem bCells_congr{n:Nat}{f f':Nat->Bool}(h:∀k,k<n->f k=f' k):bCells n f=bCells n f':=by
 unfold bCells;congr 1;exact yQ (fun k hk=>by rw[h k (yD.1 hk)])
theorem bCells_set{n k:Nat}(f:Nat->Bool)(b:Bool):(bCells n f).setIfInBounds k (.bool b)=bCells n (fun j=>if j=k then b else f j):=by
 apply Array.ext_getElem?;intro j;rw[Array.getElem?_setIfInBounds,bCells_size];by_cases hj:j<n
 . rw[bCells_get _ hj,bCells_get _ hj];by_cases e:k=j
   . subst e;simp[hj]
   . rw[if_neg e,if_neg (fun x=>e x.symm)]
 . have h1:(bCells n f)[j]?=none:=by rw[Array.getElem?_eq_none];rw[bCells_size];omega
   have h2:(bCells n (fun j=>if j=k then b else f j))[j]?=none:=by rw[Array.getElem?_eq_none];rw[bCells_size];omega
   rw[h1,h2];split
   . split
     . omega
     . rfl
   . rfl
def BRow(w:World)(g n:Nat)(f:Nat->Bool):Prop:=w.heap[g]?=some (.cells (bCells n f) 4 (0,0))
theorem BRow.cell{w:World}{g n k:Nat}{f:Nat->Bool}(h:BRow w g n f)(hk:k<n):w.cell? ⟨g,k,none⟩=some (.bool (f k))/\w.frozen? ⟨g,k,none⟩=false:=by
 have h:w.heap[g]?=_:=h;have h2:=bCells_get f hk;constructor
 . simp[World.cell?,h,h2]
 . simp[World.frozen?,h]
theorem BRow.congr{w:World}{g n:Nat}{f f':Nat->Bool}(h:BRow w g n f)(e:∀k,k<n->f k=f' k):BRow w g n f':=by
 unfold BRow at h ⊢;rw[h,bCells_congr e]
theorem BRow.set{w:World}{g n k:Nat}{f:Nat->Bool}(h:BRow w g n f)(b:Bool):BRow (w.setCell ⟨g,k,none⟩ (.bool b)) g n (fun j=>if j=k then b else f j):=by
 unfold BRow at h ⊢;simp[World.setCell,Array.getElem?_modify,h,bCells_set]
abbrev csGr(p:Nat×Rw):List Value:=[.slice (some ⟨p.1,0,none⟩) p.2.length p.2.length]
def RBlk(w:World)(p:Nat×Rw):Prop:=w.heap[p.1]?=some (.cells (p.2.map fun s=>Value.string ⟨s.toArray⟩).toArray 9 (0,0))
structure RowO (B:Nat) (w:World) (u:Value) (gs:List (Nat×Rw)):Prop where
 row:w.ownsRow B 30 1 u gs.length (gs.flatMap csGr)
 blk:∀p∈gs,RBlk w p
theorem RBlk.txt{w:World}{p:Nat×Rw}(h:RBlk w p):TxtS (fun _=>True) w (.slice (some ⟨p.1,0,none⟩) p.2.length p.2.length) p.2:=by
 have h:w.heap[p.1]?=_:=h;refine⟨_,_,rfl,.inr ⟨p.1,0,rfl,trivial,lt_of_block h,fun j x hx c u hu=>?_⟩⟩;have hc:c=0:=by
  have:=(zE.1 hu).1;simp at this;exact this
 subst hc;simp at hu;subst hu;have hj:(p.2.map fun s=>Value.string ⟨s.toArray⟩).toArray[j]?=some (.string ⟨x.toArray⟩):=by simp[hx]
 simp only[World.cell?,h,Nat.zero_add,yF,yJ];exact hj
theorem RowO.rows{B:Nat}{w:World}{u:Value}{gs:List (Nat×Rw)}(h:RowO B w u gs)(hl:∀p∈gs,p.2.length<=1000000):RowsM w u (gs.map (·.2)):=by
 refine⟨gs.map (fun p=>(.slice (some ⟨p.1,0,none⟩) p.2.length p.2.length,p.2)),⟨?_,by rw[zH];exact own_capM h.row,fun p hp=>?_⟩,by rw[List.map_map];rfl⟩
 . refine Src.own csRw_len (B:=B) (e:=30) (n:=gs.length) ?_ (by simp);have e:(gs.map (fun p=>((Value.slice (some ⟨p.1,0,none⟩) p.2.length p.2.length,p.2):Value×Rw))).flatMap csRw=gs.flatMap csGr:=by rw[List.flatMap_map]
   rw[e];exact h.row
 . obtain⟨q,hq,rfl⟩:=zS.1 hp;exact⟨(h.blk q hq).txt,hl q hq⟩
theorem RowO.below{B:Nat}{w w':World}{u:Value}{gs:List (Nat×Rw)}(h:RowO B w u gs)(hb:Below w.heap.size w w'):RowO B w' u gs:=⟨owns_below h.row hb,fun p hp=>(hb.block p.1 (lt_of_block (h.blk p hp))).trans (h.blk p hp)⟩
def pairRow(V:List Wd)(m:Mt)(i k:Nat):List Rw:=((List.range k).filter fun j=>m i j).map fun j=>[V.getD i [],V.getD j []]
def pairsTo(V:List Wd)(m:Mt)(i:Nat):List Rw:=(List.range i).flatMap fun i'=>pairRow V m i' V.length
theorem pairsTo_succ(V:List Wd)(m:Mt)(i:Nat):pairsTo V m (i+1)=pairsTo V m i++pairRow V m i V.length:=by
 unfold pairsTo;rw[List.range_succ,zT];simp
theorem pairRow_len(V:List Wd)(m:Mt)(i k:Nat):(pairRow V m i k).length<=k:=by
 unfold pairRow;rw[zH];exact zQ (yC _ _) (by simp)
theorem pairsTo_len(V:List Wd)(m:Mt):∀i,(pairsTo V m i).length<=i*V.length
 |0=>by simp[pairsTo]
 |i+1=>by
  rw[pairsTo_succ,zG,Nat.succ_mul];have:=pairsTo_len V m i;have:=pairRow_len V m i V.length;omega
theorem pairs_spec{V:List Wd}(hV:RiseL less V){m:Mt}{R:Wd->Wd->Prop}(h:SpecM V m R):RiseL lessR (pairsTo V m V.length)/\∀r,r∈pairsTo V m V.length↔∃x y,r=[x,y]/\x∈V/\y∈V/\R x y:=by
 have hget:∀i,i<V.length->V[i]?=some (V.getD i []):=fun i hi=>by
  rw[List.getD,zB hi];rfl
 constructor
 . unfold RiseL pairsTo;rw[List.pairwise_flatMap];constructor
   . intro i hi;have hi:=yD.1 hi;unfold pairRow;rw[List.pairwise_map];refine List.Pairwise.filter _ ?_;refine List.Pairwise.imp_of_mem ?_ (List.pairwise_lt_range (n:=V.length));intro a b ha hb hab;have ha:=yD.1 ha;have hb:=yD.1 hb;rw[lessR,if_pos rfl,lessR];have hl:=hV.lt_at ordW (hget a ha) (hget b hb) hab;rw[if_neg (ordW.ne hl)];exact hl
   . refine List.Pairwise.imp_of_mem ?_ (List.pairwise_lt_range (n:=V.length));intro a b ha hb hab r hr s hs;have ha:=yD.1 ha;have hb:=yD.1 hb;obtain⟨j,_,rfl⟩:=zS.1 hr;obtain⟨k,_,rfl⟩:=zS.1 hs;have hl:=hV.lt_at ordW (hget a ha) (hget b hb) hab;rw[lessR,if_neg (ordW.ne hl)];exact hl
 . intro r;constructor
   . intro hr;obtain⟨i,hi,h2⟩:=List.mem_flatMap.1 hr;have hi:=yD.1 hi;obtain⟨k,hk,rfl⟩:=zS.1 h2;rw[zW]at hk;have hk1:=yD.1 hk.1;exact⟨_,_,rfl,zC (hget i hi),zC (hget k hk1),(h i k _ _ (hget i hi) (hget k hk1)).1 hk.2⟩
   . rintro⟨x,y,rfl,hx,hy,hR⟩;obtain⟨i,hi⟩:=List.getElem?_of_mem hx;obtain⟨k,hk⟩:=List.getElem?_of_mem hy;have hi1:=(zE.1 hi).1;have hk1:=(zE.1 hk).1;refine List.mem_flatMap.2 ⟨i,yD.2 hi1,zS.2 ⟨k,?_,?_⟩⟩
     . rw[zW];exact⟨yD.2 hk1,(h i k x y hi hk).2 hR⟩
     . have e1:=hget i hi1;have e2:=hget k hk1;rw[hi]at e1;rw[hk]at e2;injection e1 with e1;injection e2 with e2;rw[<- e1,<- e2]
def pairsL(fs:List Fa)(p:Pt):List Rw:=pairsTo (vertsL fs) (leadsM fs (vertsL fs) p) (vertsL fs).length
theorem pairsL_spec(fs:List Fa){p:Pt}(h:mayP p=true):RiseL lessR (pairsL fs p)/\∀r,r∈pairsL fs p↔∃x y,r=[x,y]/\leadP fs p x y:=by
 simp only[mayP,Bool.and_eq_true,decide_eq_true_eq]at h;obtain⟨h1,h2⟩:=pairs_spec (verts_rise fs) (spec_leads fs p 12 h.1);refine⟨h1,fun r=>?_⟩;rw[pairsL,h2];constructor
 . rintro⟨x,y,e,_,_,h⟩;exact⟨x,y,e,h⟩
 . rintro⟨x,y,e,h⟩;exact⟨x,y,e,h.1,lead_vert h,h⟩
end Go.Proofs.YtkbgmcmcpbegjabGreatDoor
