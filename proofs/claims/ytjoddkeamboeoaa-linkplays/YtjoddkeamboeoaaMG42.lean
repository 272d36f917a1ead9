/- ERTakO, ERTakS, ERTakL, ERTakK, ERTakW. -/
import Derived.Test.YtjoddkeamboeoaaMG39
import Derived.Test.YtjoddkeamboeoaaMG40
import Derived.Test.YtjoddkeamboeoaaMG41
set_option maxRecDepth 100000
namespace Go.Proofs.Ytjoddkeamboeoaa
open Go.RowKit Go.Shelf
def GoodT(e:En)(l:List UInt8)(k:Nat)(x0:Int):Prop:=
 (onlyP l).2=true/\(onlyP l).1.rows.length=0/\(onlyP l).1.kind=(k:Int)/\(onlyP l).1.nums.length=5-k/\(onlyP l).1.texts.length=2-k/\(onlyP l).1.nums[0]?=some x0/\x0≠0/\¬x0<(e.ot:Int)
theorem takeE_none{e:En}{l:List UInt8}(h:heardP l=none):takeE e l=(e,[],[],false):=by rw[takeE,h]
theorem takeE_low{e:En}{l:List UInt8}{x:Hd}(h:heardP l=some x)(hx:x.ep=0\/x.ep<(e.ot:Int)):takeE e l=(e,[],[],false):=by
 rw[takeE,h];simp only;rw[if_pos hx]
theorem heardP_no{l:List UInt8}(h:(onlyP l).2=false):heardP l=none:=by rw[heardP,if_neg (by rw[h];decide)]
theorem heardN_ep{n:NoteD}{x:Hd}{x0:Int}(h:heardN n=some x)(hx:n.nums[0]?=some x0):x.ep=x0:=by
 rw[heardN]at h;split at h
 . cases h
 . split at h
   . split at h
     . rename_i a b c d t e1 e2;split at h
       . cases h
         rw[e1]at hx;simpa using hx
       . cases h
     . cases h
   . split at h
     . split at h
       . rename_i a b c e1 e2;cases h
         rw[e1]at hx;simpa using hx
       . cases h
     . cases h
theorem takeE_of{e:En}{l:List UInt8}(hok:(onlyP l).2=true)(h:heardN (onlyP l).1=none):takeE e l=(e,[],[],false):=takeE_none (by rw[heardP,if_pos hok,h])
theorem takeE_ep{e:En}{l:List UInt8}{x0:Int}(hok:(onlyP l).2=true)(hx:(onlyP l).1.nums[0]?=some x0)(h0:x0=0\/x0<(e.ot:Int)):takeE e l=(e,[],[],false):=by
 cases h:heardN (onlyP l).1 with
 |none=>exact takeE_of hok h
 |some x=>exact takeE_low (x:=x) (by rw[heardP,if_pos hok,h]) (by rw[heardN_ep h hx];exact h0)
section
variable {T:Nat->Prop} {w:World} {e:En} {vq:Value}
theorem rTake_or(hq:TxR T w vq e.q)(hlow:Low T w)(l:List UInt8)(hl:l.length<=140737488351232):
 Calls Try.prog 20 #[rvE e vq,.string ⟨l.toArray⟩] w (RTakE T w e l)\/∃k x0,(k=1\/k=2)/\GoodT e l k x0:=by
 cases hok:(onlyP l).2 with
 |false=>exact .inl (rTake_b1 hq hlow l hl (takeE_none (heardP_no hok)) hok)
 |true=>
  by_cases h2:(onlyP l).1.rows.length=0
  . by_cases h3:(onlyP l).1.kind<1
    . exact .inl (rTake_b3 hq hlow l hl (takeE_of hok (heardN_kind (by omega) (by omega))) hok h2 h3)
    . by_cases h4:2<(onlyP l).1.kind
      . exact .inl (rTake_b4 hq hlow l hl (takeE_of hok (heardN_kind (by omega) (by omega))) hok h2 h4)
      . have hk:(onlyP l).1.kind=1\/(onlyP l).1.kind=2:=by omega
        rcases hk with hk|hk
        . by_cases h5:(onlyP l).1.nums.length=4
          . by_cases h6:(onlyP l).1.texts.length=1
            . obtain⟨x0,hx⟩:∃x0,(onlyP l).1.nums[0]?=some x0:=⟨_,zD (by omega)⟩
              by_cases h7:x0=0
              . exact .inl (rTake_z1 hq hlow l hl (takeE_ep hok hx (.inl h7)) hok h2 hk h5 h6 (by rw[hx,h7]))
              . by_cases h8:x0<(e.ot:Int)
                . exact .inl (rTake_o1 hq hlow l hl (takeE_ep hok hx (.inr h8)) hok h2 hk h5 h6 x0 hx h7 h8)
                . exact .inr ⟨1,x0,.inl rfl,hok,h2,hk,h5,h6,hx,h7,h8⟩
            . exact .inl (rTake_t1 hq hlow l hl (takeE_of hok (heardN_one hk (fun h=>h6 h.2))) hok h2 hk h5 h6)
          . exact .inl (rTake_n1 hq hlow l hl (takeE_of hok (heardN_one hk (fun h=>h5 h.1))) hok h2 hk h5)
        . by_cases h5:(onlyP l).1.nums.length=3
          . by_cases h6:(onlyP l).1.texts.length=0
            . obtain⟨x0,hx⟩:∃x0,(onlyP l).1.nums[0]?=some x0:=⟨_,zD (by omega)⟩
              by_cases h7:x0=0
              . exact .inl (rTake_z2 hq hlow l hl (takeE_ep hok hx (.inl h7)) hok h2 hk h5 h6 (by rw[hx,h7]))
              . by_cases h8:x0<(e.ot:Int)
                . exact .inl (rTake_o2 hq hlow l hl (takeE_ep hok hx (.inr h8)) hok h2 hk h5 h6 x0 hx h7 h8)
                . exact .inr ⟨2,x0,.inr rfl,hok,h2,hk,h5,h6,hx,h7,h8⟩
            . exact .inl (rTake_t2 hq hlow l hl (takeE_of hok (heardN_two hk (fun h=>h6 h.2))) hok h2 hk h5 h6)
          . exact .inl (rTake_n2 hq hlow l hl (takeE_of hok (heardN_two hk (fun h=>h5 h.1))) hok h2 hk h5)
  . exact .inl (rTake_b2 hq hlow l hl (takeE_of hok (heardN_rows h2)) hok h2)
end
section
variable {T:Nat->Prop} {w:World} {e e1:En} {ao ao1:Option Addr} {m cap m1 cap1 b nb:Nat} {n:NoteD} {a0:Option Addr} {l0 c0:Nat} {a1:Option Addr} {l1 c1:Nat} {a2:Option Addr} {l2 c2:Nat} {W W':World}
theorem TkR.turn(h:TkR T w e ao m cap b nb n a0 l0 c0 a1 l1 c1 a2 l2 c2 W)(hl:W'.heap[b]?=some (.cells #[.int .i64 e1.ep,.int .i64 e1.ot,.int .i64 e1.fs,.int .i64 e1.wt,.slice ao1 m1 cap1] 29 (0,0)))(ho:∀k,k≠b->W'.heap[k]?=W.heap[k]?)(hbel:Below w.heap.size w W')(htx:TxR T W' (.slice ao1 m1 cap1) e1.q):
 TkR T w e1 ao1 m1 cap1 b nb n a0 l0 c0 a1 l1 c1 a2 l2 c2 W':=
 { h with lk:=hl,rs:=(ho _ (by omega)).trans h.rs,nt:=(ho _ (by have:=h.nbb;omega)).trans h.nt,own:=h.own.keep (fun k o hk hko=>(ho k (by omega)).trans hko),bel:=hbel,tx:=htx }
theorem TkR.txk(h:TkR T w e ao m cap b nb n a0 l0 c0 a1 l1 c1 a2 l2 c2 W)(ho:∀k,k≠b->W'.heap[k]?=W.heap[k]?):TxR T W' (.slice ao m cap) e.q:=
 h.tx.keep (fun g _ hg hgo=>⟨hg,(ho g (by have:=h.low g hg;have:=h.hb;omega)).trans hgo⟩)
theorem see_same{x0:Int}(h:x0=(e.ot:Int)):seeE e x0.toNat=(e,false):=by rw[seeE,if_neg (by omega)]
theorem see_first{x0:Int}(h:(e.ot:Int)<x0)(h0:e.ot=0):seeE e x0.toNat=({ e with ot:=x0.toNat,wt:=1 },false):=by rw[seeE,if_pos (by omega),meetE,if_pos h0]
theorem see_anew{x0:Int}(h:(e.ot:Int)<x0)(h0:e.ot≠0):seeE e x0.toNat=({ e with ot:=x0.toNat,wt:=1,fs:=1,q:=[] },true):=by rw[seeE,if_pos (by omega),meetE,if_neg h0]
theorem set2_blk{c0 c1 c2 c3 c4:Value}{t:TypeId}{u1 u3:Value}(h:W.heap[b]?=some (.cells #[c0,c1,c2,c3,c4] t (0,0))):((W.setCell ⟨b,1,none⟩ u1).setCell ⟨b,3,none⟩ u3).heap[b]?=some (.cells #[c0,u1,c2,u3,c4] t (0,0)):=by simp[World.setCell,Array.getElem?_modify,h]
theorem set4_blk{c0 c1 c2 c3 c4:Value}{t:TypeId}{u1 u3 u4 u2:Value}(h:W.heap[b]?=some (.cells #[c0,c1,c2,c3,c4] t (0,0))):((((W.setCell ⟨b,1,none⟩ u1).setCell ⟨b,3,none⟩ u3).setCell ⟨b,4,none⟩ u4).setCell ⟨b,2,none⟩ u2).heap[b]?=some (.cells #[c0,u1,u2,u3,u4] t (0,0)):=by simp[World.setCell,Array.getElem?_modify,h]
theorem TkR.first(h:TkR T w e ao m cap b nb n a0 l0 c0 a1 l1 c1 a2 l2 c2 W)(k:Nat):TkR T w { e with ot:=k,wt:=1 } ao m cap b nb n a0 l0 c0 a1 l1 c1 a2 l2 c2 ((W.setCell ⟨b,1,none⟩ (.int .i64 (k:Int))).setCell ⟨b,3,none⟩ (.int .i64 1)):=by
 have ho:∀j,j≠b->((W.setCell ⟨b,1,none⟩ (.int .i64 (k:Int))).setCell ⟨b,3,none⟩ (.int .i64 1)).heap[j]?=W.heap[j]?:=fun j hj=>by rw[set1_other hj,set1_other hj]
 exact h.turn (set2_blk h.lk) ho ((h.bel.setCell (p:=⟨b,1,none⟩) (by have:=h.hb;simp;omega) _).setCell (p:=⟨b,3,none⟩) (by have:=h.hb;simp;omega) _) (h.txk ho)
theorem TkR.anew(h:TkR T w e ao m cap b nb n a0 l0 c0 a1 l1 c1 a2 l2 c2 W)(k:Nat):TkR T w { e with ot:=k,wt:=1,fs:=1,q:=[] } none 0 0 b nb n a0 l0 c0 a1 l1 c1 a2 l2 c2 ((((W.setCell ⟨b,1,none⟩ (.int .i64 (k:Int))).setCell ⟨b,3,none⟩ (.int .i64 1)).setCell ⟨b,4,none⟩ (.slice none 0 0)).setCell ⟨b,2,none⟩ (.int .i64 1)):=by
 have ho:∀j,j≠b->((((W.setCell ⟨b,1,none⟩ (.int .i64 (k:Int))).setCell ⟨b,3,none⟩ (.int .i64 1)).setCell ⟨b,4,none⟩ (.slice none 0 0)).setCell ⟨b,2,none⟩ (.int .i64 1)).heap[j]?=W.heap[j]?:=fun j hj=>by rw[set1_other hj,set1_other hj,set1_other hj,set1_other hj]
 exact h.turn (set4_blk h.lk) ho ((((h.bel.setCell (p:=⟨b,1,none⟩) (by have:=h.hb;simp;omega) _).setCell (p:=⟨b,3,none⟩) (by have:=h.hb;simp;omega) _).setCell (p:=⟨b,4,none⟩) (by have:=h.hb;simp;omega) _).setCell (p:=⟨b,2,none⟩) (by have:=h.hb;simp;omega) _) ⟨none,0,rfl,fun _=>⟨rfl,rfl⟩,by simp,.inl rfl⟩
theorem see_ep(e:En)(k:Nat):(seeE e k).1.ep=e.ep:=by
 unfold seeE meetE;split
 . split<;>rfl
 . rfl
theorem TkR.fin{l:List UInt8}{e0:En}{ps:List (List UInt8)}{an:Bool}{p0:Option Addr}{pl pc:Nat}(h:TkR T w e ao m cap b nb n a0 l0 c0 a1 l1 c1 a2 l2 c2 W)(ht:takeE e0 l=(e,[],ps,an))(hp:OneT W w.heap.size (.slice p0 pl pc) ps):
 RTakE T w e0 l (.returned (.tuple #[rvE e (.slice ao m cap),.slice none 0 0,.slice p0 pl pc,.bool an])) (set5 W (b+1) (.int .i64 e.ep) (.int .i64 e.ot) (.int .i64 e.fs) (.int .i64 e.wt) (.slice ao m cap)):=by
 unfold RTakE;rw[ht];refine⟨_,_,_,_,_,_,_,rfl,h.tx.keep (fun g cur hg ho=>⟨.inl hg,?_⟩),.inl ⟨rfl,rfl⟩,?_,set5_below h.bel (by have:=h.hb;omega) _ _ _ _ _⟩
 . exact(set5_other (fun e=>by
    have hlt:=h.low g hg;have:=h.hb;omega) _ _ _ _ _).trans ho
 . rcases hp with hp|⟨g,t,h1,h2,h3,h4⟩
   . exact .inl hp
   . refine .inr ⟨g,t,h1,h2,h3,(set5_other (fun e=>?_) _ _ _ _ _).trans h4⟩;rw[e,h.rs]at h4;simp only[Option.some.injEq,Obj.cells.injEq]at h4;exact absurd h4.2.1 (by decide)
end
section
variable {T:Nat->Prop} {w:World} {e e1:En} {ao:Option Addr} {m cap b nb:Nat} {n:NoteD} {a0:Option Addr} {l0 c0:Nat} {a1:Option Addr} {l1 c1:Nat} {a2:Option Addr} {l2 c2:Nat} {W W':World}
theorem TkR.len(h:TkR T w e ao m cap b nb n a0 l0 c0 a1 l1 c1 a2 l2 c2 W):m=e.q.length:=by
 obtain⟨ao',cap',e',-⟩:=h.tx;injection e'
theorem TkR.capl(h:TkR T w e ao m cap b nb n a0 l0 c0 a1 l1 c1 a2 l2 c2 W):m<=cap:=by
 obtain⟨ao',cap',e',-,h1,-⟩:=h.tx;injection e' with e1 e2 e3;omega
theorem set24_blk{c0 c1 c2 c3 c4:Value}{t:TypeId}{u4 u2:Value}(h:W.heap[b]?=some (.cells #[c0,c1,c2,c3,c4] t (0,0))):((W.setCell ⟨b,4,none⟩ u4).setCell ⟨b,2,none⟩ u2).heap[b]?=some (.cells #[c0,c1,u2,c3,u4] t (0,0)):=by simp[World.setCell,Array.getElem?_modify,h]
theorem TkR.drop1{p:List UInt8}{l:List (List UInt8)}(h:TkR T w e ao m cap b nb n a0 l0 c0 a1 l1 c1 a2 l2 c2 W)(hq:e.q=p::l):∃g' o',ao=some ⟨g',o',none⟩/\TkR T w { e with fs:=e.fs+1,q:=l } (if cap=1 then some ⟨g',o',none⟩else some ⟨g',o'+1,none⟩) l.length (cap-1) b nb n a0 l0 c0 a1 l1 c1 a2 l2 c2 ((W.setCell ⟨b,4,none⟩ (.slice (if cap=1 then some ⟨g',o',none⟩else some ⟨g',o'+1,none⟩) l.length (cap-1))).setCell ⟨b,2,none⟩ (.int .i64 ((e.fs:Int)+1))):=by
 have htx:=h.tx;rw[h.len,hq]at htx;obtain⟨g',o',rfl,hl⟩:=lose_txr htx;refine⟨g',o',rfl,?_⟩;generalize (if cap=1 then some (⟨g',o',none⟩:Addr)else some ⟨g',o'+1,none⟩)=a' at hl ⊢;have ho:∀j,j≠b->((W.setCell ⟨b,4,none⟩ (.slice a' l.length (cap-1))).setCell ⟨b,2,none⟩ (.int .i64 ((e.fs:Int)+1))).heap[j]?=W.heap[j]?:=fun j hj=>by rw[set1_other hj,set1_other hj]
 exact h.turn (e1:={ e with fs:=e.fs+1,q:=l }) (set24_blk h.lk) ho ((h.bel.setCell (p:=⟨b,4,none⟩) (by have:=h.hb;simp;omega) _).setCell (p:=⟨b,2,none⟩) (by have:=h.hb;simp;omega) _) (hl.keep (fun g _ hg hgo=>⟨hg,(ho g (by have:=h.low g hg;have:=h.hb;omega)).trans hgo⟩))
def fallE(e:En)(i:Nat):En:={ e with fs:=e.fs+i,q:=e.q.drop i }
theorem fall_all{e:En}{i:Nat}{x:Int}(h:i<=goneE e x.toNat)(h2:¬i<goneE e x.toNat):fallE e i=dropE e x.toNat:=by
 have:i=goneE e x.toNat:=by omega
 rw[this];rfl
theorem fall_go{e:En}{i:Nat}{x:Int}(h:i<goneE e x.toNat):0<(fallE e i).q.length/\((fallE e i).fs:Int)<x:=by
 simp only[goneE]at h;simp only[fallE,zN];omega
theorem fall_no{e:En}{i:Nat}{x:Int}(h:i<=goneE e x.toNat)(h2:¬i<goneE e x.toNat):(fallE e i).q.length=0\/¬((fallE e i).fs:Int)<x:=by
 simp only[goneE]at h h2;simp only[fallE,zN];omega
theorem fall_next{e:En}{i:Nat}{p:List UInt8}{l:List (List UInt8)}(h:(fallE e i).q=p::l):({ fallE e i with fs:=(fallE e i).fs+1,q:=l }:En)=fallE e (i+1):=by
 have h2:l=e.q.drop (i+1):=by
  have h3:=congrArg (List.drop 1) h;simp only[fallE,List.drop_drop]at h3;rw[show i+1=1+i by omega]at*;simpa[Nat.add_comm]using h3.symm
 simp only[fallE,h2,Nat.add_assoc]
end
theorem infoNt:(Try.prog.info? 36).map (fun i=>(i.zero,i.size,i.bytes))=some (some (.agg #[.int .i64 0,.slice none 0 0,.slice none 0 0,.slice none 0 0]),4,80):=by kernel_rfl
section
variable {T:Nat->Prop} {w:World} {e e1:En} {ao ao1:Option Addr} {m cap m1 cap1 b nb pb:Nat} {n pl:NoteD} {a0:Option Addr} {l0 c0:Nat} {a1:Option Addr} {l1 c1:Nat} {a2:Option Addr} {l2 c2:Nat} {W W':World} {u0:Option Addr} {v0 d0:Nat} {u1:Option Addr} {v1 d1:Nat} {u2:Option Addr} {v2 d2:Nat}
theorem TkR.setp{x0 x1 x2 x3:Value}(h:TkR T w e ao m cap b nb n a0 l0 c0 a1 l1 c1 a2 l2 c2 W)(hp:W.heap[pb]?=some (.cells #[x0,x1,x2,x3] 36 (0,0)))(h1:b+1+1<=pb)(h2:nb≠pb)(y0 y1 y2 y3:Value):TkR T w e ao m cap b nb n a0 l0 c0 a1 l1 c1 a2 l2 c2 (set4 W pb y0 y1 y2 y3):=by
 have ho:∀j,j≠pb->(set4 W pb y0 y1 y2 y3).heap[j]?=W.heap[j]?:=fun j hj=>by rw[set1_other hj,set1_other hj,set1_other hj,set1_other hj]
 have p0:=four_set0 (v:=y0) hp;have p1:=four_set1 (v:=y1) p0;have p2:=four_set2 (v:=y2) p1;exact { h with lk:=(ho _ (by omega)).trans h.lk,rs:=(ho _ (by omega)).trans h.rs,nt:=(ho _ h2).trans h.nt,own:=(((h.own.setT hp (by decide) (by decide) (by decide)).setT p0 (by decide) (by decide) (by decide)).setT p1 (by decide) (by decide) (by decide)).setT p2 (by decide) (by decide) (by decide),bel:=set4_below h.bel (by have:=h.hb;omega) _ _ _ _,tx:=h.tx.keep (fun g _ hg hgo=>⟨hg,(ho g (by have:=h.low g hg;have:=h.hb;omega)).trans hgo⟩) }
structure PyR (b nb pb:Nat) (pl:NoteD) (u0:Option Addr) (v0 d0:Nat) (u1:Option Addr) (v1 d1:Nat) (u2:Option Addr) (v2 d2:Nat) (W:World):Prop where
 ge:b+1+1<=pb
 ne:nb≠pb
 bx:W.heap[pb]?=some (.cells #[.int .i64 pl.kind,.slice u0 v0 d0,.slice u1 v1 d1,.slice u2 v2 d2] 36 (0,0))
 own:NoteOwn W (pb+1) (.agg #[.int .i64 pl.kind,.slice u0 v0 d0,.slice u1 v1 d1,.slice u2 v2 d2]) pl
theorem PyR.sb(h:PyR b nb pb pl u0 v0 d0 u1 v1 d1 u2 v2 d2 W)(i:Nat)(v:Value):PyR b nb pb pl u0 v0 d0 u1 v1 d1 u2 v2 d2 (W.setCell ⟨b,i,none⟩ v):=
 { h with bx:=(set1_other (by have:=h.ge;omega) _).trans h.bx,own:=h.own.set (by have:=h.ge;omega) }
theorem PyR.below(h:PyR b nb pb pl u0 v0 d0 u1 v1 d1 u2 v2 d2 W)(hb:Below W.heap.size W W'):PyR b nb pb pl u0 v0 d0 u1 v1 d1 u2 v2 d2 W':=
 { h with bx:=(hb.block _ (lt_of_block h.bx)).trans h.bx,own:=h.own.below hb }
theorem TkR.fin2{l:List UInt8}{e0:En}{ns:List NoteD}{ps:List (List UInt8)}{an:Bool}{g0:Option Addr}{gl gc:Nat}{p0:Option Addr}{pl pc:Nat}(h:TkR T w e ao m cap b nb n a0 l0 c0 a1 l1 c1 a2 l2 c2 W)(ht:takeE e0 l=(e,ns,ps,an))(hn:NtR W (b+1+1) (.slice g0 gl gc) ns)(hp:OneT W w.heap.size (.slice p0 pl pc) ps):
 RTakE T w e0 l (.returned (.tuple #[rvE e (.slice ao m cap),.slice g0 gl gc,.slice p0 pl pc,.bool an])) (set5 W (b+1) (.int .i64 e.ep) (.int .i64 e.ot) (.int .i64 e.fs) (.int .i64 e.wt) (.slice ao m cap)):=by
 unfold RTakE;rw[ht];refine⟨_,_,_,_,_,_,_,rfl,h.tx.keep (fun g cur hg ho=>⟨.inl hg,?_⟩),(hn.keep (fun k o hk ho=>(set5_other (by omega) _ _ _ _ _).trans ho)).base (by have:=h.hb;omega),?_,set5_below h.bel (by have:=h.hb;omega) _ _ _ _ _⟩
 . exact(set5_other (fun e=>by
    have hlt:=h.low g hg;have:=h.hb;omega) _ _ _ _ _).trans ho
 . rcases hp with hp|⟨g,t,h1,h2,h3,h4⟩
   . exact .inl hp
   . refine .inr ⟨g,t,h1,h2,h3,(set5_other (fun e=>?_) _ _ _ _ _).trans h4⟩;rw[e,h.rs]at h4;simp only[Option.some.injEq,Obj.cells.injEq]at h4;exact absurd h4.2.1 (by decide)
end
section
variable {T:Nat->Prop} {w:World} {e:En} {ao:Option Addr} {m cap b nb:Nat} {n:NoteD} {a0:Option Addr} {l0 c0:Nat} {a1:Option Addr} {l1 c1:Nat} {a2:Option Addr} {l2 c2:Nat} {W:World}
theorem TkR.want(h:TkR T w e ao m cap b nb n a0 l0 c0 a1 l1 c1 a2 l2 c2 W):TkR T w { e with wt:=e.wt+1 } ao m cap b nb n a0 l0 c0 a1 l1 c1 a2 l2 c2 (W.setCell ⟨b,3,none⟩ (.int .i64 ((e.wt:Int)+1))):=by
 have ho:∀j,j≠b->(W.setCell ⟨b,3,none⟩ (.int .i64 ((e.wt:Int)+1))).heap[j]?=W.heap[j]?:=fun j hj=>by rw[set1_other hj]
 have hs:(W.setCell ⟨b,3,none⟩ (.int .i64 ((e.wt:Int)+1))).heap[b]?=some (.cells #[.int .i64 e.ep,.int .i64 e.ot,.int .i64 e.fs,.int .i64 ((e.wt+1:Nat):Int),.slice ao m cap] 29 (0,0)):=by
  have h1:=h.lk;simp[World.setCell,Array.getElem?_modify,h1]
 exact h.turn (e1:={ e with wt:=e.wt+1 }) hs ho (h.bel.setCell (p:=⟨b,3,none⟩) (by have:=h.hb;simp;omega) _) (h.txk ho)
end
end Go.Proofs.Ytjoddkeamboeoaa
