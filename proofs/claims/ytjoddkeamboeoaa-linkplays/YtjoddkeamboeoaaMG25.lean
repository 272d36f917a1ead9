/- EHeard, EHear2, WPacks. -/
import Derived.Test.YtjoddkeamboeoaaMG18
import Derived.Test.YtjoddkeamboeoaaMG23
import Derived.Test.YtjoddkeamboeoaaMG24
import Derived.BigRegion
set_option maxRecDepth 100000
namespace Go.Proofs.Ytjoddkeamboeoaa
open Go.RowKit
theorem nine_cells{w:World}{b:Nat}{c0 c1 c2 c3 c4 c5 c6 c7 c8:Value}{t:TypeId}(h:w.heap[b]?=some (.cells #[c0,c1,c2,c3,c4,c5,c6,c7,c8] t (0,0))):
 (w.cell? ⟨b,0,none⟩=some c0/\w.cell? ⟨b,1,none⟩=some c1/\w.cell? ⟨b,2,none⟩=some c2/\w.cell? ⟨b,3,none⟩=some c3/\w.cell? ⟨b,4,none⟩=some c4/\w.cell? ⟨b,5,none⟩=some c5/\w.cell? ⟨b,6,none⟩=some c6/\w.cell? ⟨b,7,none⟩=some c7/\w.cell? ⟨b,8,none⟩=some c8)/\
 (w.frozen? ⟨b,0,none⟩=false/\w.frozen? ⟨b,1,none⟩=false/\w.frozen? ⟨b,2,none⟩=false/\w.frozen? ⟨b,3,none⟩=false/\w.frozen? ⟨b,4,none⟩=false/\w.frozen? ⟨b,5,none⟩=false/\w.frozen? ⟨b,6,none⟩=false/\w.frozen? ⟨b,7,none⟩=false/\w.frozen? ⟨b,8,none⟩=false):=by
 simp[World.cell?,World.frozen?,h]
theorem nine_set0{w:World}{b:Nat}{c0 c1 c2 c3 c4 c5 c6 c7 c8 v:Value}{t:TypeId}(h:w.heap[b]?=some (.cells #[c0,c1,c2,c3,c4,c5,c6,c7,c8] t (0,0))):(w.setCell ⟨b,0,none⟩ v).heap[b]?=some (.cells #[v,c1,c2,c3,c4,c5,c6,c7,c8] t (0,0)):=by simp[World.setCell,Array.getElem?_modify,h]
theorem nine_set1{w:World}{b:Nat}{c0 c1 c2 c3 c4 c5 c6 c7 c8 v:Value}{t:TypeId}(h:w.heap[b]?=some (.cells #[c0,c1,c2,c3,c4,c5,c6,c7,c8] t (0,0))):(w.setCell ⟨b,1,none⟩ v).heap[b]?=some (.cells #[c0,v,c2,c3,c4,c5,c6,c7,c8] t (0,0)):=by simp[World.setCell,Array.getElem?_modify,h]
theorem nine_set2{w:World}{b:Nat}{c0 c1 c2 c3 c4 c5 c6 c7 c8 v:Value}{t:TypeId}(h:w.heap[b]?=some (.cells #[c0,c1,c2,c3,c4,c5,c6,c7,c8] t (0,0))):(w.setCell ⟨b,2,none⟩ v).heap[b]?=some (.cells #[c0,c1,v,c3,c4,c5,c6,c7,c8] t (0,0)):=by simp[World.setCell,Array.getElem?_modify,h]
theorem nine_set3{w:World}{b:Nat}{c0 c1 c2 c3 c4 c5 c6 c7 c8 v:Value}{t:TypeId}(h:w.heap[b]?=some (.cells #[c0,c1,c2,c3,c4,c5,c6,c7,c8] t (0,0))):(w.setCell ⟨b,3,none⟩ v).heap[b]?=some (.cells #[c0,c1,c2,v,c4,c5,c6,c7,c8] t (0,0)):=by simp[World.setCell,Array.getElem?_modify,h]
theorem nine_set4{w:World}{b:Nat}{c0 c1 c2 c3 c4 c5 c6 c7 c8 v:Value}{t:TypeId}(h:w.heap[b]?=some (.cells #[c0,c1,c2,c3,c4,c5,c6,c7,c8] t (0,0))):(w.setCell ⟨b,4,none⟩ v).heap[b]?=some (.cells #[c0,c1,c2,c3,v,c5,c6,c7,c8] t (0,0)):=by simp[World.setCell,Array.getElem?_modify,h]
theorem nine_set5{w:World}{b:Nat}{c0 c1 c2 c3 c4 c5 c6 c7 c8 v:Value}{t:TypeId}(h:w.heap[b]?=some (.cells #[c0,c1,c2,c3,c4,c5,c6,c7,c8] t (0,0))):(w.setCell ⟨b,5,none⟩ v).heap[b]?=some (.cells #[c0,c1,c2,c3,c4,v,c6,c7,c8] t (0,0)):=by simp[World.setCell,Array.getElem?_modify,h]
theorem nine_set6{w:World}{b:Nat}{c0 c1 c2 c3 c4 c5 c6 c7 c8 v:Value}{t:TypeId}(h:w.heap[b]?=some (.cells #[c0,c1,c2,c3,c4,c5,c6,c7,c8] t (0,0))):(w.setCell ⟨b,6,none⟩ v).heap[b]?=some (.cells #[c0,c1,c2,c3,c4,c5,v,c7,c8] t (0,0)):=by simp[World.setCell,Array.getElem?_modify,h]
theorem nine_set7{w:World}{b:Nat}{c0 c1 c2 c3 c4 c5 c6 c7 c8 v:Value}{t:TypeId}(h:w.heap[b]?=some (.cells #[c0,c1,c2,c3,c4,c5,c6,c7,c8] t (0,0))):(w.setCell ⟨b,7,none⟩ v).heap[b]?=some (.cells #[c0,c1,c2,c3,c4,c5,c6,v,c8] t (0,0)):=by simp[World.setCell,Array.getElem?_modify,h]
theorem nine_set8{w:World}{b:Nat}{c0 c1 c2 c3 c4 c5 c6 c7 c8 v:Value}{t:TypeId}(h:w.heap[b]?=some (.cells #[c0,c1,c2,c3,c4,c5,c6,c7,c8] t (0,0))):(w.setCell ⟨b,8,none⟩ v).heap[b]?=some (.cells #[c0,c1,c2,c3,c4,c5,c6,c7,v] t (0,0)):=by simp[World.setCell,Array.getElem?_modify,h]
abbrev set9(w:World)(b:Nat)(u0 u1 u2 u3 u4 u5 u6 u7 u8:Value):World:=(((((((((w.setCell ⟨b,0,none⟩ u0).setCell ⟨b,1,none⟩ u1).setCell ⟨b,2,none⟩ u2).setCell ⟨b,3,none⟩ u3).setCell ⟨b,4,none⟩ u4).setCell ⟨b,5,none⟩ u5).setCell ⟨b,6,none⟩ u6).setCell ⟨b,7,none⟩ u7).setCell ⟨b,8,none⟩ u8)
theorem set9_block{w:World}{b:Nat}{c0 c1 c2 c3 c4 c5 c6 c7 c8:Value}{t:TypeId}(h:w.heap[b]?=some (.cells #[c0,c1,c2,c3,c4,c5,c6,c7,c8] t (0,0)))(u0 u1 u2 u3 u4 u5 u6 u7 u8:Value):(set9 w b u0 u1 u2 u3 u4 u5 u6 u7 u8).heap[b]?=some (.cells #[u0,u1,u2,u3,u4,u5,u6,u7,u8] t (0,0)):=(nine_set8 (nine_set7 (nine_set6 (nine_set5 (nine_set4 (nine_set3 (nine_set2 (nine_set1 (nine_set0 h)))))))))
theorem set9_below{a w:World}{B b:Nat}(h:Below B a w)(hb:B<=b)(u0 u1 u2 u3 u4 u5 u6 u7 u8:Value):Below B a (set9 w b u0 u1 u2 u3 u4 u5 u6 u7 u8):=(((((((((h.setCell (p:=⟨b,0,none⟩) hb _).setCell (p:=⟨b,1,none⟩) hb _).setCell (p:=⟨b,2,none⟩) hb _).setCell (p:=⟨b,3,none⟩) hb _).setCell (p:=⟨b,4,none⟩) hb _).setCell (p:=⟨b,5,none⟩) hb _).setCell (p:=⟨b,6,none⟩) hb _).setCell (p:=⟨b,7,none⟩) hb _).setCell (p:=⟨b,8,none⟩) hb _)
theorem set9_own{w:World}{B b:Nat}{v:Value}{n:NoteD}(h:NoteOwn w B v n)(hb:b<B)(u0 u1 u2 u3 u4 u5 u6 u7 u8:Value):NoteOwn (set9 w b u0 u1 u2 u3 u4 u5 u6 u7 u8) B v n:=(((((((((h.set hb).set hb).set hb).set hb).set hb).set hb).set hb).set hb).set hb)
theorem set9_other{w:World}{b k:Nat}(hk:k≠b)(u0 u1 u2 u3 u4 u5 u6 u7 u8:Value):(set9 w b u0 u1 u2 u3 u4 u5 u6 u7 u8).heap[k]?=w.heap[k]?:=((zK ((((((((w.setCell ⟨b,0,none⟩ u0).setCell ⟨b,1,none⟩ u1).setCell ⟨b,2,none⟩ u2).setCell ⟨b,3,none⟩ u3).setCell ⟨b,4,none⟩ u4).setCell ⟨b,5,none⟩ u5).setCell ⟨b,6,none⟩ u6).setCell ⟨b,7,none⟩ u7) ⟨b,8,none⟩ u8 k hk).trans ((zK (((((((w.setCell ⟨b,0,none⟩ u0).setCell ⟨b,1,none⟩ u1).setCell ⟨b,2,none⟩ u2).setCell ⟨b,3,none⟩ u3).setCell ⟨b,4,none⟩ u4).setCell ⟨b,5,none⟩ u5).setCell ⟨b,6,none⟩ u6) ⟨b,7,none⟩ u7 k hk).trans ((zK ((((((w.setCell ⟨b,0,none⟩ u0).setCell ⟨b,1,none⟩ u1).setCell ⟨b,2,none⟩ u2).setCell ⟨b,3,none⟩ u3).setCell ⟨b,4,none⟩ u4).setCell ⟨b,5,none⟩ u5) ⟨b,6,none⟩ u6 k hk).trans ((zK (((((w.setCell ⟨b,0,none⟩ u0).setCell ⟨b,1,none⟩ u1).setCell ⟨b,2,none⟩ u2).setCell ⟨b,3,none⟩ u3).setCell ⟨b,4,none⟩ u4) ⟨b,5,none⟩ u5 k hk).trans ((zK ((((w.setCell ⟨b,0,none⟩ u0).setCell ⟨b,1,none⟩ u1).setCell ⟨b,2,none⟩ u2).setCell ⟨b,3,none⟩ u3) ⟨b,4,none⟩ u4 k hk).trans ((zK (((w.setCell ⟨b,0,none⟩ u0).setCell ⟨b,1,none⟩ u1).setCell ⟨b,2,none⟩ u2) ⟨b,3,none⟩ u3 k hk).trans ((zK ((w.setCell ⟨b,0,none⟩ u0).setCell ⟨b,1,none⟩ u1) ⟨b,2,none⟩ u2 k hk).trans ((zK (w.setCell ⟨b,0,none⟩ u0) ⟨b,1,none⟩ u1 k hk).trans (zK w ⟨b,0,none⟩ u0 k hk)))))))))
theorem drew_heap(w:World)(k:Nat):w.drew.heap[k]?=w.heap[k]?:=rfl
theorem set9_drew{w:World}{b k:Nat}(hk:k≠b)(u0 u1 u2 u3 u4 u5 u6 u7 u8:Value):(set9 w b u0 u1 u2 u3 u4 u5 u6 u7 u8).drew.heap[k]?=w.heap[k]?:=(drew_heap _ k).trans (set9_other hk u0 u1 u2 u3 u4 u5 u6 u7 u8)
abbrev resH(w:World):World:=w.alloc (.cells #[.int .i64 0,.int .i64 0,.int .i64 0,.bool false,.int .i64 0,.int .i64 0,.slice none 0 0,.slice none 0 0,.slice none 0 0] 86)
def HdV(l:List UInt8)(w':World)(B:Nat)(a b c:Int)(d:Bool)(f k:Int)(s0 s1 s2:Value)(ok:Bool):Prop:=
 match heardP l with
 |none=>ok=false
 |some h=>ok=true/\a=h.ep/\b=h.ot/\c=h.wt/\d=h.ca/\f=h.nr/\k=h.pl.kind/\NoteOwn w' B (.agg #[.int .i64 k,s0,s1,s2]) h.pl
def HdE(l:List UInt8)(w:World)(x:Ending)(w':World):Prop:=
 (∃a b c d f k a0 l0 c0 a1 l1 c1 a2 l2 c2 ok,x=.returned (.tuple #[.agg #[.int .i64 a,.int .i64 b,.int .i64 c,.bool d,.int .i64 f,.int .i64 k,.slice a0 l0 c0,.slice a1 l1 c1,.slice a2 l2 c2],.bool ok])/\
  HdV l w' w.heap.size a b c d f k (.slice a0 l0 c0) (.slice a1 l1 c1) (.slice a2 l2 c2) ok)/\Below w.heap.size w w'
theorem hdE_none{l:List UInt8}{w w':World}(h:heardP l=none)(hb:Below w.heap.size w w'):HdE l w (.returned (.tuple #[.agg #[.int .i64 0,.int .i64 0,.int .i64 0,.bool false,.int .i64 0,.int .i64 0,.slice none 0 0,.slice none 0 0,.slice none 0 0],.bool false])) w':=
 ⟨⟨0,0,0,false,0,0,none,0,0,none,0,0,none,0,0,false,rfl,by unfold HdV;rw[h]⟩,hb⟩
theorem hdE_some{l:List UInt8}{w w':World}{h:Hd}{a0 a1 a2:Option Addr}{l0 c0 l1 c1 l2 c2:Nat}(e:heardP l=some h)(hb:Below w.heap.size w w')(ho:NoteOwn w' w.heap.size (.agg #[.int .i64 h.pl.kind,.slice a0 l0 c0,.slice a1 l1 c1,.slice a2 l2 c2]) h.pl):
 HdE l w (.returned (.tuple #[.agg #[.int .i64 h.ep,.int .i64 h.ot,.int .i64 h.wt,.bool h.ca,.int .i64 h.nr,.int .i64 h.pl.kind,.slice a0 l0 c0,.slice a1 l1 c1,.slice a2 l2 c2],.bool true])) w':=
 ⟨⟨h.ep,h.ot,h.wt,h.ca,h.nr,h.pl.kind,a0,l0,c0,a1,l1,c1,a2,l2,c2,true,rfl,by unfold HdV;rw[e];exact⟨rfl,rfl,rfl,rfl,rfl,rfl,rfl,ho⟩⟩,hb⟩
theorem hdE_not{l:List UInt8}{w w':World}(a b c f k:Int)(d:Bool)(a0 a1 a2:Option Addr)(l0 c0 l1 c1 l2 c2:Nat)(e:heardP l=none)(hb:Below w.heap.size w w'):
 HdE l w (.returned (.tuple #[.agg #[.int .i64 a,.int .i64 b,.int .i64 c,.bool d,.int .i64 f,.int .i64 k,.slice a0 l0 c0,.slice a1 l1 c1,.slice a2 l2 c2],.bool false])) w':=
 ⟨⟨a,b,c,d,f,k,a0,l0,c0,a1,l1,c1,a2,l2,c2,false,rfl,by unfold HdV;rw[e]⟩,hb⟩
theorem hdE_drew{l:List UInt8}{w w':World}{x:Ending}(h:HdE l w x w'):HdE l w x w'.drew:=by
 obtain⟨⟨a,b,c,d,f,k,a0,l0,c0,a1,l1,c1,a2,l2,c2,ok,e,hv⟩,hb⟩:=h;refine⟨⟨a,b,c,d,f,k,a0,l0,c0,a1,l1,c1,a2,l2,c2,ok,e,?_⟩,below_drewE hb⟩;unfold HdV at hv ⊢;split at hv
 . exact hv
 . obtain⟨h1,h2,h3,h4,h5,h6,h7,h8⟩:=hv;exact⟨h1,h2,h3,h4,h5,h6,h7,h8.below (below_drewE (zB _ _))⟩
theorem resH_below{w w1:World}(h:Below (w.heap.size+1) (resH w) w1):Below w.heap.size w w1:=((zB _ _).alloc (zC _) _).trans (h.mono (by omega))
theorem resH_block{w w1:World}(h:Below (w.heap.size+1) (resH w) w1):w1.heap[w.heap.size]?=some (.cells #[.int .i64 0,.int .i64 0,.int .i64 0,.bool false,.int .i64 0,.int .i64 0,.slice none 0 0,.slice none 0 0,.slice none 0 0] 86 (0,0)):=(h.block _ (by simp)).trans (box_at w _)
theorem RowIn.cellI{w:World}{B:Nat}{ao:Option Addr}{n c:Nat}{ns:List Int}(h:RowIn w B 3 (.slice ao n c) (intCs ns))(hne:ns≠[]):∃g o,ao=some ⟨g,o,none⟩/\B<=g/\∀(j:Nat) x,ns[j]?=some x->w.cell? ⟨g,o+j,none⟩=some (.int .i64 x):=by
 rcases h with⟨ao',cap,e,h0⟩|⟨g,o,cap,cur,fz,e1,e2,e3,e4⟩
 . exact absurd (List.map_eq_nil_iff.1 h0) hne
 . injection e1 with e1;refine⟨g,o,e1,e2,fun j x hx=>?_⟩;simp only[World.cell?,e3];exact e4 j _ (by rw[intCs,zP,hx];rfl)
theorem RowIn.lenI{w:World}{B:Nat}{ao:Option Addr}{n c:Nat}{ns:List Int}(h:RowIn w B 3 (.slice ao n c) (intCs ns)):n=ns.length:=by
 rcases h with⟨ao',cap,e,h0⟩|⟨g,o,cap,cur,fz,e1,e2,e3,e4⟩
 . injection e with _ e5;rw[e5,List.map_eq_nil_iff.1 h0];rfl
 . injection e1 with e1 e5;rw[e5,intCs_len]
theorem own_len{w:World}{B m:Nat}{e:TypeId}{size:Nat}{ao:Option Addr}{n c:Nat}{xs:List Value}(h:w.ownsRow B e size (.slice ao n c) m xs):n=m:=by
 obtain⟨_,_,e⟩:=own_slice h;injection e
theorem own_read{w:World}{B:Nat}{a0 a1 a2:Option Addr}{l0 c0 l1 c1 l2 c2:Nat}{n:NoteD}(h:NoteOwn w B (.agg #[.int .i64 n.kind,.slice a0 l0 c0,.slice a1 l1 c1,.slice a2 l2 c2]) n):
 l0=n.nums.length/\l1=n.texts.length/\l2=n.rows.length/\(n.nums≠[]->∃g o,a0=some ⟨g,o,none⟩/\B<=g/\∀(j:Nat) x,n.nums[j]?=some x->w.cell? ⟨g,o+j,none⟩=some (.int .i64 x))/\
 (n.texts≠[]->∃g o,a1=some ⟨g,o,none⟩/\∀(j:Nat) t,n.texts[j]?=some t->w.cell? ⟨g,o+j,none⟩=some (.string ⟨t.toArray⟩)):=by
 obtain⟨vn,vt,vr,e,h1,h2,⟨vs,h3,h4,_⟩,_,hb2,_⟩:=h;simp only[Value.agg.injEq,Array.mk.injEq,List.cons.injEq,and_true,true_and]at e;obtain⟨rfl,rfl,rfl⟩:=e;refine⟨h1.lenI,own_len h2,own_len h3,fun hn=>?_,fun ht=>?_⟩
 . exact h1.cellI hn
 . obtain⟨_,ao,cap,e,h5⟩:=strsAt_own (ss:=n.texts) h2 (by omega);injection e with e;subst e;rcases h5 with h5|⟨g,o,rfl,_,h5⟩
   . exact absurd h5 ht
   . exact⟨g,o,rfl,h5⟩
theorem heardN_rows{n:NoteD}(h:n.rows.length≠0):heardN n=none:=by rw[heardN,if_pos h]
theorem heardN_kind{n:NoteD}(h1:n.kind≠1)(h2:n.kind≠2):heardN n=none:=by
 unfold heardN;split
 . rfl
 . rfl
theorem heardN_one{n:NoteD}(h1:n.kind=1)(h:¬(n.nums.length=4/\n.texts.length=1)):heardN n=none:=by
 unfold heardN;split
 . rfl
 . split
   . rename_i h2 h3;exact absurd ⟨by rw[h2];rfl,by rw[h3];rfl⟩ h
   . rfl
theorem heardN_two{n:NoteD}(h1:n.kind=2)(h:¬(n.nums.length=3/\n.texts.length=0)):heardN n=none:=by
 unfold heardN;split
 . rfl
 . rw[if_neg (by omega)];split
   . rename_i h2 h3;exact absurd ⟨by rw[h2];rfl,by rw[h3];rfl⟩ h
   . rfl
theorem len_four{l:List Int}(h:l.length=4):∃a b c d,l=[a,b,c,d]:=by
 match l,h with
 |[a,b,c,d],_=>exact⟨a,b,c,d,rfl⟩
theorem len_three{l:List Int}(h:l.length=3):∃a b c,l=[a,b,c]:=by
 match l,h with
 |[a,b,c],_=>exact⟨a,b,c,rfl⟩
theorem len_one{α:Type}{l:List α}(h:l.length=1):∃a,l=[a]:=by
 match l,h with
 |[a],_=>exact⟨a,rfl⟩
set_option maxHeartbeats 1000000 in
theorem heard_two(l:List UInt8)(w:World)(hl:l.length<=140737488351232)(hC:(onlyP l).2=true/\(onlyP l).1.rows.length=0/\(onlyP l).1.kind=2/\(onlyP l).1.nums.length=3/\(onlyP l).1.texts.length=0):Calls Try.prog 39 #[.string ⟨l.toArray⟩] w (HdE l w):=by
 have C:Hid (Calls Try.prog 54 #[.string ⟨l.toArray⟩] (resH w) (OnE l (resH w))):=zA (only_any l (resH w) hl);unfold OnE at C;obtain⟨n,hn⟩:∃n,(onlyP l).1=n:=⟨_,rfl⟩
 obtain⟨ok,hok⟩:∃k,(onlyP l).2=k:=⟨_,rfl⟩
 have HC:=zA hC;rw[hn,hok]at HC;clear hC;rw[hn,hok]at C;obtain rfl:=HC.out.1;have HMAY:Hid n.may:=zA (by rw[<- hn];exact(onlyP_ok hok).1);have HN:=zA hn;have HOK:=zA hok;clear hn hok hl;have HRN:Hid ((resH w).heap.size=w.heap.size+1):=zA (by simp);go_enter Try.func39,Try.ntmps39;go_wp2_with fail;refine C.out.mono ?_;clear C;rintro x w1 ⟨v,rfl,hown,hb⟩;obtain⟨a0,l0,c0,a1,l1,c1,a2,l2,c2,rfl⟩:=own_parts hown;rw[HRN.out]at hown hb;have hb2:Below (w.heap.size+1) (resH w) (w1.alloc (.cells #[.int .i64 n.kind,.slice a0 l0 c0,.slice a1 l1 c1,.slice a2 l2 c2] 36)):=hb.alloc (zS (by rw[HRN.out];exact zC _) hb.size) _;have hown2:=hown.below ((zB w1.heap.size w1).alloc (zC _) (.cells #[.int .i64 n.kind,.slice a0 l0 c0,.slice a1 l1 c1,.slice a2 l2 c2] 36));obtain⟨e0,e1,e2,hrn,hrt⟩:=own_read hown2;have hbx:=box_at w1 (.cells #[.int .i64 n.kind,.slice a0 l0 c0,.slice a1 l1 c1,.slice a2 l2 c2] 36);have HE0:=zA e0;have HE1:=zA e1;have HE2:=zA e2;have HRNM:=zA hrn;have HRTX:=zA hrt;have HB2:=zA hb2;have HOWN:=zA hown2;have HB1:=zA hb;obtain⟨⟨q0,q1,q2,q3⟩,-⟩:=four_cells hbx;have HBX:=zA hbx;obtain⟨⟨r0,r1,r2,r3,r4,r5,r6,r7,r8⟩,⟨f0,f1,f2,f3,f4,f5,f6,f7,f8⟩⟩:=nine_cells (resH_block hb2);have HD:Hid (heardP l=none->HdE l w (.returned (.tuple #[.agg #[.int .i64 0,.int .i64 0,.int .i64 0,.bool false,.int .i64 0,.int .i64 0,.slice none 0 0,.slice none 0 0,.slice none 0 0],.bool false])) (set9 (w1.alloc (.cells #[.int .i64 n.kind,.slice a0 l0 c0,.slice a1 l1 c1,.slice a2 l2 c2] 36)) w.heap.size (.int .i64 0) (.int .i64 0) (.int .i64 0) (.bool false) (.int .i64 0) (.int .i64 0) (.slice none 0 0) (.slice none 0 0) (.slice none 0 0))):=zA (fun h=>hdE_none h (set9_below (resH_below HB2.out) (zC _) _ _ _ _ _ _ _ _ _));clear hown hb hb2 hown2 e0 e1 e2 hrn hrt hbx;clear HMAY;obtain rfl:l2=0:=HE2.out.trans HC.out.2.1;obtain rfl:l0=3:=HE0.out.trans HC.out.2.2.2.1;obtain rfl:l1=0:=HE1.out.trans HC.out.2.2.2.2;have hk1b:(n.kind==1)=false:=by simp;rw[HC.out.2.2.1];decide
 have hk2b:(n.kind==2)=true:=by simp;exact HC.out.2.2.1
 have HKD:=zA HC.out.2.2.1;clear HC;obtain⟨x0,x1,x2,hnm⟩:=len_three HE0.out.symm;obtain⟨g,o,rfl,hBg,hc⟩:=HRNM.out (by rw[hnm];simp);have u0:=hc 0 x0 (by rw[hnm];rfl);have u1:=hc 1 x1 (by rw[hnm];rfl);have u2:=hc 2 x2 (by rw[hnm];rfl);rw[yA]at u0;have HHP:Hid (heardP l=some ⟨x0,x1,x2,false,0,.none⟩):=zA (by rw[heardP,HOK.out,HN.out,if_pos rfl,heardN,if_neg (by simp[<- HE2.out]),if_neg (by rw[HKD.out];decide),if_pos HKD.out,hnm,zU.1 HE1.out.symm]);have HE:Hid (HdE l w (.returned (.tuple #[.agg #[.int .i64 x0,.int .i64 x1,.int .i64 x2,.bool false,.int .i64 0,.int .i64 0,.slice none 0 0,.slice none 0 0,.slice none 0 0],.bool true])) (set9 (w1.alloc (.cells #[.int .i64 n.kind,.slice (some ⟨g,o,none⟩) 3 c0,.slice a1 0 c1,.slice a2 0 c2] 36)) w.heap.size (.int .i64 x0) (.int .i64 x1) (.int .i64 x2) (.bool false) (.int .i64 0) (.int .i64 0) (.slice none 0 0) (.slice none 0 0) (.slice none 0 0))):=zA (hdE_some (h:=⟨x0,x1,x2,false,0,.none⟩) HHP.out (set9_below (resH_below HB2.out) (zC _) _ _ _ _ _ _ _ _ _) (zeroN_own _ _));clear hc hnm HD;obtain⟨⟨z0,z1,z2,z3,z4,z5,z6,z7,z8⟩,-⟩:=nine_cells (set9_block (resH_block HB2.out) (.int .i64 x0) (.int .i64 x1) (.int .i64 x2) (.bool false) (.int .i64 0) (.int .i64 0) (.slice none 0 0) (.slice none 0 0) (.slice none 0 0));have Z0:=zA z0;have Z1:=zA z1;have Z2:=zA z2;have Z3:=zA z3;have Z4:=zA z4;have Z5:=zA z5;have Z6:=zA z6;have Z7:=zA z7;have Z8:=zA z8;clear z0 z1 z2 z3 z4 z5 z6 z7 z8;go_wp2_with fail;go_region;go_wp2;refine bodyPost_ret (v:=.tuple #[.agg #[.int .i64 x0,.int .i64 x1,.int .i64 x2,.bool false,.int .i64 0,.int .i64 0,.slice none 0 0,.slice none 0 0,.slice none 0 0],.bool true]) ?_ rfl (hdE_drew HE.out);simp[results,Try.results39,go_sem,Z0.out,Z1.out,Z2.out,Z3.out,Z4.out,Z5.out,Z6.out,Z7.out,Z8.out]
theorem and_255(n:Int):bits .and .i64 n 255=n%256:=by
 have key:(BitVec.ofInt 64 n &&& BitVec.ofInt 64 255).toNat=(n%((2^64:Nat):Int)).toNat%2^8:=by
  rw[BitVec.toNat_and,BitVec.toNat_ofInt,show (BitVec.ofInt 64 255).toNat=2^8-1 from by decide,Nat.and_two_pow_sub_one_eq_mod]
 show IntKind.i64.wrap ((BitVec.ofInt 64 n &&& BitVec.ofInt 64 255).toNat:Nat)=n%256;rw[key,IntKind.wrap_i64];omega
theorem rfour_conv(n:Nat)(w:World):
 (convert 104 9 (.slice (some ⟨w.heap.size,0,none⟩) 4 4)).run Try.prog (w.alloc (.cells #[.int .u8 ((n:Int)/16777216%256),.int .u8 ((n:Int)/65536%256),.int .u8 ((n:Int)/256%256),.int .u8 ((n:Int)%256)] 5))
  =.ok (.string ⟨(fourB n).toArray⟩) (w.alloc (.cells #[.int .u8 ((n:Int)/16777216%256),.int .u8 ((n:Int)/65536%256),.int .u8 ((n:Int)/256%256),.int .u8 ((n:Int)%256)] 5)):=by
 refine run_convert_bytes_back (P:=Try.prog) _ 104 9 5 ⟨w.heap.size,0,none⟩ 4 (fourB n) Try.underlying104 Try.underlying5 Try.underlying9 (fun j hj=>?_);rw[show (⟨w.heap.size,0,none⟩:Addr).add j=⟨w.heap.size,j,none⟩from by cases j<;>simp[Addr.add],World.cell?_alloc_at _ _ _ _ rfl];have hj4:j<4:=hj
 match j,hj4 with
 |0,_=>simp[fourB]
 |1,_=>simp[fourB]
 |2,_=>simp[fourB]
 |3,_=>simp[fourB]
set_option maxHeartbeats 1000000 in
theorem rFour_any(n:Nat)(w:World)(_:n<4294967296):
 Calls Try.prog 52 #[.int .i64 n] w fun e w'=>e=.returned (.string ⟨(fourB n).toArray⟩)/\Below w.heap.size w w':=by
 have hcv:=rfour_conv n w;have b3:bits .and .i64 ((n:Int)/16777216) 255=(n:Int)/16777216%256:=and_255 _;have b2:bits .and .i64 ((n:Int)/65536) 255=(n:Int)/65536%256:=and_255 _;have b1:bits .and .i64 ((n:Int)/256) 255=(n:Int)/256%256:=and_255 _;have b0:bits .and .i64 (n:Int) 255=(n:Int)%256:=and_255 _;go_enter Try.func52,Try.ntmps52;go_wp2;go_ret;exact⟨rfl,(zB _ _).alloc (zC _) _⟩
theorem rBody_may{v:Value}{n:NoteD}{w:World}(h:NoteAt w v n)(hm:n.may):
 Calls Try.prog 51 #[v] w fun e w'=>e=.returned (.tuple #[.string ⟨n.body.toArray⟩,.bool true])/\Below w.heap.size w w':=
 (rBody_any v n w h).mono fun e w' ⟨h1,h2⟩=>⟨by rcases h1 with⟨_,h1⟩|⟨h1,_⟩;exact h1;exact absurd hm h1,h2⟩
theorem rBody_not{v:Value}{n:NoteD}{w:World}(h:NoteAt w v n)(hm:¬n.may):
 Calls Try.prog 51 #[v] w fun e w'=>(∃s,e=.returned (.tuple #[.string s,.bool false]))/\Below w.heap.size w w':=
 (rBody_any v n w h).mono fun e w' ⟨h1,h2⟩=>⟨by rcases h1 with⟨h1,_⟩|⟨_,h1⟩;exact absurd h1 hm;exact h1,h2⟩
set_option maxHeartbeats 1000000 in
theorem rPack_any(v:Value)(n:NoteD)(w:World)(h:NoteAt w v n):
 Calls Try.prog 36 #[v] w fun e w'=>e=.returned (packV n)/\Below w.heap.size w w':=by
 have hN:=h;obtain⟨vn,vt,vr,rfl,hn,ht,hr⟩:=h;have hbb:Below w.heap.size w (w.alloc (.cells #[.int .i64 n.kind,vn,vt,vr] 36)):=(zB _ _).alloc (zC _) _;have N0:=zA (hN.below hbb);clear hN hn ht hr;have HBB:=zA hbb;clear hbb;by_cases hm:n.may
 . have C:=zA (rBody_may N0.out hm);have HP:=zA (packV_may hm);have hbl:=hm.2.2;have HJ:=zA (seal_join n.body);have HSUM:=fun w=>rSum_any ⟨n.body.toArray⟩ w (by rw[size_list];omega)
   rw[data_list]at HSUM;have HSUM:=zA HSUM;have hsl:=sumN_lt n.body;have hsz:=size_list n.body;clear hm;obtain⟨X,hX⟩:∃X,X=sumN n.body:=⟨_,rfl⟩
   rw[<- hX]at HSUM hsl HJ;clear hX;go_enter Try.func36,Try.ntmps36;go_wp2_with fail;refine C.out.mono ?_;rintro e w1 ⟨rfl,hb1⟩;have B1:=zA (HBB.out.trans (hb1.mono (by simp)));clear hb1;go_wp2_with fail;refine(rFour_any _ _ (by omega)).mono ?_;rintro e w2 ⟨rfl,hb2⟩;have B2:=zA (B1.out.trans (hb2.mono B1.out.size));clear hb2;go_wp2_with fail;refine(HSUM.out _).mono ?_;rintro e w3 ⟨rfl,hw3⟩;subst hw3;go_wp2_with fail;refine(rFour_any _ _ hsl).mono ?_;rintro e w4 ⟨rfl,hb4⟩;have B4:=zA (B2.out.trans (hb4.mono B2.out.size));clear hb4;have q1:=fourB_len n.body.length;have q2:=fourB_len X;go_wp2;go_ret2;exact⟨by rw[HP.out,<- HJ.out];rfl,B4.out⟩
 . have C:=zA (rBody_not N0.out hm);have HP:=zA (packV_not hm);go_enter Try.func36,Try.ntmps36;go_wp2_with fail;refine C.out.mono ?_;rintro e w1 ⟨⟨s,rfl⟩,hb1⟩;have B1:=zA (HBB.out.trans (hb1.mono (by simp)));clear hb1;go_wp2;go_ret2;exact⟨by rw[HP.out];rfl,B1.out⟩
end Go.Proofs.Ytjoddkeamboeoaa
