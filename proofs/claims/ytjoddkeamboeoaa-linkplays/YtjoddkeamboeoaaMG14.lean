/- WReadI. -/
import Derived.Test.YtjoddkeamboeoaaMG13
set_option maxRecDepth 100000
namespace Go.Proofs.Ytjoddkeamboeoaa
open Go.RowKit
abbrev zeroN:Value:=.agg #[.int .i64 0,.slice none 0 0,.slice none 0 0,.slice none 0 0]
def RowsOwn(w:World)(B:Nat)(v:Value)(rs:List (List (List UInt8))):Prop:=
 ∃vs,w.ownsRow B 27 1 v rs.length vs/\vs.length=rs.length/\∀(j:Nat) x r,vs[j]?=some x->rs[j]?=some r->w.ownsRow B 9 1 x r.length (strCs r)
structure NInv (b:Nat) (w0 w:World) (s:St) (kind:Int) (vn vt vr:Value) (nums:List Int) (texts:List (List UInt8)) (rows:List (List (List UInt8))):Prop where
 r:RInv b w s
 res:w.heap[b+1]?=some (.cells #[.int .i64 0,.slice none 0 0,.slice none 0 0,.slice none 0 0] 36 (0,0))
 nb:w.heap[b+2]?=some (.cells #[.int .i64 kind,vn,vt,vr] 36 (0,0))
 on:w.ownsRow (b+6) 3 1 vn nums.length (intCs nums)
 ot:w.ownsRow (b+6) 9 1 vt texts.length (strCs texts)
 orr:RowsOwn w (b+6) vr rows
 bel:Below b w0 w
section
variable {b:Nat} {w0 w w':World} {s s':St} {kind:Int} {vn vt vr:Value} {nums:List Int} {texts:List (List UInt8)} {rows:List (List (List UInt8))}
theorem four_cells{w:World}{b:Nat}{c0 c1 c2 c3:Value}{t:TypeId}(h:w.heap[b]?=some (.cells #[c0,c1,c2,c3] t (0,0))):
 (w.cell? ⟨b,0,none⟩=some c0/\w.cell? ⟨b,1,none⟩=some c1/\w.cell? ⟨b,2,none⟩=some c2/\w.cell? ⟨b,3,none⟩=some c3)/\
 (w.frozen? ⟨b,0,none⟩=false/\w.frozen? ⟨b,1,none⟩=false/\w.frozen? ⟨b,2,none⟩=false/\w.frozen? ⟨b,3,none⟩=false):=by
 simp[World.cell?,World.frozen?,h]
theorem four_set0{w:World}{b:Nat}{c0 c1 c2 c3 v:Value}{t:TypeId}(h:w.heap[b]?=some (.cells #[c0,c1,c2,c3] t (0,0))):(w.setCell ⟨b,0,none⟩ v).heap[b]?=some (.cells #[v,c1,c2,c3] t (0,0)):=by
 simp[World.setCell,Array.getElem?_modify,h]
theorem four_set1{w:World}{b:Nat}{c0 c1 c2 c3 v:Value}{t:TypeId}(h:w.heap[b]?=some (.cells #[c0,c1,c2,c3] t (0,0))):(w.setCell ⟨b,1,none⟩ v).heap[b]?=some (.cells #[c0,v,c2,c3] t (0,0)):=by
 simp[World.setCell,Array.getElem?_modify,h]
theorem four_set2{w:World}{b:Nat}{c0 c1 c2 c3 v:Value}{t:TypeId}(h:w.heap[b]?=some (.cells #[c0,c1,c2,c3] t (0,0))):(w.setCell ⟨b,2,none⟩ v).heap[b]?=some (.cells #[c0,c1,v,c3] t (0,0)):=by
 simp[World.setCell,Array.getElem?_modify,h]
theorem four_set3{w:World}{b:Nat}{c0 c1 c2 c3 v:Value}{t:TypeId}(h:w.heap[b]?=some (.cells #[c0,c1,c2,c3] t (0,0))):(w.setCell ⟨b,3,none⟩ v).heap[b]?=some (.cells #[c0,c1,c2,v] t (0,0)):=by
 simp[World.setCell,Array.getElem?_modify,h]
theorem owns_set{w:World}{B k i n:Nat}{e:TypeId}{size:Nat}{v u:Value}{xs:List Value}(h:w.ownsRow B e size v n xs)(hk:k<B):(w.setCell ⟨k,i,none⟩ u).ownsRow B e size v n xs:=by
 refine⟨h.1,?_⟩;rcases h.2 with h0|⟨g,cap,cur,e1,e2,e3,e4⟩
 . exact .inl h0
 . exact .inr ⟨g,cap,cur,e1,e2,(zK w ⟨k,i,none⟩ u g (by simp only;omega)).trans e3,e4⟩
theorem rowsOwn_set{w:World}{B k i:Nat}{v u:Value}{rs:List (List (List UInt8))}(h:RowsOwn w B v rs)(hk:k<B):RowsOwn (w.setCell ⟨k,i,none⟩ u) B v rs:=by
 obtain⟨vs,h1,h2,h3⟩:=h;exact⟨vs,owns_set h1 hk,h2,fun j x r hx hr=>owns_set (h3 j x r hx hr) hk⟩
theorem rInv_set(h:RInv b w s)(i:Nat)(v:Value):RInv b (w.setCell ⟨b+2,i,none⟩ v) s:=by
 have key:∀k o,w.heap[k]?=some o->k≠b+2->(w.setCell ⟨b+2,i,none⟩ v).heap[k]?=some o:=fun k o h1 h2=>(zK w ⟨b+2,i,none⟩ v k h2).trans h1
 exact⟨key _ _ h.body (by omega),key _ _ h.whole (by omega),key _ _ h.take (by omega),key _ _ h.num (by omega),h.len⟩
theorem NInv.side(h:NInv b w0 w s kind vn vt vr nums texts rows)(hr:RInv b w' s')(hs:Side b (b+3) w w'):NInv b w0 w' s' kind vn vt vr nums texts rows:=by
 obtain⟨h1,h2,h3,h4,h5,⟨vs,h6,h7,h8⟩,h9⟩:=h;exact⟨hr,(hs.block _ (lt_of_block h2) (by omega) (by omega)).trans h2,(hs.block _ (lt_of_block h3) (by omega) (by omega)).trans h3,hs.owns h4 (by omega) (by omega),hs.owns h5 (by omega) (by omega),
  ⟨vs,hs.owns h6 (by omega) (by omega),h7,fun j x r hx hr=>hs.owns (h8 j x r hx hr) (by omega) (by omega)⟩,hs.below h9 (by omega) (by omega) (by have:=lt_of_block h1.num;omega)⟩
theorem NInv.below(h:NInv b w0 w s kind vn vt vr nums texts rows)(hb:Below w.heap.size w w'):NInv b w0 w' s kind vn vt vr nums texts rows:=
 h.side (h.r.below hb) (Side.of_below hb)
theorem NInv.drew(h:NInv b w0 w s kind vn vt vr nums texts rows):NInv b w0 w.drew s kind vn vt vr nums texts rows:=h.below (zB _ _).drew
theorem NInv.setKind(h:NInv b w0 w s kind vn vt vr nums texts rows)(k:Int):NInv b w0 (w.setCell ⟨b+2,0,none⟩ (.int .i64 k)) s k vn vt vr nums texts rows:=by
 obtain⟨h1,h2,h3,h4,h5,h6,h9⟩:=h;exact⟨rInv_set h1 _ _,(zK w ⟨b+2,0,none⟩ _ _ (by simp only;omega)).trans h2,four_set0 h3,owns_set h4 (by omega),owns_set h5 (by omega),rowsOwn_set h6 (by omega),h9.setCell (by simp only;omega) _⟩
theorem NInv.setTexts(h:NInv b w0 w s kind vn vt vr nums texts rows){v:Value}{ts:List (List UInt8)}(hv:w.ownsRow (b+6) 9 1 v ts.length (strCs ts)):NInv b w0 (w.setCell ⟨b+2,2,none⟩ v) s kind vn v vr nums ts rows:=by
 obtain⟨h1,h2,h3,h4,h5,h6,h9⟩:=h;exact⟨rInv_set h1 _ _,(zK w ⟨b+2,2,none⟩ _ _ (by simp only;omega)).trans h2,four_set2 h3,owns_set h4 (by omega),owns_set hv (by omega),rowsOwn_set h6 (by omega),h9.setCell (by simp only;omega) _⟩
theorem own_ge{w:World}{B n g:Nat}{e:TypeId}{size:Nat}{v:Value}{xs:List Value}(h:w.ownsRow B e size v n xs)(hg:v.ownBlock=some g):B<=g:=by
 rcases h.2 with⟨rfl,_⟩|⟨g',cap,cur,rfl,e2,_⟩
 . simp[Value.ownBlock]at hg
 . simp[Value.ownBlock]at hg;omega
theorem owns_other{w w':World}{B B' n n':Nat}{e e':TypeId}{size size':Nat}{v u:Value}{xs ys:List Value}(h:w.ownsRow B e size v n xs)(hu:w.ownsRow B' e' size' u n' ys)(hg:w.grownBy w' u.ownBlock)(hne:e≠e'):w'.ownsRow B e size v n xs:=by
 refine⟨h.1,?_⟩;rcases h.2 with h0|⟨g,cap,cur,e1,e2,e3,e4⟩
 . exact .inl h0
 . refine .inr ⟨g,cap,cur,e1,e2,(hg.block g (lt_of_block e3) ?_).trans e3,e4⟩;rcases hu.2 with⟨rfl,_⟩|⟨g',cap',cur',rfl,f2,f3,f4⟩
   . simp[Value.ownBlock]
   . simp only[Value.ownBlock,ne_eq,Option.some.injEq];intro hgg;subst hgg;rw[e3]at f3;simp only[Option.some.injEq,Obj.cells.injEq]at f3;exact hne f3.2.1
theorem grown_low{w w':World}{B n k:Nat}{e:TypeId}{size:Nat}{u:Value}{ys:List Value}{o:Obj}(hu:w.ownsRow B e size u n ys)(hg:w.grownBy w' u.ownBlock)(hk:k<B)(ho:w.heap[k]?=some o):w'.heap[k]?=some o:=
 (hg.block k (lt_of_block ho) (fun h=>by have:=own_ge hu h.symm;omega)).trans ho
theorem NInv.grownNums(h:NInv b w0 w s kind vn vt vr nums texts rows)(hg:w.grownBy w' vn.ownBlock):
 RInv b w' s/\w'.heap[b+1]?=some (.cells #[.int .i64 0,.slice none 0 0,.slice none 0 0,.slice none 0 0] 36 (0,0))/\w'.heap[b+2]?=some (.cells #[.int .i64 kind,vn,vt,vr] 36 (0,0))/\
 w'.ownsRow (b+6) 9 1 vt texts.length (strCs texts)/\RowsOwn w' (b+6) vr rows/\Below b w0 w':=by
 obtain⟨h1,h2,h3,h4,h5,⟨vs,h6,h7,h8⟩,h9⟩:=h;have low:∀ {k o},k<b+6->w.heap[k]?=some o->w'.heap[k]?=some o:=fun hk ho=>grown_low h4 hg hk ho
 exact⟨⟨low (by omega) h1.body,low (by omega) h1.whole,low (by omega) h1.take,low (by omega) h1.num,h1.len⟩,low (by omega) h2,low (by omega) h3,
  owns_other h5 h4 hg (by decide),⟨vs,owns_other h6 h4 hg (by decide),h7,fun j x r hx hr=>owns_other (h8 j x r hx hr) h4 hg (by decide)⟩,
  h9.grown hg (by have:=lt_of_block h1.num;omega) (fun k hk=>by have:=own_ge h4 hk;omega)⟩
theorem NInv.grownRows(h:NInv b w0 w s kind vn vt vr nums texts rows){vs:List Value}(h6:w.ownsRow (b+6) 27 1 vr rows.length vs)(hg:w.grownBy w' vr.ownBlock):
 RInv b w' s/\w'.heap[b+1]?=some (.cells #[.int .i64 0,.slice none 0 0,.slice none 0 0,.slice none 0 0] 36 (0,0))/\w'.heap[b+2]?=some (.cells #[.int .i64 kind,vn,vt,vr] 36 (0,0))/\
 w'.ownsRow (b+6) 3 1 vn nums.length (intCs nums)/\w'.ownsRow (b+6) 9 1 vt texts.length (strCs texts)/\Below b w0 w':=by
 obtain⟨h1,h2,h3,h4,h5,_,h9⟩:=h;have low:∀ {k o},k<b+6->w.heap[k]?=some o->w'.heap[k]?=some o:=fun hk ho=>grown_low h6 hg hk ho
 exact⟨⟨low (by omega) h1.body,low (by omega) h1.whole,low (by omega) h1.take,low (by omega) h1.num,h1.len⟩,low (by omega) h2,low (by omega) h3,
  owns_other h4 h6 hg (by decide),owns_other h5 h6 hg (by decide),
  h9.grown hg (by have:=lt_of_block h1.num;omega) (fun k hk=>by have:=own_ge h6 hk;omega)⟩
theorem NInv.addNum(h:NInv b w0 w s kind vn vt vr nums texts rows){v:Value}{x:Int}(hg:w.grownBy w' vn.ownBlock)(hv:w'.ownsRow (b+6) 3 1 v (nums.length+1) (intCs nums++[.int .i64 x])):
 NInv b w0 (w'.setCell ⟨b+2,1,none⟩ v) s kind v vt vr (nums++[x]) texts rows:=by
 obtain⟨h1,h2,h3,h5,h6,h9⟩:=h.grownNums hg;have hv2:w'.ownsRow (b+6) 3 1 v (nums++[x]).length (intCs (nums++[x])):=by rw[intCs_snoc];simpa using hv
 exact⟨rInv_set h1 _ _,(zK w' ⟨b+2,1,none⟩ _ _ (by simp only;omega)).trans h2,four_set1 h3,owns_set hv2 (by omega),owns_set h5 (by omega),rowsOwn_set h6 (by omega),h9.setCell (by simp only;omega) _⟩
theorem NInv.addRow(h:NInv b w0 w s kind vn vt vr nums texts rows){vs:List Value}(h6:w.ownsRow (b+6) 27 1 vr rows.length vs)(hl:vs.length=rows.length)
 (h8:∀(j:Nat) x r,vs[j]?=some x->rows[j]?=some r->w.ownsRow (b+6) 9 1 x r.length (strCs r)) {v x:Value} {l:List (List UInt8)} (hx:w.ownsRow (b+6) 9 1 x l.length (strCs l))
 (hg:w.grownBy w' vr.ownBlock) (hv:w'.ownsRow (b+6) 27 1 v (rows.length+1) (vs++[x])):
 NInv b w0 (w'.setCell ⟨b+2,3,none⟩ v) s kind vn vt v nums texts (rows++[l]):=by
 obtain⟨h1,h2,h3,h4,h5,h9⟩:=h.grownRows h6 hg;have hrows:RowsOwn w' (b+6) v (rows++[l]):=by
  refine⟨vs++[x],by simpa using hv,by simp[hl],?_⟩;intro j y r hy hr;rcases Nat.lt_or_ge j vs.length with hj|hj
  . rw[zV hj]at hy;rw[zV (by omega)]at hr;exact owns_other (h8 j y r hy hr) h6 hg (by decide)
  . have hj2:j=vs.length:=by
     have:=(zG.1 hy).1;simp at this;omega
    subst hj2;rw[zT (zC _)]at hy;rw[zT (by omega)]at hr;simp only[Nat.sub_self,hl]at hy hr;simp at hy hr;subst hy hr;exact owns_other hx h6 hg (by decide)
 exact⟨rInv_set h1 _ _,(zK w' ⟨b+2,3,none⟩ _ _ (by simp only;omega)).trans h2,four_set3 h3,owns_set h4 (by omega),owns_set h5 (by omega),rowsOwn_set hrows (by omega),h9.setCell (by simp only;omega) _⟩
theorem rowsAt_own{w:World}{B:Nat}{v:Value}{rs:List (List (List UInt8))}(h:RowsOwn w B v rs)(hl:rs.length<=4096)(hr:∀r∈rs,r.length<=4096):RowsAt w v rs:=by
 obtain⟨vs,h1,h2,h3⟩:=h;rw[<- h2]at h1;refine⟨vs,valsAt_own h1 (by omega),h2,fun j x r hx hr2=>strsAt_own (h3 j x r hx hr2) (by have:=hr r (zJ hr2);omega)⟩
theorem NInv.note(h:NInv b w0 w s kind vn vt vr nums texts rows)(h1:nums.length<=64)(h2:texts.length<=4096)(h3:rows.length<=4096)(h4:∀r∈rows,r.length<=4096):
 NoteAt w (.agg #[.int .i64 kind,vn,vt,vr]) ⟨kind,nums,texts,rows⟩:=by
 refine⟨vn,vt,vr,rfl,?_,strsAt_own h.ot (by simp only;omega),rowsAt_own h.orr h3 h4⟩;have:=h.on;rw[<- intCs_len nums]at this;exact valsAt_own this (by rw[intCs_len];simp only;omega)
end
def RowIn(w:World)(B:Nat)(e:TypeId)(v:Value)(xs:List Value):Prop:=
 (∃ao cap,v=.slice ao 0 cap/\xs=[])\/∃g o cap cur fz,v=.slice (some ⟨g,o,none⟩) xs.length cap/\B<=g/\w.heap[g]?=some (.cells cur e fz)/\∀(j:Nat) x,xs[j]?=some x->cur[o+j]?=some x
theorem rowIn_own{w:World}{B:Nat}{e:TypeId}{v:Value}{xs:List Value}(h:w.ownsRow B e 1 v xs.length xs):RowIn w B e v xs:=by
 rcases h.2 with⟨rfl,h0⟩|⟨g,cap,cur,rfl,e2,e3,e4,e5,e6,e7⟩
 . exact .inl ⟨none,0,rfl,zU.1 h0⟩
 . refine .inr ⟨g,0,cap,cur,(0,0),rfl,e2,e3,fun j x hx=>?_⟩;rw[Nat.mul_one]at e7;rw[<- e7,List.getElem?_take]at hx;split at hx
   . rw[Nat.zero_add];simpa using hx
   . simp at hx
theorem RowIn.vals{w:World}{B:Nat}{e:TypeId}{v:Value}{xs:List Value}(h:RowIn w B e v xs)(hl:xs.length<=9223372036854775807):ValsAt w v xs:=by
 rcases h with⟨ao,cap,rfl,rfl⟩|⟨g,o,cap,cur,fz,rfl,_,e3,e4⟩
 . exact⟨hl,ao,cap,rfl,.inl rfl⟩
 . exact⟨hl,_,cap,rfl,.inr ⟨g,o,rfl,lt_of_block e3,fun j x hx=>by simp only[World.cell?,e3];exact e4 j x hx⟩⟩
theorem RowIn.slice{w:World}{B:Nat}{e:TypeId}{v:Value}{xs:List Value}(h:RowIn w B e v xs):∃ao l cap,v=.slice ao l cap:=by
 rcases h with⟨ao,cap,rfl,_⟩|⟨g,o,cap,cur,fz,rfl,_⟩
 . exact⟨_,_,_,rfl⟩
 . exact⟨_,_,_,rfl⟩
theorem RowIn.kept{w w':World}{B:Nat}{e:TypeId}{v:Value}{xs:List Value}(h:RowIn w B e v xs)(hk:∀g cur fz,B<=g->w.heap[g]?=some (.cells cur e fz)->w'.heap[g]?=some (.cells cur e fz)):RowIn w' B e v xs:=by
 rcases h with h|⟨g,o,cap,cur,fz,e1,e2,e3,e4⟩
 . exact .inl h
 . exact .inr ⟨g,o,cap,cur,fz,e1,e2,hk g cur fz e2 e3,e4⟩
def NoteOwn(w:World)(B:Nat)(v:Value)(n:NoteD):Prop:=
 ∃vn vt vr,v=.agg #[.int .i64 n.kind,vn,vt,vr]/\RowIn w B 3 vn (intCs n.nums)/\w.ownsRow B 9 1 vt n.texts.length (strCs n.texts)/\RowsOwn w B vr n.rows/\
  n.nums.length<=64/\n.texts.length<=4096/\n.rows.length<=4096/\∀r∈n.rows,r.length<=4096
theorem NoteOwn.at_{w:World}{B:Nat}{v:Value}{n:NoteD}(h:NoteOwn w B v n):NoteAt w v n:=by
 obtain⟨vn,vt,vr,rfl,h1,h2,h3,b1,b2,b3,b4⟩:=h;exact⟨vn,vt,vr,rfl,h1.vals (by rw[intCs_len];omega),strsAt_own h2 (by omega),rowsAt_own h3 b3 b4⟩
theorem NoteOwn.sane{w:World}{B:Nat}{v:Value}{n:NoteD}(h:NoteOwn w B v n):n.sane:=by
 obtain⟨vn,vt,vr,rfl,h1,h2,h3,b1,b2,b3,b4⟩:=h;exact⟨by omega,fun r hr=>by have:=b4 r hr;omega⟩
theorem zeroN_own(w:World)(B:Nat):NoteOwn w B zeroN .none:=
 ⟨_,_,_,rfl,.inl ⟨none,0,rfl,rfl⟩,⟨rfl,.inl ⟨rfl,rfl⟩⟩,⟨[],⟨rfl,.inl ⟨rfl,rfl⟩⟩,rfl,by simp⟩,by simp[NoteD.none],by simp[NoteD.none],by simp[NoteD.none],by simp[NoteD.none]⟩
theorem rowsOwn_below{w w':World}{B:Nat}{v:Value}{rs:List (List (List UInt8))}(h:RowsOwn w B v rs)(hb:Below w.heap.size w w'):RowsOwn w' B v rs:=by
 obtain⟨vs,h1,h2,h3⟩:=h;exact⟨vs,ownsRow_below h1 hb,h2,fun j x r hx hr=>ownsRow_below (h3 j x r hx hr) hb⟩
theorem NoteOwn.below{w w':World}{B:Nat}{v:Value}{n:NoteD}(h:NoteOwn w B v n)(hb:Below w.heap.size w w'):NoteOwn w' B v n:=by
 obtain⟨vn,vt,vr,e,h1,h2,h3,b⟩:=h;exact⟨vn,vt,vr,e,h1.kept (fun g cur fz _ hg=>(hb.block g (lt_of_block hg)).trans hg),ownsRow_below h2 hb,rowsOwn_below h3 hb,b⟩
theorem NoteOwn.set{w:World}{B k i:Nat}{v u:Value}{n:NoteD}(h:NoteOwn w B v n)(hk:k<B):NoteOwn (w.setCell ⟨k,i,none⟩ u) B v n:=by
 obtain⟨vn,vt,vr,e,h1,h2,h3,b⟩:=h;exact⟨vn,vt,vr,e,h1.kept (fun g cur fz hB hg=>(zK w ⟨k,i,none⟩ u g (by simp only;omega)).trans hg),owns_set h2 hk,rowsOwn_set h3 hk,b⟩
theorem NoteOwn.base{w:World}{B B':Nat}{v:Value}{n:NoteD}(h:NoteOwn w B v n)(hB:B'<=B):NoteOwn w B' v n:=by
 obtain⟨vn,vt,vr,e,h1,h2,⟨vs,h3,h4,h5⟩,b⟩:=h;refine⟨vn,vt,vr,e,?_,owns_base h2 hB,⟨vs,owns_base h3 hB,h4,fun j x r hx hr=>owns_base (h5 j x r hx hr) hB⟩,b⟩;rcases h1 with h1|⟨g,o,cap,cur,fz,e1,e2,e3⟩
 . exact .inl h1
 . exact .inr ⟨g,o,cap,cur,fz,e1,zS hB e2,e3⟩
theorem NoteOwn.other{w w':World}{B B' m:Nat}{v u:Value}{n:NoteD}{size:Nat}{ys:List Value}(h:NoteOwn w B v n)(hu:w.ownsRow B' 36 size u m ys)(hg:w.grownBy w' u.ownBlock):NoteOwn w' B v n:=by
 obtain⟨vn,vt,vr,e,h1,h2,⟨vs,h3,h4,h5⟩,b⟩:=h;refine⟨vn,vt,vr,e,h1.kept (fun g cur fz _ hg2=>(hg.block g (lt_of_block hg2) ?_).trans hg2),owns_other h2 hu hg (by decide),⟨vs,owns_other h3 hu hg (by decide),h4,fun j x r hx hr=>owns_other (h5 j x r hx hr) hu hg (by decide)⟩,b⟩;rcases hu.2 with⟨rfl,_⟩|⟨g',cap',cur',rfl,f2,f3,f4⟩
 . simp[Value.ownBlock]
 . simp only[Value.ownBlock,ne_eq,Option.some.injEq];intro hgg;subst hgg;rw[hg2]at f3;simp only[Option.some.injEq,Obj.cells.injEq]at f3;exact absurd f3.2.1 (by decide)
theorem six_blocks(w:World)(o0 o1 o2 o3 o4 o5:Obj):
 ((((((w.alloc o0).alloc o1).alloc o2).alloc o3).alloc o4).alloc o5).heap[w.heap.size]?=some o0/\((((((w.alloc o0).alloc o1).alloc o2).alloc o3).alloc o4).alloc o5).heap[w.heap.size+1]?=some o1/\
 ((((((w.alloc o0).alloc o1).alloc o2).alloc o3).alloc o4).alloc o5).heap[w.heap.size+2]?=some o2/\((((((w.alloc o0).alloc o1).alloc o2).alloc o3).alloc o4).alloc o5).heap[w.heap.size+3]?=some o3/\
 ((((((w.alloc o0).alloc o1).alloc o2).alloc o3).alloc o4).alloc o5).heap[w.heap.size+4]?=some o4/\((((((w.alloc o0).alloc o1).alloc o2).alloc o3).alloc o4).alloc o5).heap[w.heap.size+5]?=some o5/\
 Below w.heap.size w ((((((w.alloc o0).alloc o1).alloc o2).alloc o3).alloc o4).alloc o5):=by
 have keep:∀ {w:World} {k:Nat} {x:Obj} (o:Obj),w.heap[k]?=some x->(w.alloc o).heap[k]?=some x:=fun o h=>(Below.heap_alloc _ o _ (lt_of_block h)).trans h
 have s1:(w.alloc o0).heap.size=w.heap.size+1:=by simp
 have s2:((w.alloc o0).alloc o1).heap.size=w.heap.size+2:=by simp
 have s3:(((w.alloc o0).alloc o1).alloc o2).heap.size=w.heap.size+3:=by simp
 have s4:((((w.alloc o0).alloc o1).alloc o2).alloc o3).heap.size=w.heap.size+4:=by simp
 have s5:(((((w.alloc o0).alloc o1).alloc o2).alloc o3).alloc o4).heap.size=w.heap.size+5:=by simp
 have g0:=box_at w o0;have g1:=box_at (w.alloc o0) o1;have g2:=box_at ((w.alloc o0).alloc o1) o2;have g3:=box_at (((w.alloc o0).alloc o1).alloc o2) o3;have g4:=box_at ((((w.alloc o0).alloc o1).alloc o2).alloc o3) o4;have g5:=box_at (((((w.alloc o0).alloc o1).alloc o2).alloc o3).alloc o4) o5;rw[s1]at g1;rw[s2]at g2;rw[s3]at g3;rw[s4]at g4;rw[s5]at g5;exact⟨keep _ (keep _ (keep _ (keep _ (keep _ g0)))),keep _ (keep _ (keep _ (keep _ g1))),keep _ (keep _ (keep _ g2)),keep _ (keep _ g3),keep _ g4,g5,
  ((((((zB _ _).alloc (zC _) _).alloc (by omega) _).alloc (by omega) _).alloc (by omega) _).alloc (by omega) _).alloc (by omega) _⟩
theorem nInv_start(w:World)(l:List UInt8)(hl:l.length<=1048576):
 NInv w.heap.size w ((((((w.alloc (.cells #[.string ⟨l.toArray⟩] 9)).alloc (.cells #[.int .i64 0,.slice none 0 0,.slice none 0 0,.slice none 0 0] 36)).alloc (.cells #[.int .i64 0,.slice none 0 0,.slice none 0 0,.slice none 0 0] 36)).alloc
  (.cells #[.bool true] 4)).alloc (.cells #[takeF w.heap.size] 132)).alloc (.cells #[numF w.heap.size] 55)) ⟨l,true⟩ 0 (.slice none 0 0) (.slice none 0 0) (.slice none 0 0) [] [] []:=by
 obtain⟨g0,g1,g2,g3,g4,g5,g6⟩:=six_blocks w (.cells #[.string ⟨l.toArray⟩] 9) (.cells #[.int .i64 0,.slice none 0 0,.slice none 0 0,.slice none 0 0] 36) (.cells #[.int .i64 0,.slice none 0 0,.slice none 0 0,.slice none 0 0] 36)
  (.cells #[.bool true] 4) (.cells #[takeF w.heap.size] 132) (.cells #[numF w.heap.size] 55)
 exact⟨⟨g0,g3,g4,g5,hl⟩,g1,g2,⟨rfl,.inl ⟨rfl,rfl⟩⟩,⟨rfl,.inl ⟨rfl,rfl⟩⟩,⟨[],⟨rfl,.inl ⟨rfl,rfl⟩⟩,rfl,by simp⟩,g6⟩
end Go.Proofs.Ytjoddkeamboeoaa
