/- WTake, WReadM. -/
import Derived.Test.YtjoddkeamboeoaaMG12
import Derived.Deep.AppendLies
set_option maxRecDepth 100000
namespace Go.Proofs.Ytjoddkeamboeoaa
open Go.RowKit
structure St where
 b:List UInt8
 ok:Bool
def St.take(s:St)(k e:Nat):St:=if e=0 then⟨s.b.drop k,s.ok⟩else⟨[],false⟩
def St.num(s:St):St:=s.take (numP s.b).2.1 (numP s.b).2.2
def St.list(s:St):St:=s.take (listP s.b).2.1 (listP s.b).2.2
def St.count(s:St)(most:Nat):Nat×St:=if most<(numP s.b).1 then (0,⟨[],false⟩)else ((numP s.b).1,s.num)
structure Side (b c:Nat) (w w':World):Prop where
 os:w'.os=w.os
 tape:w'.tape=w.tape
 output:w'.output=w.output
 size:w.heap.size<=w'.heap.size
 block:∀k,k<w.heap.size->k≠b->k≠c->w'.heap[k]?=w.heap[k]?
theorem Side.refl(b c:Nat)(w:World):Side b c w w:=⟨rfl,rfl,rfl,zC _,fun _ _ _ _=>rfl⟩
theorem Side.trans{b c:Nat}{w w1 w2:World}(h:Side b c w w1)(k:Side b c w1 w2):Side b c w w2:=
 ⟨k.os.trans h.os,k.tape.trans h.tape,k.output.trans h.output,zS h.size k.size,fun i hi h1 h2=>(k.block i (zF hi h.size) h1 h2).trans (h.block i hi h1 h2)⟩
theorem Side.of_below{b c:Nat}{w w':World}(h:Below w.heap.size w w'):Side b c w w':=⟨h.os,h.tape,h.output,h.size,fun k hk _ _=>h.block k hk⟩
theorem Side.set1{b c:Nat}{w w':World}(h:Side b c w w')(v:Value):Side b c w (w'.setCell ⟨b,0,none⟩ v):=
 ⟨h.os,h.tape,h.output,by simpa using h.size,fun k hk h1 h2=>(zK w' ⟨b,0,none⟩ v k h1).trans (h.block k hk h1 h2)⟩
theorem Side.set2{b c:Nat}{w w':World}(h:Side b c w w')(v:Value):Side b c w (w'.setCell ⟨c,0,none⟩ v):=
 ⟨h.os,h.tape,h.output,by simpa using h.size,fun k hk h1 h2=>(zK w' ⟨c,0,none⟩ v k h2).trans (h.block k hk h1 h2)⟩
theorem Side.owns{b c B:Nat}{w w':World}{e:TypeId}{size:Nat}{v:Value}{n:Nat}{xs:List Value}(h:Side b c w w')(ho:w.ownsRow B e size v n xs)(h1:b<B)(h2:c<B):w'.ownsRow B e size v n xs:=by
 refine⟨ho.1,?_⟩;rcases ho.2 with h0|⟨g,cap,cur,e1,e2,e3,e4⟩
 . exact .inl h0
 . exact .inr ⟨g,cap,cur,e1,e2,(h.block g (lt_of_block e3) (by omega) (by omega)).trans e3,e4⟩
theorem Side.below{b c B:Nat}{w0 w w':World}(h:Side b c w w')(hb:Below B w0 w)(h1:B<=b)(h2:B<=c)(hB:B<=w.heap.size):Below B w0 w':=
 ⟨h.os.trans hb.os,h.tape.trans hb.tape,h.output.trans hb.output,zS hb.size h.size,fun k hk=>(h.block k (by omega) (by omega) (by omega)).trans (hb.block k hk)⟩
abbrev takeF(b:Nat):Value:=.func (.func 88) #[] #[.pointer (some ⟨b,0,none⟩),.pointer (some ⟨b+3,0,none⟩)]
abbrev numF(b:Nat):Value:=.func (.func 89) #[] #[.pointer (some ⟨b,0,none⟩),.pointer (some ⟨b+4,0,none⟩)]
structure RInv (b:Nat) (w:World) (s:St):Prop where
 body:One w b 9 (.string ⟨s.b.toArray⟩)
 whole:One w (b+3) 4 (.bool s.ok)
 take:One w (b+4) 132 (takeF b)
 num:One w (b+5) 55 (numF b)
 len:s.b.length<=1048576
theorem RInv.below{b:Nat}{w w':World}{s:St}(h:RInv b w s)(hb:Below w.heap.size w w'):RInv b w' s:=
 ⟨(hb.block _ (lt_of_block h.body)).trans h.body,(hb.block _ (lt_of_block h.whole)).trans h.whole,(hb.block _ (lt_of_block h.take)).trans h.take,(hb.block _ (lt_of_block h.num)).trans h.num,h.len⟩
theorem extract_from(l:List UInt8)(k:Nat):(⟨l.toArray⟩:ByteArray).extract k (⟨l.toArray⟩:ByteArray).size=⟨(l.drop k).toArray⟩:=by
 apply bytes_ext;rw[extract_end]
set_option maxHeartbeats 1000000 in
theorem take_any(b:Nat)(w:World)(s:St)(k e:Nat)(h:RInv b w s)(hk:k<=s.b.length):
 Calls Try.prog 88 #[.int .i64 k,.int .i64 e,.pointer (some ⟨b,0,none⟩),.pointer (some ⟨b+3,0,none⟩)] w fun r w'=>r=.returned (.tuple #[])/\RInv b w' (s.take k e)/\Side b (b+3) w w':=by
 obtain⟨h1,h2,h3,h4,h5⟩:=h;have c1:=cell_of_one h1;have f1:=free_of_one h1;have c2:=cell_of_one h2;have f2:=free_of_one h2;have H1:=zA h1;have H2:=zA h2;have H3:=zA h3;have H4:=zA h4;have hsz:=size_list s.b;have hkI:(k:Int)<=(s.b.length:Int):=by omega
 have hx:=extract_from s.b k;rw[hsz]at hx;clear h1 h2 h3 h4;by_cases he:e=0
 . subst he;have HT:Hid (s.take k 0=⟨s.b.drop k,s.ok⟩):=zA (if_pos rfl);go_enter Try.func88,Try.ntmps88;go_wp2;go_end0;rw[HT.out];exact⟨rfl,⟨one_setCell H1.out,one_other H2.out (by omega),one_other H3.out (by omega),one_other H4.out (by omega),by simp only[zN];omega⟩,(Side.refl _ _ _).set1 _⟩
 . have HT:Hid (s.take k e=⟨[],false⟩):=zA (if_neg he);have heI:((e:Int)!=0)=true:=by simp;omega
   clear he;go_enter Try.func88,Try.ntmps88;go_wp2;go_end0;rw[HT.out];refine⟨rfl,⟨?_,?_,?_,?_,by simp⟩,(((Side.refl _ _ _).set1 _).set1 _).set2 _⟩
   . exact one_other (one_setCell (one_setCell H1.out)) (by omega)
   . exact one_setCell (one_other (one_other H2.out (by omega)) (by omega))
   . exact one_other (one_other (one_other H3.out (by omega)) (by omega)) (by omega)
   . exact one_other (one_other (one_other H4.out (by omega)) (by omega)) (by omega)
set_option maxHeartbeats 1000000 in
theorem numRead_any(b:Nat)(w:World)(s:St)(h:RInv b w s):
 Calls Try.prog 89 #[.pointer (some ⟨b,0,none⟩),.pointer (some ⟨b+4,0,none⟩)] w fun r w'=>r=.returned (.int .i64 (numP s.b).1)/\RInv b w' s.num/\Side b (b+3) w w':=by
 have c1:=cell_of_one h.body;have c3:=cell_of_one h.take;have HN:Hid (∀w,Calls Try.prog 90 #[.string ⟨s.b.toArray⟩] w fun e w'=>e=.returned (numV s.b)/\w'=w):=zA (fun w=>by
  have:=num_any ⟨s.b.toArray⟩ w (by rw[size_list];have:=h.len;unfold maxLen;omega);rw[data_list]at this;exact this)
 obtain⟨u1,_,_,_⟩:=numP_used s.b;obtain⟨v,k,e,hv⟩:∃v k e,numP s.b=(v,k,e):=⟨_,_,_,rfl⟩
 have HV:=zA (numV_of hv);have HS:Hid (s.num=s.take k e):=zA (by rw[St.num,hv]);rw[hv]at u1 ⊢;simp only at u1 ⊢;have H:=zA h;clear h hv;go_enter Try.func89,Try.ntmps89;go_wp2_with fail;refine(HN.out _).mono ?_;rintro e1 w1 ⟨rfl,rfl⟩;rw[HV.out];go_wp2_with fail;refine(take_any b _ s k e H.out u1).mono ?_;rintro e2 w2 ⟨rfl,hr,hsd⟩;have HR:=zA hr;clear hr;go_wp2;go_ret;exact⟨rfl,by rw[HS.out];exact HR.out,hsd⟩
set_option maxHeartbeats 1000000 in
theorem countRead_any(b:Nat)(w:World)(s:St)(most:Nat)(h:RInv b w s):
 Calls Try.prog 91 #[.int .i64 most,.pointer (some ⟨b+5,0,none⟩),.pointer (some ⟨b+4,0,none⟩)] w fun r w'=>r=.returned (.int .i64 (s.count most).1)/\RInv b w' (s.count most).2/\Side b (b+3) w w':=by
 have c1:=cell_of_one h.num;have H:=zA h;clear h;by_cases hm:most<(numP s.b).1
 . have HC:Hid (s.count most=(0,⟨[],false⟩)):=zA (if_pos hm);have HT:Hid (s.num.take 0 31=⟨[],false⟩):=zA (if_neg (by decide));obtain⟨v,hv⟩:∃v,v=(numP s.b).1:=⟨_,rfl⟩
   have HN:=zA (numRead_any b w s H.out);rw[<- hv]at hm HN;clear hv;go_enter Try.func91,Try.ntmps91;go_wp2_with fail;refine HN.out.mono ?_;rintro e1 w1 ⟨rfl,hr1,hs1⟩;have c2:=cell_of_one hr1.take;have H1:=zA hr1;clear hr1 c1 HN;go_wp2_with fail;refine(take_any b _ s.num 0 31 H1.out (zO _)).mono ?_;rintro e2 w2 ⟨rfl,hr2,hs2⟩;have H2:=zA hr2;clear hr2 c2;go_wp2;go_ret;refine⟨by rw[HC.out];rfl,?_,hs1.trans hs2⟩;rw[HC.out,<- HT.out];exact H2.out
 . have HC:Hid (s.count most=((numP s.b).1,s.num)):=zA (if_neg hm);obtain⟨v,hv⟩:∃v,v=(numP s.b).1:=⟨_,rfl⟩
   have HN:=zA (numRead_any b w s H.out);rw[<- hv]at hm HN HC;clear hv;go_enter Try.func91,Try.ntmps91;go_wp2_with fail;refine HN.out.mono ?_;rintro e1 w1 ⟨rfl,hr1,hs1⟩;have H1:=zA hr1;clear hr1 c1 HN;go_wp2;go_ret;exact⟨by rw[HC.out];rfl,by rw[HC.out];exact H1.out,hs1⟩
theorem owns_base{w:World}{B B' n:Nat}{e:TypeId}{size:Nat}{v:Value}{xs:List Value}(h:w.ownsRow B e size v n xs)(hb:B'<=B):w.ownsRow B' e size v n xs:=by
 refine⟨h.1,?_⟩;rcases h.2 with h0|⟨g,cap,cur,e1,e2,e3⟩
 . exact .inl h0
 . exact .inr ⟨g,cap,cur,e1,zS hb e2,e3⟩
theorem listP_used(l:List UInt8):(listP l).2.1<=l.length:=by
 by_cases h:(listP l).2.2=0
 . obtain⟨n,k,e,hn⟩:∃n k e,listP l=(n,k,e):=⟨_,_,_,rfl⟩
   rw[hn]at h ⊢;simp only at h ⊢;subst h;obtain⟨e1,_,_,e4⟩:=listP_sound hn;have:=congrArg List.length e1;rw[zE,zN]at this;omega
 . rw[listP_shape l h];exact zO _
set_option maxHeartbeats 1000000 in
theorem listRead_any(b:Nat)(w:World)(s:St)(h:RInv b w s):
 Calls Try.prog 92 #[.pointer (some ⟨b,0,none⟩),.pointer (some ⟨b+4,0,none⟩)] w fun r w'=>∃v,r=.returned v/\
  w'.ownsRow (b+6) 9 1 v (listP s.b).1.length (strCs (listP s.b).1)/\RInv b w' s.list/\Side b (b+3) w w':=by
 have c1:=cell_of_one h.body;have hb6:b+6<=w.heap.size:=lt_of_block h.num;have HN:Hid (∀w,Calls Try.prog 93 #[.string ⟨s.b.toArray⟩] w (ListEnd s.b w)):=zA (fun w=>by
  have:=list_any ⟨s.b.toArray⟩ w (by rw[size_list];have:=h.len;omega);rw[data_list]at this;exact this)
 have u1:=listP_used s.b;obtain⟨ls,k,e,hv⟩:∃v k e,listP s.b=(v,k,e):=⟨_,_,_,rfl⟩
 have HS:Hid (s.list=s.take k e):=zA (by rw[St.list,hv]);unfold ListEnd at HN;rw[hv]at u1 HN ⊢;simp only at u1 HN ⊢;have H:=zA h;clear h hv;go_enter Try.func92,Try.ntmps92;go_wp2_with fail;refine(HN.out _).mono ?_;rintro e1 w1 ⟨v,rfl,ho,hb1⟩;have hr1:=H.out.below hb1;have c3:=cell_of_one hr1.take;have H1:=zA hr1;have HO:=zA (owns_base ho hb6);have S1:Hid (Side b (b+3) w w1):=zA (Side.of_below hb1);clear hr1 ho hb1 c1 HN;go_wp2_with fail;refine(take_any b _ s k e H1.out u1).mono ?_;rintro e2 w2 ⟨rfl,hr,hsd⟩;have HR:=zA hr;have S2:=zA (S1.out.trans hsd);have HO2:=zA (hsd.owns HO.out (by omega) (by omega));clear hr hsd c3;go_wp2;go_ret;exact⟨_,rfl,HO2.out,by rw[HS.out];exact HR.out,S2.out⟩
def numsS:Nat->St->List Nat×St
 |0,s=>([],s)
 |i+1,s=>((numsS i s).1++[(numP (numsS i s).2.b).1],(numsS i s).2.num)
def rowsS:Nat->St->List (List (List UInt8))×St
 |0,s=>([],s)
 |i+1,s=>((rowsS i s).1++[(listP (rowsS i s).2.b).1],(rowsS i s).2.list)
theorem numsS_len(i:Nat)(s:St):(numsS i s).1.length=i:=by
 induction i with
 |zero=>rfl
 |succ i ih=>simp[numsS,ih]
theorem rowsS_len(i:Nat)(s:St):(rowsS i s).1.length=i:=by
 induction i with
 |zero=>rfl
 |succ i ih=>simp[rowsS,ih]
theorem rowsS_sane(i:Nat)(s:St):∀r∈(rowsS i s).1,r.length<=4096:=by
 induction i with
 |zero=>simp[rowsS]
 |succ i ih=>
  intro r hr;simp only[rowsS,zZ,zX]at hr;rcases hr with hr|rfl
  . exact ih r hr
  . exact listP_len _
theorem take_dead(s:St)(k e:Nat)(h:s.ok=false):(s.take k e).ok=false:=by
 unfold St.take;split
 . exact h
 . rfl
theorem num_none{s:St}(h:numQ s.b=none):s.num=⟨[],false⟩:=by
 unfold numQ at h;split at h
 . simp at h
 . rename_i h0;exact if_neg h0
theorem num_some{s:St}{v:Nat}{r:List UInt8}(h:numQ s.b=some (v,r)):(numP s.b).1=v/\s.num=⟨r,s.ok⟩:=by
 unfold numQ at h;split at h
 . rename_i h0;simp only[Option.some.injEq,Prod.mk.injEq]at h;refine⟨h.1,?_⟩;unfold St.num St.take;rw[if_pos h0,h.2]
 . simp at h
theorem list_none{s:St}(h:listQ s.b=none):s.list=⟨[],false⟩:=by
 unfold listQ at h;split at h
 . simp at h
 . rename_i h0;exact if_neg h0
theorem list_some{s:St}{v:List (List UInt8)}{r:List UInt8}(h:listQ s.b=some (v,r)):(listP s.b).1=v/\s.list=⟨r,s.ok⟩:=by
 unfold listQ at h;split at h
 . rename_i h0;simp only[Option.some.injEq,Prod.mk.injEq]at h;refine⟨h.1,?_⟩;unfold St.list St.take;rw[if_pos h0,h.2]
 . simp at h
theorem count_dead(s:St)(m:Nat)(h:s.ok=false):(s.count m).2.ok=false:=by
 unfold St.count;split
 . rfl
 . exact take_dead s _ _ h
theorem numsS_dead(i:Nat)(s:St)(h:s.ok=false):(numsS i s).2.ok=false:=by
 induction i with
 |zero=>exact h
 |succ i ih=>exact take_dead _ _ _ ih
theorem rowsS_dead(i:Nat)(s:St)(h:s.ok=false):(rowsS i s).2.ok=false:=by
 induction i with
 |zero=>exact h
 |succ i ih=>exact take_dead _ _ _ ih
theorem numsS_none(i:Nat)(s:St)(h:many numQ i s.b=none):(numsS i s).2.ok=false/\(∀xs r,many numQ i s.b=some (xs,r)->False):=by
 refine⟨?_,fun xs r h2=>by rw[h]at h2;simp at h2⟩;induction i with
 |zero=>simp[many]at h
 |succ i ih=>
  have key:∀i,(∀xs r,many numQ i s.b=some (xs,r)->numsS i s=(xs,⟨r,s.ok⟩)):=by
   intro i;induction i with
   |zero=>intro xs r h;simp only[many,Option.some.injEq,Prod.mk.injEq]at h;obtain⟨rfl,rfl⟩:=h;rfl
   |succ i ih=>
    intro xs r h;simp only[many,Option.bind_eq_some_iff]at h;obtain⟨⟨ys,q⟩,h1,⟨x,r2⟩,h2,h3⟩:=h;simp only[Option.some.injEq,Prod.mk.injEq]at h2 h3;obtain⟨rfl,rfl⟩:=h3;have e:=ih ys q h1;obtain⟨a1,a2⟩:=num_some (s:=⟨q,s.ok⟩) h2;simp only[numsS,e,a1,a2]
  cases hm:many numQ i s.b with
  |none=>exact take_dead _ _ _ (ih hm)
  |some q=>
   obtain⟨ys,q⟩:=q;have e:=key i ys q hm;simp only[many,hm,Option.bind_some]at h;have h2:numQ q=none:=by
    cases hq:numQ q with
    |none=>rfl
    |some z=>rw[hq]at h;simp at h
   simp only[numsS,e];rw[num_none (s:=⟨q,s.ok⟩) h2]
theorem numsS_some(i:Nat)(s:St):∀xs r,many numQ i s.b=some (xs,r)->numsS i s=(xs,⟨r,s.ok⟩):=by
 induction i with
 |zero=>intro xs r h;simp only[many,Option.some.injEq,Prod.mk.injEq]at h;obtain⟨rfl,rfl⟩:=h;rfl
 |succ i ih=>
  intro xs r h;simp only[many,Option.bind_eq_some_iff]at h;obtain⟨⟨ys,q⟩,h1,⟨x,r2⟩,h2,h3⟩:=h;simp only[Option.some.injEq,Prod.mk.injEq]at h2 h3;obtain⟨rfl,rfl⟩:=h3;have e:=ih ys q h1;obtain⟨a1,a2⟩:=num_some (s:=⟨q,s.ok⟩) h2;simp only[numsS,e,a1,a2]
theorem rowsS_some(i:Nat)(s:St):∀xs r,many listQ i s.b=some (xs,r)->rowsS i s=(xs,⟨r,s.ok⟩):=by
 induction i with
 |zero=>intro xs r h;simp only[many,Option.some.injEq,Prod.mk.injEq]at h;obtain⟨rfl,rfl⟩:=h;rfl
 |succ i ih=>
  intro xs r h;simp only[many,Option.bind_eq_some_iff]at h;obtain⟨⟨ys,q⟩,h1,⟨x,r2⟩,h2,h3⟩:=h;simp only[Option.some.injEq,Prod.mk.injEq]at h2 h3;obtain⟨rfl,rfl⟩:=h3;have e:=ih ys q h1;obtain⟨a1,a2⟩:=list_some (s:=⟨q,s.ok⟩) h2;simp only[rowsS,e,a1,a2]
theorem rowsS_none(i:Nat)(s:St)(h:many listQ i s.b=none):(rowsS i s).2.ok=false:=by
 induction i with
 |zero=>simp[many]at h
 |succ i ih=>
  cases hm:many listQ i s.b with
  |none=>exact take_dead _ _ _ (ih hm)
  |some q=>
   obtain⟨ys,q⟩:=q;have e:=rowsS_some i s ys q hm;simp only[many,hm,Option.bind_some]at h;have h2:listQ q=none:=by
    cases hq:listQ q with
    |none=>rfl
    |some z=>rw[hq]at h;simp at h
   simp only[rowsS,e];rw[list_none (s:=⟨q,s.ok⟩) h2]
def rd1(l:List UInt8):St:=(St.mk l true).num
def rd2(l:List UInt8):Nat×St:=(rd1 l).count 64
def rd3(l:List UInt8):List Nat×St:=numsS (rd2 l).1 (rd2 l).2
def rd4(l:List UInt8):St:=(rd3 l).2.list
def rd5(l:List UInt8):Nat×St:=(rd4 l).count 4096
def rd6(l:List UInt8):List (List (List UInt8))×St:=rowsS (rd5 l).1 (rd5 l).2
def rdNote(l:List UInt8):NoteD:=⟨(numP l).1,(rd3 l).1.map Int.ofNat,(listP (rd3 l).2.b).1,(rd6 l).1⟩
def rdOk(l:List UInt8):Prop:=(rd6 l).2.ok=true/\(rd6 l).2.b=[]/\(rdNote l).numsOk/\(rdNote l).textsFit
theorem rd_sane(l:List UInt8):(rdNote l).sane:=by
 refine⟨zS (listP_len _) (by decide),fun r hr=>zS (rowsS_sane _ _ r hr) (by decide)⟩
theorem count_over{s:St}{m v:Nat}{r:List UInt8}(h:numQ s.b=some (v,r))(hv:m<v):(s.count m).2.ok=false:=by
 obtain⟨a1,_⟩:=num_some h;unfold St.count;rw[a1,if_pos hv]
theorem count_fits{s:St}{m v:Nat}{r:List UInt8}(h:numQ s.b=some (v,r))(hv:¬m<v):s.count m=(v,⟨r,s.ok⟩):=by
 obtain⟨a1,a2⟩:=num_some h;unfold St.count;rw[a1,a2,if_neg hv]
theorem count_none{s:St}{m:Nat}(h:numQ s.b=none):(s.count m).2.ok=false:=by
 unfold St.count;split
 . rfl
 . rw[num_none h]
theorem rd_read(l:List UInt8)(hl:l.length<=1048576):(rdOk l/\readP l=some (rdNote l))\/(¬rdOk l/\readP l=none):=by
 have dead6:∀s:St,s=rd4 l->s.ok=false->¬rdOk l:=by
  intro s h1 h2 h;subst h1;have:=rowsS_dead (rd5 l).1 (rd5 l).2 (count_dead (rd4 l) 4096 h2);have h3:=h.1;rw[rd6,this]at h3;cases h3
 have dead5:(rd5 l).2.ok=false->¬rdOk l:=by
  intro h2 h;have:=rowsS_dead (rd5 l).1 (rd5 l).2 h2;have h3:=h.1;rw[rd6,this]at h3;cases h3
 have dead3:(rd3 l).2.ok=false->¬rdOk l:=fun h=>dead6 _ rfl (take_dead _ _ _ h)
 have dead2:(rd2 l).2.ok=false->¬rdOk l:=fun h=>dead3 (numsS_dead _ _ h)
 have dead1:(rd1 l).ok=false->¬rdOk l:=fun h=>dead2 (count_dead _ _ h)
 unfold readP;cases h1:numQ l with
 |none=>exact .inr ⟨dead1 (by rw[rd1,num_none (s:=⟨l,true⟩) h1]),rfl⟩
 |some q1=>
  obtain⟨k,l1⟩:=q1;obtain⟨a1,e1⟩:=num_some (s:=⟨l,true⟩) h1;rw[<- rd1]at e1;simp only[Option.bind_some];cases h2:numQ l1 with
  |none=>exact .inr ⟨dead2 (by rw[rd2,e1];exact count_none (s:=⟨l1,true⟩) h2),rfl⟩
  |some q2=>
   obtain⟨c,l2⟩:=q2;simp only[Option.bind_some];by_cases hc:64<c
   . rw[if_pos hc];exact .inr ⟨dead2 (by rw[rd2,e1];exact count_over (s:=⟨l1,true⟩) h2 hc),rfl⟩
   . rw[if_neg hc];have e2:rd2 l=(c,⟨l2,true⟩):=by rw[rd2,e1];exact count_fits (s:=⟨l1,true⟩) h2 hc
     cases h3:many numQ c l2 with
     |none=>exact .inr ⟨dead3 (by rw[rd3,e2];exact(numsS_none c ⟨l2,true⟩ h3).1),rfl⟩
     |some q3=>
      obtain⟨ns,l3⟩:=q3;have e3:rd3 l=(ns,⟨l3,true⟩):=by rw[rd3,e2];exact numsS_some c ⟨l2,true⟩ ns l3 h3
      simp only[Option.bind_some];cases h4:listQ l3 with
      |none=>exact .inr ⟨dead6 _ rfl (by rw[rd4,e3,list_none (s:=⟨l3,true⟩) h4]),rfl⟩
      |some q4=>
       obtain⟨ts,l4⟩:=q4;obtain⟨a4,b4⟩:=list_some (s:=⟨l3,true⟩) h4;have e4:rd4 l=⟨l4,true⟩:=by rw[rd4,e3];exact b4
       simp only[Option.bind_some];cases h5:numQ l4 with
       |none=>exact .inr ⟨dead5 (by rw[rd5,e4];exact count_none (s:=⟨l4,true⟩) h5),rfl⟩
       |some q5=>
        obtain⟨m,l5⟩:=q5;simp only[Option.bind_some];by_cases hm:4096<m
        . rw[if_pos hm];exact .inr ⟨dead5 (by rw[rd5,e4];exact count_over (s:=⟨l4,true⟩) h5 hm),rfl⟩
        . rw[if_neg hm];have e5:rd5 l=(m,⟨l5,true⟩):=by rw[rd5,e4];exact count_fits (s:=⟨l4,true⟩) h5 hm
          cases h6:many listQ m l5 with
          |none=>
           refine .inr ⟨fun h=>?_,rfl⟩;have h7:=h.1;rw[rd6,e5,rowsS_none m ⟨l5,true⟩ h6]at h7;cases h7
          |some q6=>
           obtain⟨rs,l6⟩:=q6;have e6:rd6 l=(rs,⟨l6,true⟩):=by rw[rd6,e5];exact rowsS_some m ⟨l5,true⟩ rs l6 h6
           have eN:rdNote l=⟨(k:Int),ns.map Int.ofNat,ts,rs⟩:=by
            rw[rdNote,e3,e6];simp only;rw[a4,a1]
           simp only[Option.bind_some];by_cases hg:l6=[]/\(NoteD.mk k (ns.map Int.ofNat) ts rs).numsOk/\(NoteD.mk k (ns.map Int.ofNat) ts rs).textsOk
           . rw[if_pos hg];have hread:readP l=some ⟨(k:Int),ns.map Int.ofNat,ts,rs⟩:=by
              unfold readP;rw[h1];simp only[Option.bind_some];rw[h2];simp only[Option.bind_some];rw[if_neg hc,h3];simp only[Option.bind_some];rw[h4];simp only[Option.bind_some];rw[h5];simp only[Option.bind_some];rw[if_neg hm,h6];simp only[Option.bind_some];rw[if_pos hg]
             have hb:=(readP_sound hread).1;have hsz:=size_le_body ⟨(k:Int),ns.map Int.ofNat,ts,rs⟩;rw[<- hb]at hsz;refine .inl ⟨⟨by rw[e6],by rw[e6];exact hg.1,by rw[eN];exact hg.2.1,by rw[eN];exact⟨hg.2.2,zS hsz hl⟩⟩,by rw[eN]⟩
           . rw[if_neg hg];refine .inr ⟨fun h=>hg ?_,rfl⟩;obtain⟨_,g2,g3,g4⟩:=h;rw[e6]at g2;rw[eN]at g3 g4;exact⟨g2,g3,g4.1⟩
end Go.Proofs.Ytjoddkeamboeoaa
