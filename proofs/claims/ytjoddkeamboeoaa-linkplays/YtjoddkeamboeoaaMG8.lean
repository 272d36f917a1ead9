/- WMath. -/
import Derived.Test.YtjoddkeamboeoaaMG6
import Derived.Test.YtjoddkeamboeoaaMG2
set_option maxRecDepth 100000
namespace Go.Proofs.Ytjoddkeamboeoaa
structure NoteD where
 kind:Int
 nums:List Int
 texts:List (List UInt8)
 rows:List (List (List UInt8))
deriving DecidableEq
def listB(ls:List (List UInt8)):List UInt8:=numB ls.length++textsB ls
def numsB(ns:List Int):List UInt8:=(ns.map fun x=>numB x.toNat).flatten
def rowsB(rs:List (List (List UInt8))):List UInt8:=(rs.map listB).flatten
def cntR(rs:List (List (List UInt8))):Nat:=(rs.map List.length).sum
def sumR(rs:List (List (List UInt8))):Nat:=(rs.map sumL).sum
def NoteD.body(n:NoteD):List UInt8:=numB n.kind.toNat++(numB n.nums.length++(numsB n.nums++(listB n.texts++(numB n.rows.length++rowsB n.rows))))
def goodNum(x:Int):Prop:=0<=x/\x<=4611686018427387903
instance (x:Int):Decidable (goodNum x):=inferInstanceAs (Decidable (_/\_))
def NoteD.numsOk(n:NoteD):Prop:=1<=n.kind/\n.kind<=255/\n.nums.length<=64/\∀x∈n.nums,goodNum x
instance (n:NoteD):Decidable n.numsOk:=inferInstanceAs (Decidable (_/\_))
def shortL(ls:List (List UInt8)):Prop:=∀t∈ls,t.length<=65536
instance (ls:List (List UInt8)):Decidable (shortL ls):=inferInstanceAs (Decidable (∀t∈ls,t.length<=65536))
def NoteD.textsOk(n:NoteD):Prop:=n.rows.length<=4096/\n.texts.length+cntR n.rows<=4096/\shortL n.texts/\∀r∈n.rows,shortL r
instance (n:NoteD):Decidable n.textsOk:=inferInstanceAs (Decidable (_/\_))
def NoteD.size(n:NoteD):Nat:=sumL n.texts+sumR n.rows
def NoteD.may(n:NoteD):Prop:=n.numsOk/\n.textsOk/\n.body.length<=1048576
instance (n:NoteD):Decidable n.may:=inferInstanceAs (Decidable (_/\_))
theorem numsB_snoc(ns:List Int)(x:Int):numsB (ns++[x])=numsB ns++numB x.toNat:=by simp[numsB]
theorem rowsB_snoc(rs:List (List (List UInt8)))(x:List (List UInt8)):rowsB (rs++[x])=rowsB rs++listB x:=by simp[rowsB]
theorem cntR_snoc(rs:List (List (List UInt8)))(x:List (List UInt8)):cntR (rs++[x])=cntR rs+x.length:=by simp[cntR]
theorem sumR_snoc(rs:List (List (List UInt8)))(x:List (List UInt8)):sumR (rs++[x])=sumR rs+sumL x:=by simp[sumR]
theorem numsB_le(ns:List Int):(numsB ns).length<=9*ns.length:=by
 induction ns with
 |nil=>simp[numsB]
 |cons x ns ih=>
  have:=numB_le x.toNat;simp only[numsB,List.map_cons,List.flatten_cons,zE,zR]at *;omega
theorem sumL_le_textsB(ls:List (List UInt8)):sumL ls<=(textsB ls).length:=by
 induction ls with
 |nil=>simp[sumL]
 |cons t ls ih=>
  rw[textsB_cons,zE];simp only[sumL,List.map_cons,List.sum_cons,strB,zE]at*;omega
theorem sumR_le_rowsB(rs:List (List (List UInt8))):sumR rs<=(rowsB rs).length:=by
 induction rs with
 |nil=>simp[sumR]
 |cons t ls ih=>
  have:=sumL_le_textsB t;simp only[sumR,rowsB,List.map_cons,List.sum_cons,List.flatten_cons,listB,zE]at*;omega
theorem size_le_body(n:NoteD):n.size<=n.body.length:=by
 have a:=sumL_le_textsB n.texts;have b:=sumR_le_rowsB n.rows;simp only[NoteD.size,NoteD.body,listB,zE];omega
theorem textsB_le2(ls:List (List UInt8))(h:shortL ls):(textsB ls).length<=sumL ls+9*ls.length:=by
 induction ls with
 |nil=>simp[textsB]
 |cons t ls ih=>
  have a:=ih (fun u hu=>h u (by simp[hu]));have b:=numB_le t.length;rw[textsB_cons,zE];simp only[sumL,List.map_cons,List.sum_cons,strB,zE,zR]at*;omega
theorem rowsB_le(rs:List (List (List UInt8)))(h:∀r∈rs,shortL r):(rowsB rs).length<=sumR rs+9*cntR rs+9*rs.length:=by
 induction rs with
 |nil=>simp[rowsB]
 |cons t ls ih=>
  have a:=ih (fun u hu=>h u (by simp[hu]));have b:=numB_le t.length;have c:=textsB_le2 t (h t (by simp));simp only[sumR,cntR,rowsB,List.map_cons,List.sum_cons,List.flatten_cons,listB,zE,zR]at*;omega
theorem beVal_pos(d:List UInt8)(h:d≠[])(h0:d.head?≠some 0):0<beVal d:=by
 cases d with
 |nil=>exact absurd rfl h
 |cons x d=>
  rw[beVal_cons];have:x≠0:=fun e=>h0 (by simp[e])
  have h1:0<x.toNat:=by
   rcases Nat.eq_zero_or_pos x.toNat with h2|h2
   . exact absurd (UInt8.toNat_inj.1 (by rw[h2];rfl)) this
   . exact h2
  have:=Nat.mul_le_mul_right (256^d.length) h1;have h3:0<256^d.length:=Nat.pow_pos (by omega);simp only[Nat.succ_mul]at this;omega
theorem lowD_beVal(k:Nat):∀(f:Nat) (d:List UInt8),d.length=k->k<=f->d.head?≠some 0->lowD f (beVal d)=d.reverse:=by
 induction k with
 |zero=>
  intro f d hd _ _;have:d=[]:=zU.1 hd;subst this;simp[beVal,lowD_zero]
 |succ k ih=>
  intro f d hd hf h0;obtain⟨f,rfl⟩:∃g,f=g+1:=⟨f-1,by omega⟩
  have hne:d≠[]:=by intro e;rw[e]at hd;simp at hd
  have hp:=beVal_pos d hne h0;have e:=(List.dropLast_concat_getLast hne).symm;generalize d.dropLast=d1 at e;generalize d.getLast hne=x at e;have hl1:d1.length=k:=by rw[e]at hd;simpa using hd
  have h1:d1.head?≠some 0:=by
   intro h2;apply h0;rw[e,List.head?_append,h2];rfl
  have hx:=x.toNat_lt;rw[lowD_pos _ _ hp,e,beVal_snoc,List.reverse_append,List.reverse_singleton,List.singleton_append];have e1:(beVal d1*256+x.toNat)/256=beVal d1:=by omega
  have e2:(beVal d1*256+x.toNat)%256=x.toNat:=by omega
  rw[e1,e2,UInt8.ofNat_toNat,ih f d1 hl1 (by omega) h1]
theorem numP_sound{l:List UInt8}{v k:Nat}(h:numP l=(v,k,0)):l=numB v++l.drop k/\v<2^63:=by
 unfold numP at h;split at h
 . simp at h
 . rename_i c r;split at h
   . simp at h
   . split at h
     . simp at h
     . split at h
       . simp at h
       . rename_i h1 h2 h3;simp only[Prod.mk.injEq,and_true]at h;obtain⟨rfl,rfl⟩:=h;have hlen:(r.take c.toNat).length=c.toNat:=by rw[zQ];omega
         have hhd:(r.take c.toNat).head?≠some 0:=by
          intro h4;apply h3;left;cases r with
          |nil=>simp at h4
          |cons y r=>
           cases hc:c.toNat with
           |zero=>rw[hc]at h4;simp at h4
           |succ m=>rw[hc]at h4;simp at h4;simp[h4]
         have hb:=lowD_beVal c.toNat 8 (r.take c.toNat) hlen (by omega) hhd;refine⟨?_,by have h5:¬ 9223372036854775807<beVal (r.take c.toNat):=fun h6=>h3 (.inr h6);omega⟩;rw[numB,hb,List.length_reverse,hlen,List.reverse_reverse,UInt8.ofNat_toNat,Nat.add_comm 1,List.drop_succ_cons,List.cons_append,List.take_append_drop]
theorem strP_sound{l t:List UInt8}{k:Nat}(h:strP l=(t,k,0)):l=strB t++l.drop k/\t.length<=65536/\k=(strB t).length:=by
 obtain⟨n,j,e,hn⟩:∃n j e,numP l=(n,j,e):=⟨_,_,_,rfl⟩
 unfold strP at h;rw[hn]at h;split at h
 . rename_i h1;simp at h1 h;omega
 . rename_i h1;have:e=0:=by simpa using h1
   subst this;split at h
   . simp at h
   . split at h
     . simp at h
     . rename_i h2 h3;simp only[Prod.mk.injEq,and_true]at h;simp only at h2 h3;obtain⟨rfl,rfl⟩:=h;obtain⟨e1,_⟩:=numP_sound hn;have hj:j=(numB n).length:=by
        have:=congrArg List.length e1;have hu:=(numP_used l).1;rw[hn]at hu;simp only at hu;rw[zE,zN]at this;omega
       have hl:((l.drop j).take n).length=n:=by rw[zQ,zN];omega
       refine⟨?_,by rw[hl];omega,by rw[strB,hl,zE,hl,hj]⟩;rw[strB,hl,List.append_assoc,<- List.drop_drop,List.take_append_drop];exact e1
theorem listLoop_sound:∀(n:Nat) (l:List UInt8) (k:Nat) (acc ls:List (List UInt8)) (m:Nat),listLoop n l k acc=(ls,m,0)->k<=l.length->
 ∃ts,ls=acc++ts/\ts.length=n/\shortL ts/\l.drop k=textsB ts++l.drop m/\m=k+(textsB ts).length
 |0,l,k,acc,ls,m,h,_=>by
  simp only[listLoop,Prod.mk.injEq,and_true]at h;obtain⟨rfl,rfl⟩:=h;exact⟨[],by simp,rfl,by intro t ht;simp at ht,by simp[textsB],by simp[textsB]⟩
 |n+1,l,k,acc,ls,m,h,hk=>by
  obtain⟨t,j,e,hs⟩:∃t j e,strP (l.drop k)=(t,j,e):=⟨_,_,_,rfl⟩
  by_cases he:e=0
  . subst he;rw[loop_ok hs]at h;obtain⟨e1,e2,e3⟩:=strP_sound hs;have hj:k+j<=l.length:=by
     have:=congrArg List.length e1;rw[zE,zN]at this;omega
    obtain⟨ts,rfl,h2,h3,h4,h5⟩:=listLoop_sound n l (k+j) (acc++[t]) ls m h hj;refine⟨t::ts,by simp,by simp[h2],?_,?_,?_⟩
    . intro u hu;rcases List.mem_cons.1 hu with rfl|hu
      . exact e2
      . exact h3 u hu
    . rw[textsB_cons,List.append_assoc,<- h4,<- List.drop_drop];exact e1
    . rw[textsB_cons,zE];omega
  . rw[loop_err hs he]at h;simp only[Prod.mk.injEq]at h;exact absurd h.2.2 he
theorem listP_sound{l:List UInt8}{ls:List (List UInt8)}{k:Nat}(h:listP l=(ls,k,0)):l=listB ls++l.drop k/\ls.length<=4096/\shortL ls/\k=(listB ls).length:=by
 obtain⟨n,j,e,hn⟩:∃n j e,numP l=(n,j,e):=⟨_,_,_,rfl⟩
 unfold listP at h;rw[hn]at h;split at h
 . rename_i h1;simp at h1 h;omega
 . rename_i h1;have:e=0:=by simpa using h1
   subst this;split at h
   . simp at h
   . rename_i h2;obtain⟨e1,_⟩:=numP_sound hn;have hu:=(numP_used l).1;rw[hn]at hu;simp only at hu h;have hj:j=(numB n).length:=by
      have:=congrArg List.length e1;rw[zE,zN]at this;omega
     obtain⟨ts,h2a,h3,h4,h5,h6⟩:=listLoop_sound n l j [] ls k h hu;rw[List.nil_append]at h2a;subst h2a;refine⟨?_,by simp only at h2;omega,h4,by rw[listB,h3,zE,<- hj,h6]⟩;rw[listB,h3,List.append_assoc,<- h5];exact e1
theorem listLoop_shape:∀(n:Nat) (l:List UInt8) (k:Nat) (acc:List (List UInt8)),(listLoop n l k acc).2.2≠0->listLoop n l k acc=([],0,(listLoop n l k acc).2.2)
 |0,l,k,acc=>by simp[listLoop]
 |n+1,l,k,acc=>by
  unfold listLoop;split
  . simp
  . exact listLoop_shape n l _ _
theorem listP_shape(l:List UInt8):(listP l).2.2≠0->listP l=([],0,(listP l).2.2):=by
 unfold listP;split
 . simp
 . split
   . simp
   . exact listLoop_shape _ _ _ _
def numQ(l:List UInt8):Option (Nat×List UInt8):=if (numP l).2.2=0 then some ((numP l).1,l.drop (numP l).2.1)else none
def listQ(l:List UInt8):Option (List (List UInt8)×List UInt8):=if (listP l).2.2=0 then some ((listP l).1,l.drop (listP l).2.1)else none
def many{α:Type}(p:List UInt8->Option (α×List UInt8)):Nat->List UInt8->Option (List α×List UInt8)
 |0,l=>some ([],l)
 |n+1,l=>(many p n l).bind fun q=>(p q.2).bind fun x=>some (q.1++[x.1],x.2)
theorem numQ_sound{l r:List UInt8}{v:Nat}(h:numQ l=some (v,r)):l=numB v++r/\v<2^63:=by
 obtain⟨n,j,e,hn⟩:∃n j e,numP l=(n,j,e):=⟨_,_,_,rfl⟩
 unfold numQ at h;rw[hn]at h;simp only at h;split at h
 . rename_i h1;subst h1;simp only[Option.some.injEq,Prod.mk.injEq]at h;obtain⟨rfl,rfl⟩:=h;exact numP_sound hn
 . simp at h
theorem listQ_sound{l r:List UInt8}{v:List (List UInt8)}(h:listQ l=some (v,r)):l=listB v++r/\v.length<=4096/\shortL v:=by
 obtain⟨n,j,e,hn⟩:∃n j e,listP l=(n,j,e):=⟨_,_,_,rfl⟩
 unfold listQ at h;rw[hn]at h;simp only at h;split at h
 . rename_i h1;subst h1;simp only[Option.some.injEq,Prod.mk.injEq]at h;obtain⟨rfl,rfl⟩:=h;obtain⟨a,b,c,_⟩:=listP_sound hn;exact⟨a,b,c⟩
 . simp at h
theorem numQ_back(v:Nat)(h:v<2^63)(r:List UInt8):numQ (numB v++r)=some (v,r):=by
 unfold numQ;rw[numP_numB v h];simp
theorem listQ_back(ls:List (List UInt8))(hl:ls.length<=4096)(h:shortL ls)(r:List UInt8):listQ (listB ls++r)=some (ls,r):=by
 unfold listQ listB;rw[listP_back ls hl h];simp
theorem many_sound{α:Type}{p:List UInt8->Option (α×List UInt8)}{f:α->List UInt8}(hp:∀l x r,p l=some (x,r)->l=f x++r):
 ∀(n:Nat) (l:List UInt8) (xs:List α) (r:List UInt8),many p n l=some (xs,r)->l=(xs.map f).flatten++r/\xs.length=n
 |0,l,xs,r,h=>by
  simp only[many,Option.some.injEq,Prod.mk.injEq]at h;obtain⟨rfl,rfl⟩:=h;simp
 |n+1,l,xs,r,h=>by
  simp only[many,Option.bind_eq_some_iff]at h;obtain⟨⟨ys,q⟩,h1,⟨x,r2⟩,h2,h3⟩:=h;simp only[Option.some.injEq,Prod.mk.injEq]at h2 h3;obtain⟨rfl,rfl⟩:=h3;obtain⟨e1,e2⟩:=many_sound hp n l ys q h1;have e3:=hp q x r2 h2;refine⟨?_,by simp[e2]⟩;rw[e1,e3];simp
theorem many_back{α:Type}{p:List UInt8->Option (α×List UInt8)}{f:α->List UInt8}(xs:List α)(hp:∀x∈xs,∀r,p (f x++r)=some (x,r))(r:List UInt8):
 ∀i,i<=xs.length->many p i ((xs.map f).flatten++r)=some (xs.take i,((xs.drop i).map f).flatten++r)
 |0,_=>by simp[many]
 |i+1,h=>by
  have hx:xs.drop i=xs[i]::xs.drop (i+1):=List.drop_eq_getElem_cons h;rw[many,many_back xs hp r i (by omega),Option.bind_some];simp only;rw[hx,List.map_cons,List.flatten_cons,List.append_assoc,hp xs[i] (List.getElem_mem h),Option.bind_some,List.take_succ_eq_append_getElem h]
def readP(l:List UInt8):Option NoteD:=
 (numQ l).bind fun a=>(numQ a.2).bind fun c=>if 64<c.1 then none else (many numQ c.1 c.2).bind fun ns=>
  (listQ ns.2).bind fun ts=>(numQ ts.2).bind fun m=>if 4096<m.1 then none else (many listQ m.1 m.2).bind fun rs=>
   if rs.2=[]/\(NoteD.mk a.1 (ns.1.map Int.ofNat) ts.1 rs.1).numsOk/\(NoteD.mk a.1 (ns.1.map Int.ofNat) ts.1 rs.1).textsOk then some ⟨a.1,ns.1.map Int.ofNat,ts.1,rs.1⟩else none
theorem numsB_nat(ns:List Nat):numsB (ns.map Int.ofNat)=(ns.map numB).flatten:=by
 simp only[numsB,List.map_map];rfl
theorem readP_sound{l:List UInt8}{n:NoteD}(h:readP l=some n):l=n.body/\n.numsOk/\n.textsOk:=by
 unfold readP at h;simp only[Option.bind_eq_some_iff]at h;obtain⟨⟨k,l1⟩,h1,⟨c,l2⟩,h2,h⟩:=h;simp only at h h2;split at h
 . simp at h
 . simp only[Option.bind_eq_some_iff]at h;obtain⟨⟨ns,l3⟩,h3,⟨ts,l4⟩,h4,⟨m,l5⟩,h5,h⟩:=h;simp only at h h4 h5;split at h
   . simp at h
   . simp only[Option.bind_eq_some_iff]at h;obtain⟨⟨rs,l6⟩,h6,h⟩:=h;simp only at h;split at h
     . rename_i hg;obtain⟨rfl,g1,g2⟩:=hg;simp only[Option.some.injEq]at h;subst h;refine⟨?_,g1,g2⟩;obtain⟨e1,_⟩:=numQ_sound h1;obtain⟨e2,_⟩:=numQ_sound h2;obtain⟨e3,f3⟩:=many_sound (f:=numB) (fun l x r hh=>(numQ_sound hh).1) c l2 ns l3 h3;obtain⟨e4,_⟩:=listQ_sound h4;obtain⟨e5,_⟩:=numQ_sound h5;obtain⟨e6,f6⟩:=many_sound (f:=listB) (fun l x r hh=>(listQ_sound hh).1) m l5 rs [] h6;simp only[NoteD.body,List.length_map,numsB_nat,rowsB,Int.toNat_natCast];rw[e1,e2,e3,e4,e5,e6,f3,f6,List.append_nil]
     . simp at h
theorem cast_nums(ns:List Int)(h:∀x∈ns,goodNum x):(ns.map Int.toNat).map Int.ofNat=ns:=by
 rw[List.map_map];conv=>rhs;rw[<- List.map_id ns]
 apply List.map_congr_left;intro x hx;have:=(h x hx).1;simp only[Function.comp,id];exact Int.toNat_of_nonneg this
theorem len_le_cntR{rs:List (List (List UInt8))}{r:List (List UInt8)}(h:r∈rs):r.length<=cntR rs:=by
 induction rs with
 |nil=>simp at h
 |cons t ls ih=>
  simp only[cntR,List.map_cons,List.sum_cons]at*;rcases List.mem_cons.1 h with rfl|h
  . omega
  . have:=ih h;omega
theorem readP_body(n:NoteD)(h1:n.numsOk)(h2:n.textsOk):readP n.body=some n:=by
 obtain⟨a1,a2,a3,a4⟩:=h1;obtain⟨b1,b2,b3,b4⟩:=h2;have hk:((n.kind.toNat:Nat):Int)=n.kind:=Int.toNat_of_nonneg (by omega);have hns:numsB n.nums=((n.nums.map Int.toNat).map numB).flatten:=by
  rw[<- numsB_nat,cast_nums n.nums a4]
 have m1:=many_back (p:=numQ) (f:=numB) (n.nums.map Int.toNat) (by
  intro x hx r;obtain⟨y,hy,rfl⟩:=List.mem_map.1 hx;have:=a4 y hy;exact numQ_back _ (by have:=this.2;omega) r) (listB n.texts++(numB n.rows.length++rowsB n.rows)) n.nums.length (by simp)
 have m2:=many_back (p:=listQ) (f:=listB) n.rows (by
  intro x hx r;exact listQ_back x (by have:=len_le_cntR hx;omega) (b4 x hx) r) [] n.rows.length (zC _)
 rw[List.append_nil]at m2;unfold readP NoteD.body;rw[numQ_back _ (by omega),Option.bind_some];simp only;rw[numQ_back _ (by omega),Option.bind_some];simp only;rw[if_neg (by omega),hns,m1,Option.bind_some];simp only;rw[zI (by simp),List.drop_of_length_le (by simp),List.map_nil,List.flatten_nil,List.nil_append,listQ_back _ (by omega) b3,Option.bind_some];simp only;rw[numQ_back _ (by omega),Option.bind_some];simp only;rw[if_neg (by omega),rowsB,m2,Option.bind_some];simp only;rw[zI (by simp),List.drop_of_length_le (by simp),cast_nums n.nums a4,hk];simp only[List.map_nil,List.flatten_nil];exact if_pos ⟨rfl,⟨a1,a2,a3,a4⟩,b1,b2,b3,b4⟩
def fourB(n:Nat):List UInt8:=[UInt8.ofNat (n/16777216%256),UInt8.ofNat (n/65536%256),UInt8.ofNat (n/256%256),UInt8.ofNat (n%256)]
def fourN(l:List UInt8):Nat:=beVal (l.take 4)
theorem fourB_len(n:Nat):(fourB n).length=4:=rfl
theorem fourN_fourB(n:Nat)(h:n<4294967296)(r:List UInt8):fourN (fourB n++r)=n:=by
 have e:(fourB n++r).take 4=fourB n:=List.take_left' rfl;rw[fourN,e];simp only[fourB,beVal,List.foldl_cons,List.foldl_nil,UInt8.toNat_ofNat'];omega
theorem fourN_lt(l:List UInt8):fourN l<4294967296:=by
 have:=beVal_lt (l.take 4);have h4:(l.take 4).length<=4:=by rw[zQ];omega
 have:=Nat.pow_le_pow_right (n:=256) (by omega) h4;rw[fourN];omega
theorem fourB_fourN(l:List UInt8)(h:4<=l.length):fourB (fourN l)=l.take 4:=by
 obtain⟨a,b,c,d,r,rfl⟩:∃a b c d r,l=a::b::c::d::r:=by
  match l,h with
  |a::b::c::d::r,_=>exact⟨a,b,c,d,r,rfl⟩
 have ha:=a.toNat_lt;have hb:=b.toNat_lt;have hc:=c.toNat_lt;have hd:=d.toNat_lt;simp only[fourN,List.take_succ_cons,List.take_zero,beVal,List.foldl_cons,List.foldl_nil,fourB];have e1:((((0*256+a.toNat)*256+b.toNat)*256+c.toNat)*256+d.toNat)/16777216%256=a.toNat:=by omega
 have e2:((((0*256+a.toNat)*256+b.toNat)*256+c.toNat)*256+d.toNat)/65536%256=b.toNat:=by omega
 have e3:((((0*256+a.toNat)*256+b.toNat)*256+c.toNat)*256+d.toNat)/256%256=c.toNat:=by omega
 have e4:((((0*256+a.toNat)*256+b.toNat)*256+c.toNat)*256+d.toNat)%256=d.toNat:=by omega
 rw[e1,e2,e3,e4,UInt8.ofNat_toNat,UInt8.ofNat_toNat,UInt8.ofNat_toNat,UInt8.ofNat_toNat]
def sealB(b:List UInt8):List UInt8:=fourB b.length++(fourB (sumN b)++b)
theorem sealB_len(b:List UInt8):(sealB b).length=8+b.length:=by simp[sealB,fourB];omega
def NoteD.none:NoteD:=⟨0,[],[],[]⟩
def unpackP(l:List UInt8):NoteD×Nat×Nat:=
 if l.length<8 then (.none,0,11)
 else if 1048576<fourN l then (.none,0,31)
 else if l.length-8<fourN l then (.none,0,11)
 else if sumN ((l.drop 8).take (fourN l))≠fourN (l.drop 4)then (.none,0,30)
 else match readP ((l.drop 8).take (fourN l))with
  | .none=>(.none,0,31)
  |some n=>(n,8+fourN l,0)
theorem unpackP_seal(n:NoteD)(h:n.may)(r:List UInt8):unpackP (sealB n.body++r)=(n,(sealB n.body).length,0):=by
 obtain⟨h1,h2,h3⟩:=h;have e:sealB n.body++r=fourB n.body.length++(fourB (sumN n.body)++(n.body++r)):=by simp[sealB]
 have e4:(sealB n.body++r).drop 4=fourB (sumN n.body)++(n.body++r):=by rw[e];exact List.drop_left' rfl
 have e8:(sealB n.body++r).drop 8=n.body++r:=by
  rw[show 8=4+4 from rfl,<- List.drop_drop,e4];exact List.drop_left' rfl
 have hf:fourN (sealB n.body++r)=n.body.length:=by rw[e];exact fourN_fourB _ (by omega) _
 have hs:fourN ((sealB n.body++r).drop 4)=sumN n.body:=by rw[e4];exact fourN_fourB _ (sumN_lt _) _
 have ht:((sealB n.body++r).drop 8).take n.body.length=n.body:=by rw[e8];exact List.take_left' rfl
 have hl:(sealB n.body++r).length=8+n.body.length+r.length:=by rw[zE,sealB_len]
 unfold unpackP;rw[hf,hs,ht,hl,if_neg (by omega),if_neg (by omega),if_neg (by omega),if_neg (by simp),readP_body n h1 h2,sealB_len]
theorem unpackP_ok{l:List UInt8}{n:NoteD}{k:Nat}(h:unpackP l=(n,k,0)):n.may/\l=sealB n.body++l.drop k/\k=(sealB n.body).length:=by
 unfold unpackP at h;split at h
 . simp at h
 . split at h
   . simp at h
   . split at h
     . simp at h
     . split at h
       . simp at h
       . rename_i g1 g2 g3 g4;split at h
         . simp at h
         . rename_i m hm;simp only[Prod.mk.injEq,and_true]at h;obtain⟨rfl,rfl⟩:=h;obtain⟨e1,e2,e3⟩:=readP_sound hm;have hlen:((l.drop 8).take (fourN l)).length=fourN l:=by rw[zQ,zN];omega
           have hb:m.body.length=fourN l:=by rw[<- e1,hlen]
           have hsum:sumN ((l.drop 8).take (fourN l))=fourN (l.drop 4):=Classical.byContradiction g4;refine⟨⟨e2,e3,by omega⟩,?_,by rw[sealB_len,hb]⟩;rw[sealB,hb,fourB_fourN l (by omega),<- e1,hsum,fourB_fourN (l.drop 4) (by rw[zN];omega)];rw[List.append_assoc,List.append_assoc,<- List.drop_drop,List.take_append_drop,show 8=4+4 from rfl,<- List.drop_drop,List.take_append_drop,List.take_append_drop]
end Go.Proofs.Ytjoddkeamboeoaa
