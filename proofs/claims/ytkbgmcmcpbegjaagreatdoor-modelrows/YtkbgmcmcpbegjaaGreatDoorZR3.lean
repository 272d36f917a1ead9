/- AMath2, AMath3, MMath, VIs, QBase. -/
import Derived.Test.YtkbgmcmcpbegjaaGreatDoorZR1
import Derived.Test.YtkbgmcmcpbegjaaGreatDoorZR2
import Derived.WalkSpells
import Derived.WalkLawsBesides
import Derived.WalkSmall
import Derived.BigQuiet
import Derived.Deep.QuietTactic
import Derived.Deep.AppendLies
set_option maxRecDepth 100000
set_option maxHeartbeats 1000000
namespace Go.Proofs.YtkbgmcmcpbegjaaGreatDoor
open Go.RowKit
structure Au where
 words:List Wd
 first:List Int
 last:List Int
 follow:List (List Int)
 empty:Bool
def jgW(n:Nat):Int->List Int->Bool
 |_,[]=>true
 |b,x::l=>decide (b<x)&&decide (x<n)&&jgW n x l
def jdH(n:Nat)(l:List Int):Bool:=jgW n (-1) l
def mayA(a:Au):Bool:=decide (a.words.length<=24)&&decide (a.follow.length=a.words.length)&&jdH a.words.length a.first&&jdH a.words.length a.last&&a.words.all isW&&a.follow.all (jdH a.words.length)
def outA(a:Au)(s:Int):List Int:=if s<0 then a.first else a.follow.getD s.toNat []
def jhs(a:Au)(s:Int):Option Wd:=a.words[s.toNat]?
def isPl(a:Au)(s:Int):Bool:=decide (-1<=s)&&decide (s<a.words.length)
def jfH(a:Au)(s:Int)(w:Wd):List Int:=if mayA a=true/\isPl a s=true then (outA a s).filter (fun x=>decide (jhs a x=some w))else []
def jeV(a:Au)(s:Int):Bool:=mayA a&&isPl a s&&(if s<0 then a.empty else decide (s∈a.last))
def accW(a:Au):Int->List Wd->Prop
 |s,[]=>jeV a s=true
 |s,w::l=>∃y∈jfH a s w,accW a y l
def accA(a:Au)(l:List Wd):Prop:=mayA a=true/\accW a (-1) l
theorem jgJ{n:Nat}:∀(l:List Int) (b:Int),jgW n b l=true->∀x∈l,b<x/\x<n
 |[],_,_=>by simp
 |y::l,b,h=>by
  simp only[jgW,Bool.and_eq_true,decide_eq_true_eq]at h;intro x hx;rcases yB.1 hx with rfl|hx
  . exact h.1
  . have:=jgJ l y h.2 x hx;omega
theorem ja7{n:Nat}{l:List Int}(h:jdH n l=true){x:Int}(hx:x∈l):0<=x/\x<n:=by
 have:=jgJ l (-1) h x hx;omega
def rise(n:Nat)(l:List Nat):List Int:=((List.range n).filter (fun k=>decide (k∈l))).map Int.ofNat
theorem jdg{n:Nat}{l:List Nat}{x:Nat}:(x:Int)∈rise n l↔x<n/\x∈l:=by
 unfold rise;simp only[zV,zY,yK,decide_eq_true_eq];constructor
 . rintro⟨y,⟨h1,h2⟩,e⟩;have:y=x:=Int.ofNat.inj e;subst this;exact⟨h1,h2⟩
 . rintro⟨h1,h2⟩;exact⟨x,⟨h1,h2⟩,rfl⟩
theorem jh0{n:Nat}{l:List Nat}{z:Int}(h:z∈rise n l):∃x:Nat,z=x:=by
 obtain⟨x,_,rfl⟩:=zV.1 h;exact⟨x,rfl⟩
theorem jcV{P:Nat->Bool}{N:Nat}:∀(k s:Nat) (b:Int),b<s->s+k<=N->jgW N b (((List.range' s k).filter P).map Int.ofNat)=true
 |0,s,b,_,_=>rfl
 |k+1,s,b,hb,hN=>by
  rw[List.range'_succ,List.filter_cons];split
  . rw[List.map_cons,jgW,jcV k (s+1) (Int.ofNat s) (by simp only[Int.ofNat_eq_natCast];omega) (by omega)];simp only[Int.ofNat_eq_natCast,Bool.and_true,Bool.and_eq_true,decide_eq_true_eq];omega
  . exact jcV k (s+1) b (by omega) (by omega)
theorem jei(n:Nat)(l:List Nat):jdH n (rise n l)=true:=by
 unfold jdH rise;rw[List.range_eq_range'];exact jcV n 0 (-1) (by omega) (by omega)
def folN(ps:List (Nat×Nat))(k:Nat):List Nat:=(ps.filter (fun p=>decide (p.1=k))).map (·.2)
theorem jbK{ps:List (Nat×Nat)}{k y:Nat}:y∈folN ps k↔(k,y)∈ps:=by
 unfold folN;simp only[zV,zY,decide_eq_true_eq];constructor
 . rintro⟨⟨a,b⟩,⟨h,e1⟩,e2⟩;dsimp only at e1 e2;subst e1 e2;exact h
 . intro h;exact⟨(k,y),⟨h,rfl⟩,rfl⟩
def auOf(x:Prt):Au:=⟨x.words,rise x.words.length x.first,rise x.words.length x.last,(List.range x.words.length).map (fun k=>rise x.words.length (folN x.pairs k)),x.empty⟩
theorem jhr(x:Prt){k:Nat}(h:k<x.words.length):(auOf x).follow.getD k []=rise x.words.length (folN x.pairs k):=by
 simp[auOf,List.getD,List.getElem?_map,List.getElem?_range h]
theorem jkB{x:Prt}(h1:x.words.length<=24)(h2:x.words.all isW=true):mayA (auOf x)=true:=by
 have hf:(auOf x).follow.all (jdH (auOf x).words.length)=true:=by
  rw[yF];intro l hl;obtain⟨k,_,rfl⟩:=zV.1 hl;exact jei _ _
 have hl:(auOf x).follow.length=(auOf x).words.length:=by simp[auOf]
 unfold mayA;rw[hf,zU hl,show (auOf x).words=x.words from rfl,h2,zU h1,show jdH x.words.length (auOf x).first=true from jei _ _,show jdH x.words.length (auOf x).last=true from jei _ _];rfl
theorem jfX{x:Prt}(hx:Fits x)(hm:mayA (auOf x)=true):∀(l:List Wd) (a:Nat),a<x.words.length->(accW (auOf x) (a:Int) l↔∃r,ja6 x a r/\l.map some=r.map fun i=>x.words[i]?)
 |[],a,ha=>by
  have hp:isPl (auOf x) (a:Int)=true:=by
   simp only[isPl,Bool.and_eq_true,decide_eq_true_eq];exact⟨by omega,by show (a:Int)<(x.words.length:Int);omega⟩
  show jeV (auOf x) (a:Int)=true↔_;rw[jeV,hm,hp,if_neg (by omega),Bool.true_and,Bool.true_and,decide_eq_true_eq];rw[show (auOf x).last=rise x.words.length x.last from rfl,jdg];constructor
  . rintro⟨_,h⟩;exact⟨[],h,rfl⟩
  . rintro⟨r,h,e⟩;cases r with
    |nil=>exact⟨ha,h⟩
    |cons z r=>simp at e
 |w::l,a,ha=>by
  have hp:isPl (auOf x) (a:Int)=true:=by
   simp only[isPl,Bool.and_eq_true,decide_eq_true_eq];exact⟨by omega,by show (a:Int)<(x.words.length:Int);omega⟩
  show (∃y∈jfH (auOf x) (a:Int) w,accW (auOf x) y l)↔_;rw[jfH,if_pos ⟨hm,hp⟩,outA,if_neg (by omega),Int.toNat_natCast,jhr x ha];constructor
  . rintro⟨y,hy,hw⟩;obtain⟨h1,h2⟩:=zY.1 hy;obtain⟨b,rfl⟩:=jh0 h1;obtain⟨hb,h3⟩:=jdg.1 h1;obtain⟨r,hr,e⟩:=(jfX hx hm l b hb).1 hw;refine⟨b::r,⟨jbK.1 h3,hr⟩,?_⟩;rw[List.map_cons,List.map_cons,e];congr 1;have h2:=of_decide_eq_true h2;rw[jhs,Int.toNat_natCast]at h2;exact h2.symm
  . rintro⟨r,hr,e⟩;cases r with
    |nil=>simp at e
    |cons b r=>
     rw[List.map_cons,List.map_cons,List.cons.injEq]at e;have hb:=(hx.pairs a b hr.1).2;refine⟨(b:Int),zY.2 ⟨jdg.2 ⟨hb,jbK.2 hr.1⟩,?_⟩,(jfX hx hm l b hb).2 ⟨r,hr.2,e.2⟩⟩;apply zU;rw[jhs,Int.toNat_natCast];exact e.1.symm
theorem jkO{x:Prt}(hx:Fits x)(hm:mayA (auOf x)=true)(l:List Wd):accA (auOf x) l↔jaO x l:=by
 have hp:isPl (auOf x) (-1)=true:=by
  simp only[isPl,Bool.and_eq_true,decide_eq_true_eq];omega
 unfold accA;cases l with
 |nil=>
  show mayA (auOf x)=true/\jeV (auOf x) (-1)=true↔_;rw[jeV,hm,hp,if_pos (by omega),Bool.true_and,Bool.true_and];constructor
  . rintro⟨_,h⟩;exact⟨[],h,rfl⟩
  . rintro⟨ps,hr,e⟩;cases ps with
    |nil=>exact⟨rfl,hr⟩
    |cons a r=>simp at e
 |cons w l=>
  show mayA (auOf x)=true/\(∃y∈jfH (auOf x) (-1) w,accW (auOf x) y l)↔_;rw[jfH,if_pos ⟨hm,hp⟩,outA,if_pos (by omega)];constructor
  . rintro⟨_,y,hy,hw⟩;obtain⟨h1,h2⟩:=zY.1 hy;obtain⟨b,rfl⟩:=jh0 h1;obtain⟨hb,h3⟩:=jdg.1 h1;obtain⟨r,hr,e⟩:=(jfX hx hm l b hb).1 hw;refine⟨b::r,⟨h3,hr⟩,?_⟩;rw[List.map_cons,List.map_cons,e];congr 1;have h2:=of_decide_eq_true h2;rw[jhs,Int.toNat_natCast]at h2;exact h2.symm
  . rintro⟨ps,hr,e⟩;cases ps with
    |nil=>simp at e
    |cons b r=>
     rw[List.map_cons,List.map_cons,List.cons.injEq]at e;have hb:=hx.first b hr.1
     refine⟨hm,(b:Int),zY.2 ⟨jdg.2 ⟨hb,hr.1⟩,?_⟩,(jfX hx hm l b hb).2 ⟨r,hr.2,e.2⟩⟩;apply zU;rw[jhs,Int.toNat_natCast];exact e.1.symm
def jaF(t:Pt):Au:=auOf (jay t)
theorem jcF{f:Prt->Prt->Prt}(hf:∀x y,(f x y).words=x.words++y.words):∀(ps:List Prt) (x:Prt),(ps.foldl f x).words=x.words++(ps.map (·.words)).flatten
 |[],x=>by simp
 |p::ps,x=>by rw[yN,jcF hf ps,hf];simp
theorem jdc:∀t:Pt,(∀d,jaf d t=true->(jay t).words.all isW=true)/\(jay t).words.length=jap t:=by
 refine Pt.ind (fun k w kids ih=>?_);rw[jcC,jaJ];have hs:((kids.map jay).foldl seqC (prt0 true)).words=((kids.map jay).map (·.words)).flatten:=by rw[jcF (fun _ _=>rfl)];rfl
 have ha:((kids.map jay).foldl altC (prt0 false)).words=((kids.map jay).map (·.words)).flatten:=by rw[jcF (fun _ _=>rfl)];rfl
 by_cases h1:k=1
 . subst h1;refine⟨fun d hd=>?_,by simp[jev]⟩;cases d with
   |zero=>cases hd
   |succ d=>
    simp only[jaf,Bool.and_eq_true]at hd;have:=hd.1.1;simp[jam]at this;simp[jev,this.2]
 . have hw:(jev k w (kids.map jay)).words=((kids.map jay).map (·.words)).flatten:=by
    unfold jev;rw[if_neg h1];split
    . exact hs
    . split
      . exact ha
      . split
        . exact ha
        . split<;>exact ha
   rw[hw,if_neg h1];refine⟨fun d hd=>?_,?_⟩
   . cases d with
     |zero=>cases hd
     |succ d=>
      simp only[jaf,Bool.and_eq_true,yF]at hd;rw[yF];intro u hu;obtain⟨l,hl,aa⟩:=List.mem_flatten.1 hu;rw[List.map_map]at hl;obtain⟨x,hx,rfl⟩:=zV.1 hl;have:=(ih x hx).1 d (hd.2 x hx);rw[yF]at this;exact this u aa
   . rw[List.length_flatten,List.map_map,List.map_map];congr 1;exact yR (fun x hx=>(ih x hx).2)
theorem jc1{t:Pt}(h:mayP t=true):mayA (jaF t)=true/\∀l,accA (jaF t) l↔jbe t l:=by
 simp only[mayP,Bool.and_eq_true,decide_eq_true_eq]at h;have hm:mayA (jaF t)=true:=jkB (by rw[(jdc t).2];exact h.2) ((jdc t).1 12 h.1);obtain⟨h1,h2⟩:=jeF t;exact⟨hm,fun l=>(jkO h1 hm l).trans (h2 l)⟩
theorem jhe{f:List Wd->Prop}:altL [f]=f:=by
 funext l;simp[altL]
theorem jdl(n:Nat)(a b:List Nat):up n (a++b)=up n a++up n b:=by simp[up]
theorem jiR(n m:Nat)(a:List Nat):up n (up m a)=up (n+m) a:=by
 simp only[up,List.map_map];exact yR (fun x _=>by simp only[Function.comp];omega)
theorem jcy(n:Nat)(a b:List (Nat×Nat)):upP n (a++b)=upP n a++upP n b:=by simp[upP]
theorem jjp(n m:Nat)(a:List (Nat×Nat)):upP n (upP m a)=upP (n+m) a:=by
 simp only[upP,List.map_map];exact yR (fun x _=>by simp only[Function.comp,Prod.mk.injEq];omega)
theorem jh4(n:Nat)(a b:List Nat):upP n (je0 a b)=je0 (up n a) (up n b):=by
 simp only[upP,je0,up,List.map_flatMap,List.flatMap_map,List.map_map];rfl
structure Ords {α:Type} (lt:α->α->Bool):Prop where
 irr:∀a,lt a a=false
 tr:∀a b c,lt a b=true->lt b c=true->lt a c=true
 tot:∀a b,lt a b=false->lt b a=false->a=b
section
variable {α:Type} {lt:α->α->Bool}
theorem Ords.ne(o:Ords lt){a b:α}(h:lt a b=true):a≠b:=by
 intro e;rw[e,o.irr]at h;cases h
theorem Ords.asymm(o:Ords lt){a b:α}(h:lt a b=true):lt b a=false:=by
 cases hb:lt b a with
 |false=>rfl
 |true=>
  have:=o.tr a b a h hb;rw[o.irr]at this;cases this
def ja2(lt:α->α->Bool)(l:List α):Prop:=l.Pairwise (fun a b=>lt a b=true)
theorem jbA(o:Ords lt):∀ {l1 l2:List α},ja2 lt l1->ja2 lt l2->(∀t,t∈l1↔t∈l2)->l1=l2
 |[],[],_,_,_=>rfl
 |[],b::l2,_,_,h=>absurd ((h b).2 (by simp)) (by simp)
 |a::l1,[],_,_,h=>absurd ((h a).1 (by simp)) (by simp)
 |a::l1,b::l2,h1,h2,h=>by
  obtain⟨g1,r1⟩:=List.pairwise_cons.1 h1;obtain⟨g2,r2⟩:=List.pairwise_cons.1 h2;have hab:a=b:=by
   rcases yB.1 ((h a).1 (by simp))with e|e
   . exact e
   . rcases yB.1 ((h b).2 (by simp))with e'|e'
     . exact e'.symm
     . have:=o.asymm (g2 a e);rw[g1 b e']at this;cases this
  subst hab;rw[jbA o r1 r2 (fun t=>?_)];constructor
  . intro ht;rcases yB.1 ((h t).1 (zR _ ht))with e|e
    . subst e;exact absurd rfl (o.ne (g1 t ht))
    . exact e
  . intro ht;rcases yB.1 ((h t).2 (zR _ ht))with e|e
    . subst e;exact absurd rfl (o.ne (g2 t ht))
    . exact e
theorem ja2.lt_at(_o:Ords lt){l:List α}(h:ja2 lt l){i j:Nat}{x y:α}(hx:l[i]?=some x)(hy:l[j]?=some y)(hij:i<j):lt x y=true:=by
 have hj:=(zE.1 hy).1;have hi:=(zE.1 hx).1;have e1:=(zE.1 hx).2;have e2:=(zE.1 hy).2;have:=List.pairwise_iff_getElem.1 h i j hi hj hij;rw[e1,e2]at this;exact this
theorem ja2.once(o:Ords lt){l:List α}(h:ja2 lt l){i j:Nat}{x:α}(hx:l[i]?=some x)(hy:l[j]?=some x):i=j:=by
 rcases Nat.lt_trichotomy i j with ab|e|aa
 . exact absurd rfl (o.ne (h.lt_at o hx hy ab))
 . exact e
 . exact absurd rfl (o.ne (h.lt_at o hy hx aa))
end
section
variable {α:Type} [DecidableEq α] {lt:α->α->Bool}
def putL(lt:α->α->Bool):List α->α->List α
 |[],t=>[t]
 |a::l,t=>if lt a t=true then a::putL lt l t else if a=t then a::l else t::a::l
theorem jb3{x t:α}:∀ {l:List α},x∈putL lt l t↔x=t\/x∈l
 |[]=>by simp[putL]
 |a::l=>by
  unfold putL;by_cases h:lt a t=true
  . rw[if_pos h,yB,jb3 (l:=l),yB];constructor
    . rintro (h|h|h)
      . exact .inr (.inl h)
      . exact .inl h
      . exact .inr (.inr h)
    . rintro (h|h|h)
      . exact .inr (.inl h)
      . exact .inl h
      . exact .inr (.inr h)
  . rw[if_neg h];by_cases e:a=t
    . rw[if_pos e];subst e;simp
    . rw[if_neg e];simp
theorem ja2.put(o:Ords lt){t:α}:∀ {l:List α},ja2 lt l->ja2 lt (putL lt l t)
 |[],_=>by simp[putL,ja2]
 |a::l,h=>by
  obtain⟨g,r⟩:=List.pairwise_cons.1 h;unfold putL;by_cases h1:lt a t=true
  . rw[if_pos h1];refine List.pairwise_cons.2 ⟨fun x hx=>?_,ja2.put o r⟩;rcases jb3.1 hx with e|e
    . subst e;exact h1
    . exact g x e
  . rw[if_neg h1];by_cases e:a=t
    . rw[if_pos e];exact h
    . rw[if_neg e];have h2:lt t a=true:=by
       cases h3:lt t a with
       |true=>rfl
       |false=>exact absurd (o.tot a t (by simpa using h1) h3) e
      refine List.pairwise_cons.2 ⟨fun x hx=>?_,h⟩;rcases yB.1 hx with e|e
      . subst e;exact h2
      . exact o.tr _ _ _ h2 (g x e)
theorem jcU:∀ {l:List α} {t:α} {k:Nat},k<=l.length->(∀(i:Nat) x,i<k->l[i]?=some x->lt x t=true)->(∀x,l[k]?=some x->lt x t=false)->
 putL lt l t=if l[k]?=some t then l else l.take k++[t]++l.drop k
 |[],t,k,hk,_,_=>by
  obtain rfl:k=0:=by simpa using hk
  simp[putL]
 |a::l,t,0,_,_,h2=>by
  have:=h2 a (by simp);unfold putL;rw[if_neg (by rw[this];simp)];by_cases e:a=t
  . rw[if_pos e,if_pos (by simp[e])]
  . rw[if_neg e,if_neg (by simpa using e)];simp
 |a::l,t,k+1,hk,h1,h2=>by
  have h0:=h1 0 a (by omega) (by simp);unfold putL;rw[if_pos h0,jcU (k:=k) (by simpa using hk) (fun i x hi hx=>h1 (i+1) x (by omega) (by simpa using hx)) (fun x hx=>h2 x (by simpa using hx))];simp only[List.getElem?_cons_succ,List.take_succ_cons,List.drop_succ_cons];split<;>simp
theorem jea(l:List α)(t:α):(putL lt l t).length<=l.length+1:=by
 induction l with
 |nil=>simp[putL]
 |cons a l ih=>
  unfold putL;split
  . simp;omega
  . split<;>simp
end
theorem ordW:Ords less:=⟨jcW,jcE,jdy⟩
abbrev Rw:=List Wd
def jaE:Rw->Rw->Bool
 |[],[]=>false
 |[],_::_=>true
 |_::_,[]=>false
 |a::l,b::r=>if a=b then jaE l r else less a b
theorem jgu:∀a:Rw,jaE a a=false
 |[]=>rfl
 |a::l=>by rw[jaE,if_pos rfl];exact jgu l
theorem jd8:∀a b c:Rw,jaE a b=true->jaE b c=true->jaE a c=true
 |[],[],c,h,_=>by simp[jaE]at h
 |[],b::r,[],_,h=>by simp[jaE]at h
 |[],b::r,c::s,_,_=>rfl
 |a::l,[],c,h,_=>by simp[jaE]at h
 |a::l,b::r,[],_,h=>by simp[jaE]at h
 |a::l,b::r,c::s,h1,h2=>by
  rw[jaE]at h1 h2 ⊢;by_cases e1:a=b
  . subst e1;rw[if_pos rfl]at h1;by_cases e2:a=c
    . subst e2;rw[if_pos rfl]at h2 ⊢;exact jd8 l r s h1 h2
    . rw[if_neg e2]at h2 ⊢;exact h2
  . rw[if_neg e1]at h1;by_cases e2:b=c
    . subst e2;rw[if_neg e1];exact h1
    . rw[if_neg e2]at h2;have h3:=jcE a b c h1 h2;rw[if_neg (ordW.ne h3)];exact h3
theorem jeN:∀a b:Rw,jaE a b=false->jaE b a=false->a=b
 |[],[],_,_=>rfl
 |[],b::r,h,_=>by simp[jaE]at h
 |a::l,[],_,h=>by simp[jaE]at h
 |a::l,b::r,h1,h2=>by
  rw[jaE]at h1 h2;by_cases e:a=b
  . subst e;rw[if_pos rfl]at h1 h2;rw[jeN l r h1 h2]
  . rw[if_neg e]at h1;rw[if_neg (fun x=>e x.symm)]at h2;exact absurd (jdy a b h1 h2) e
theorem ordR:Ords jaE:=⟨jgu,jd8,jeN⟩
abbrev Fa:=Wd×Wd×Wd
def jac(fs:List Fa):List Wd:=fs.foldl (fun l f=>putL less (putL less l f.1) f.2.2) []
theorem jdK:∀(fs:List Fa) (l:List Wd),ja2 less l->ja2 less (fs.foldl (fun l f=>putL less (putL less l f.1) f.2.2) l)/\∀x,x∈fs.foldl (fun l f=>putL less (putL less l f.1) f.2.2) l↔x∈l\/∃f∈fs,x=f.1\/x=f.2.2
 |[],l,h=>⟨h,fun x=>by simp⟩
 |f::fs,l,h=>by
  rw[yN];obtain⟨h1,h2⟩:=jdK fs (putL less (putL less l f.1) f.2.2) ((h.put ordW).put ordW);refine⟨h1,fun x=>?_⟩;rw[h2,jb3,jb3];constructor
  . rintro ((h|h|h)|⟨g,hg,h⟩)
    . exact .inr ⟨f,zN ..,.inr h⟩
    . exact .inr ⟨f,zN ..,.inl h⟩
    . exact .inl h
    . exact .inr ⟨g,zR _ hg,h⟩
  . rintro (h|⟨g,hg,h⟩)
    . exact .inl (.inr (.inr h))
    . rcases yB.1 hg with rfl|hg
      . rcases h with h|h
        . exact .inl (.inr (.inl h))
        . exact .inl (.inl h)
      . exact .inr ⟨g,hg,h⟩
theorem jaY(fs:List Fa):ja2 less (jac fs):=(jdK fs [] List.Pairwise.nil).1
theorem jax{fs:List Fa}{x:Wd}:x∈jac fs↔∃f∈fs,x=f.1\/x=f.2.2:=by
 rw[jac,(jdK fs [] List.Pairwise.nil).2];simp
theorem jir(fs:List Fa)(f:Fa):jac (fs++[f])=putL less (putL less (jac fs) f.1) f.2.2:=by simp[jac]
theorem jbz:∀(fs:List Fa),(jac fs).length<=2*fs.length:=by
 intro fs;have aa:∀(fs:List Fa) (l:List Wd),(fs.foldl (fun l f=>putL less (putL less l f.1) f.2.2) l).length<=l.length+2*fs.length:=by
  intro fs;induction fs with
  |nil=>intro l;simp
  |cons f fs ih=>
   intro l;rw[yN];have h1:=ih (putL less (putL less l f.1) f.2.2);have h2:=jea (lt:=less) (putL less l f.1) f.2.2;have h3:=jea (lt:=less) l f.1;simp only[yI];omega
 have:=aa fs [];simpa[jac]using this
def goF(fs:List Fa):Wd->List Wd->Wd->Prop
 |x,[],y=>x=y
 |x,p::r,y=>∃z,(x,p,z)∈fs/\goF fs z r y
theorem jbB{fs:List Fa}:∀(a b:List Wd) (x y:Wd),goF fs x (a++b) y↔∃z,goF fs x a z/\goF fs z b y
 |[],b,x,y=>by simp[goF]
 |p::a,b,x,y=>by
  rw[List.cons_append,goF];constructor
  . rintro⟨z,h1,h2⟩;obtain⟨u,h3,h4⟩:=(jbB a b z y).1 h2;exact⟨u,⟨z,h1,h3⟩,h4⟩
  . rintro⟨u,⟨z,h1,h3⟩,h4⟩;exact⟨z,h1,(jbB a b z y).2 ⟨u,h3,h4⟩⟩
theorem jeD{fs:List Fa}:∀(a:List Wd) (x y:Wd),x∈jac fs->goF fs x a y->y∈jac fs
 |[],x,y,hx,h=>by
  have h:x=y:=h;exact h▸hx
 |p::a,x,y,_,⟨z,h1,h2⟩=>jeD a z y (jax.2 ⟨_,h1,.inr rfl⟩) h2
def ja0(fs:List Fa)(f:List Wd->Prop)(x y:Wd):Prop:=x∈jac fs/\∃l,f l/\goF fs x l y
def jbJ(fs:List Fa)(p:Pt)(x y:Wd):Prop:=ja0 fs (jbe p) x y
theorem jbX{fs:List Fa}{f:List Wd->Prop}{x y:Wd}(h:ja0 fs f x y):y∈jac fs:=by
 obtain⟨hx,l,_,hg⟩:=h;exact jeD l x y hx hg
theorem jjJ{fs gs:List Fa}(h:∀f∈fs,f∈gs):∀(a:List Wd) (x y:Wd),goF fs x a y->goF gs x a y
 |[],_,_,h2=>h2
 |_::a,_,y,⟨z,h1,h2⟩=>⟨z,h _ h1,jjJ h a z y h2⟩
theorem jiH{fs gs:List Fa}(h:∀f∈fs,f∈gs){x:Wd}(hx:x∈jac fs):x∈jac gs:=by
 obtain⟨f,hf,e⟩:=jax.1 hx;exact jax.2 ⟨f,h f hf,e⟩
theorem jjU{fs gs:List Fa}(h:∀f∈fs,f∈gs){f:List Wd->Prop}{x y:Wd}(hl:ja0 fs f x y):ja0 gs f x y:=by
 obtain⟨hx,l,hf,hg⟩:=hl;exact⟨jiH h hx,l,hf,jjJ h l x y hg⟩
theorem jgj(fs:List Fa)(w:Wd)(x y:Wd):ja0 fs (fun l=>l=[w]) x y↔(x,w,y)∈fs:=by
 constructor
 . rintro⟨_,l,rfl,z,h1,h2⟩;have h2:z=y:=h2;exact h2▸h1
 . intro h;exact⟨jax.2 ⟨_,h,.inl rfl⟩,[w],rfl,y,h,rfl⟩
theorem jgi(fs:List Fa)(x y:Wd):ja0 fs (seqL []) x y↔x∈jac fs/\x=y:=by
 constructor
 . rintro⟨hx,l,rfl,h⟩;exact⟨hx,h⟩
 . rintro⟨hx,h⟩;exact⟨hx,[],rfl,h⟩
theorem jf0(fs:List Fa)(fl:List (List Wd->Prop))(f:List Wd->Prop)(x y:Wd):ja0 fs (seqL (fl++[f])) x y↔∃z,ja0 fs (seqL fl) x z/\ja0 fs f z y:=by
 have aa:∀(fl:List (List Wd->Prop)) (l:List Wd),seqL (fl++[f]) l↔∃a b,l=a++b/\seqL fl a/\f b:=by
  intro fl;induction fl with
  |nil=>
   intro l;constructor
   . rintro⟨a,b,rfl,ha,hb⟩;have hb:b=[]:=hb;exact⟨[],a,by simp[hb],rfl,ha⟩
   . rintro⟨a,b,rfl,ha,hb⟩;have ha:a=[]:=ha;exact⟨b,[],by simp[ha],hb,rfl⟩
  |cons g fl ih=>
   intro l;constructor
   . rintro⟨a,b,rfl,ha,hb⟩;obtain⟨c,d,rfl,hc,hd⟩:=(ih b).1 hb;exact⟨a++c,d,by simp,⟨a,c,rfl,ha,hc⟩,hd⟩
   . rintro⟨a,b,rfl,⟨c,d,rfl,hc,hd⟩,hb⟩;exact⟨c,d++b,by simp,hc,(ih (d++b)).2 ⟨d,b,rfl,hd,hb⟩⟩
 constructor
 . rintro⟨hx,l,hl,hg⟩;obtain⟨a,b,rfl,ha,hb⟩:=(aa fl l).1 hl;obtain⟨z,h1,h2⟩:=(jbB a b x y).1 hg;exact⟨z,⟨hx,a,ha,h1⟩,jeD a x z hx h1,b,hb,h2⟩
 . rintro⟨z,⟨hx,a,ha,h1⟩,_,b,hb,h2⟩;exact⟨hx,a++b,(aa fl _).2 ⟨a,b,rfl,ha,hb⟩,(jbB a b x y).2 ⟨z,h1,h2⟩⟩
theorem jd7(fs:List Fa)(fl:List (List Wd->Prop))(x y:Wd):ja0 fs (altL fl) x y↔∃f∈fl,ja0 fs f x y:=by
 constructor
 . rintro⟨hx,l,⟨f,hf,h⟩,hg⟩;exact⟨f,hf,hx,l,h,hg⟩
 . rintro⟨f,hf,hx,l,h,hg⟩;exact⟨hx,l,⟨f,hf,h⟩,hg⟩
def powR(R:Wd->Wd->Prop):Nat->Wd->Wd->Prop
 |0,x,y=>R x y
 |n+1,x,y=>∃z,powR R n x z/\R z y
theorem jes(fs:List Fa)(f:List Wd->Prop)(x y:Wd):ja0 fs (jeQ f) x y↔∃n,powR (ja0 fs f) n x y:=by
 constructor
 . rintro⟨hx,l,⟨a,b,rfl,ha,ls,rfl,ab⟩,hg⟩;obtain⟨z,h1,h2⟩:=(jbB _ _ x y).1 hg;have aa:∀(ls:List (List Wd)) (n:Nat) (z:Wd),(∀l∈ls,f l)->powR (ja0 fs f) n x z->z∈jac fs->goF fs z ls.flatten y->∃n,powR (ja0 fs f) n x y:=by
    intro ls;induction ls with
    |nil=>
     intro n z _ hp _ h;have h:z=y:=h;exact⟨n,h▸hp⟩
    |cons l ls ih=>
     intro n z hl hp hz h;rw[List.flatten_cons]at h;obtain⟨u,h3,h4⟩:=(jbB _ _ z y).1 h;exact ih (n+1) u (fun l hm=>hl l (zR _ hm)) ⟨z,hp,hz,l,hl l (zN ..),h3⟩ (jeD l z u hz h3) h4
   exact aa ls 0 z ab ⟨hx,a,ha,h1⟩ (jeD a x z hx h1) h2
 . rintro⟨n,h⟩;have aa:∀(n:Nat) (y:Wd),powR (ja0 fs f) n x y->ja0 fs (jeQ f) x y:=by
    intro n;induction n with
    |zero=>
     rintro y ⟨hx,l,hl,hg⟩;exact⟨hx,l,⟨l,[],by simp,hl,[],rfl,by simp⟩,hg⟩
    |succ n ih=>
     rintro y ⟨z,h1,h2⟩;obtain⟨hx,l,⟨a,b,rfl,ha,ls,rfl,ab⟩,hg⟩:=ih z h1;obtain⟨_,l2,ad,ac⟩:=h2;refine⟨hx,a++(ls++[l2]).flatten,⟨a,_,rfl,ha,ls++[l2],rfl,?_⟩,?_⟩
     . intro u hu;rcases zL.1 hu with hu|hu
       . exact ab u hu
       . simp at hu;exact hu▸ad
     . rw[List.flatten_append,<- List.append_assoc];exact(jbB _ _ x y).2 ⟨z,hg,by simpa using ac⟩
   exact aa n y h
theorem jjo(fs:List Fa)(f:List Wd->Prop)(x y:Wd):ja0 fs (jf1 f) x y↔ja0 fs (jeQ f) x y\/(x∈jac fs/\x=y):=by
 constructor
 . rintro⟨hx,l,⟨ls,rfl,aa⟩,hg⟩;cases ls with
   |nil=>exact .inr ⟨hx,hg⟩
   |cons a ls=>exact .inl ⟨hx,a++ls.flatten,⟨a,ls.flatten,rfl,aa a (zN ..),ls,rfl,fun u hu=>aa u (zR _ hu)⟩,by simpa using hg⟩
 . rintro (⟨hx,l,⟨a,b,rfl,ha,ls,rfl,aa⟩,hg⟩|⟨hx,e⟩)
   . exact⟨hx,a++ls.flatten,⟨a::ls,by simp,fun u hu=>by
      rcases yB.1 hu with rfl|hu
      . exact ha
      . exact aa u hu⟩,hg⟩
   . exact⟨hx,[],⟨[],rfl,by simp⟩,e⟩
theorem jkQ(fs:List Fa)(f:List Wd->Prop)(x y:Wd):ja0 fs (fun l=>l=[]\/f l) x y↔ja0 fs f x y\/(x∈jac fs/\x=y):=by
 constructor
 . rintro⟨hx,l,rfl|hl,hg⟩
   . exact .inr ⟨hx,hg⟩
   . exact .inl ⟨hx,l,hl,hg⟩
 . rintro (⟨hx,l,hl,hg⟩|⟨hx,e⟩)
   . exact⟨hx,l,.inr hl,hg⟩
   . exact⟨hx,[],.inl rfl,e⟩
theorem jjg(s:ByteArray)(i:Nat)(h:i<s.size):s.data.toList[i]?=some (s[i]'h):=by
 have:i<s.data.toList.length:=by rw[Array.length_toList];exact h
 rw[zB this];rfl
theorem jfJ(s:ByteArray):s.data.toList.length=s.size:=by rw[Array.length_toList];rfl
theorem jbG(l:List UInt8):(⟨l.toArray⟩:ByteArray).size=l.length:=by rw[<- ByteArray.size_data];simp
theorem jgf(n:Nat)(w:World)(hn:n<256):
 Calls Tryz.prog 146 #[.int .u8 (n:Int)] w fun e w'=>e=.returned (.bool (mayN n))/\w'=w:=by
 rcases jfw n with h|h|h|h|h|h|h|h
 . have e1:¬(n:Int)=45:=by omega
   have e2:¬(n:Int)=58:=by omega
   have e3:((n:Int)==45)=false:=beq_eq_false_iff_ne.2 e1;have e4:((n:Int)==58)=false:=beq_eq_false_iff_ne.2 e2;rw[jcp (by omega)];go_enter Tryz.func146,Tryz.ntmps146;go_wp2;go_ret;exact⟨rfl,rfl⟩
 . subst h;rw[jbL (by omega)];go_enter Tryz.func146,Tryz.ntmps146;go_wp2;go_ret;exact⟨rfl,rfl⟩
 . have e1:¬(n:Int)=45:=by omega
   have e2:¬(n:Int)=58:=by omega
   have e3:((n:Int)==45)=false:=beq_eq_false_iff_ne.2 e1;have e4:((n:Int)==58)=false:=beq_eq_false_iff_ne.2 e2;rw[jcp (by omega)];go_enter Tryz.func146,Tryz.ntmps146;go_wp2;go_ret;exact⟨rfl,rfl⟩
 . rw[jbL (by omega)];go_enter Tryz.func146,Tryz.ntmps146;go_wp2;go_ret;exact⟨rfl,rfl⟩
 . subst h;rw[jbL (by omega)];go_enter Tryz.func146,Tryz.ntmps146;go_wp2;go_ret;exact⟨rfl,rfl⟩
 . have e1:¬(n:Int)=45:=by omega
   have e2:¬(n:Int)=58:=by omega
   have e3:((n:Int)==45)=false:=beq_eq_false_iff_ne.2 e1;have e4:((n:Int)==58)=false:=beq_eq_false_iff_ne.2 e2;have f1:¬(n:Int)<=57:=by omega
   rw[jcp (by omega)];go_enter Tryz.func146,Tryz.ntmps146;go_wp2;go_ret;exact⟨rfl,rfl⟩
 . rw[jbL (by omega)];go_enter Tryz.func146,Tryz.ntmps146;go_wp2;go_ret;exact⟨rfl,rfl⟩
 . have e1:¬(n:Int)=45:=by omega
   have e2:¬(n:Int)=58:=by omega
   have e3:((n:Int)==45)=false:=beq_eq_false_iff_ne.2 e1;have e4:((n:Int)==58)=false:=beq_eq_false_iff_ne.2 e2;have f1:¬(n:Int)<=57:=by omega
   have f2:¬(n:Int)<=122:=by omega
   rw[jcp (by omega)];go_enter Tryz.func146,Tryz.ntmps146;go_wp2;go_ret;exact⟨rfl,rfl⟩
theorem jbh{l:List UInt8}{i:Nat}{x:UInt8}(hx:l[i]?=some x)(h:(l.take i).all mayB=true)(hm:mayB x=true):(l.take (i+1)).all mayB=true:=by
 rw[zS,hx,List.all_append,h];simp only[yQ,List.all_cons,List.all_nil,Bool.and_true,Bool.true_and];exact hm
theorem jem{l:List UInt8}{i:Nat}{x:UInt8}(hx:l[i]?=some x)(hm:mayB x=false):isW l=false:=by
 have:l.all mayB=false:=by
  rw[Bool.eq_false_iff];intro h;rw[yF]at h;rw[h x (zC hx)]at hm;cases hm
 simp[isW,this]
theorem jmh(s:ByteArray)(w:World):
 Calls Tryz.prog 128 #[.string s] w fun e w'=>e=.returned (.bool (isW s.data.toList))/\w'=w:=by
 have hl:=jfJ s;by_cases h1:s.size<1
 . have hw:isW s.data.toList=false:=by simp[isW,hl];omega
   rw[hw];clear hw hl;go_enter Tryz.func128,Tryz.ntmps128;go_wp2;go_ret;exact⟨rfl,rfl⟩
 . by_cases h2:16<s.size
   . have hw:isW s.data.toList=false:=by simp[isW,hl];omega
     rw[hw];clear hw hl;go_enter Tryz.func128,Tryz.ntmps128;go_wp2;go_ret;exact⟨rfl,rfl⟩
   . have HL:=zA hl;clear hl;go_enter Tryz.func128,Tryz.ntmps128;go_wp2;go_loopw [14] (fun c wr=>∃i:Nat,i<=s.size/\c=.int .i64 i/\(s.data.toList.take i).all mayB=true/\wr=w) (fun c _=>s.size-(intOf c).toNat)
     case atStart=>exact⟨0,zO _,rfl,rfl,rfl⟩
     case round=>
      obtain⟨i,hi,rfl,aa,rfl⟩:=hrel;have HA:=zA aa;clear aa;by_cases hlt:i<s.size
      . have hltI:(i:Int)<(s.size:Int):=by omega
        obtain⟨x,hx⟩:∃x:UInt8,s[i]'hlt=x:=⟨_,rfl⟩
        have HX:=zA (by rw[jjg s i hlt,hx]:s.data.toList[i]?=some x);have ab:=UInt8.toNat_lt x;obtain⟨m,hm⟩:∃m,mayN x.toNat=m:=⟨_,rfl⟩
        have C:=zA (jgf x.toNat wr ab);rw[hm]at C;have HM:=zA (show mayB x=m from hm);clear hm;cases m with
        |true=>
         go_wp2_with fail;refine C.out.mono ?_;rintro e w1 ⟨rfl,rfl⟩;go_wp2;go_roundw
         case rel=>exact⟨i+1,by omega,by go_num,jbh HX.out HA.out HM.out,by trivial⟩
         case measure=>simp[intOf];omega
        |false=>
         go_wp2_with fail;refine C.out.mono ?_;rintro e w1 ⟨rfl,rfl⟩;go_wp2;go_ret;exact⟨by rw[jem HX.out HM.out];rfl,rfl⟩
      . obtain rfl:i=s.size:=by omega
        have hw:isW s.data.toList=true:=by
         have a:=HA.out;rw[zJ (by rw[HL.out];exact zD _)]at a;simp only[isW,HL.out,a];simp;omega
        have HW:=zA hw;clear hw;go_wp2;go_ret;exact⟨by rw[HW.out];rfl,rfl⟩
structure Fr (S:Nat->Prop) (w w':World):Prop where
 os:w'.os=w.os
 tape:w'.tape=w.tape
 output:w'.output=w.output
 size:w.heap.size<=w'.heap.size
 block:∀k,S k->w'.heap[k]?=w.heap[k]?
theorem Fr.refl(S:Nat->Prop)(w:World):Fr S w w:=⟨rfl,rfl,rfl,zD _,fun _ _=>rfl⟩
theorem Fr.trans{S:Nat->Prop}{a b c:World}(h:Fr S a b)(k:Fr S b c):Fr S a c:=
 ⟨k.os.trans h.os,k.tape.trans h.tape,k.output.trans h.output,zT h.size k.size,fun i hi=>(k.block i hi).trans (h.block i hi)⟩
theorem Fr.sub{S T:Nat->Prop}{w w':World}(h:Fr S w w')(hs:∀k,T k->S k):Fr T w w':=⟨h.os,h.tape,h.output,h.size,fun k hk=>h.block k (hs k hk)⟩
theorem Fr.below{S:Nat->Prop}{w w':World}{B:Nat}(h:Fr S w w')(hs:∀k,k<B->S k):Below B w w':=⟨h.os,h.tape,h.output,h.size,fun k hk=>h.block k (hs k hk)⟩
def Low(S:Nat->Prop)(w:World):Prop:=∀k,S k->k<w.heap.size
theorem Low.fr{S T:Nat->Prop}{w w':World}(h:Low S w)(hf:Fr T w w'):Low S w':=fun k hk=>zQ (h k hk) hf.size
theorem Low.below{S:Nat->Prop}{w w':World}{B:Nat}(h:Low S w)(hf:Below B w w'):Low S w':=fun k hk=>zQ (h k hk) hf.size
theorem Low.size{S:Nat->Prop}{w w':World}(h:Low S w)(hf:w.heap.size<=w'.heap.size):Low S w':=fun k hk=>zQ (h k hk) hf
theorem jaK{S:Nat->Prop}{w w':World}(hS:Low S w)(h:Below w.heap.size w w'):Fr S w w':=⟨h.os,h.tape,h.output,h.size,fun k hk=>h.block k (hS k hk)⟩
theorem Fr.next{S:Nat->Prop}{w w1 w2:World}(h:Fr S w w1)(hS:Low S w)(hb:Below w1.heap.size w1 w2):Fr S w w2:=h.trans (jaK (hS.fr h) hb)
theorem Fr.setCell{S:Nat->Prop}{w w':World}{b i:Nat}(h:Fr S w w')(hb:¬S b)(v:Value):Fr S w (w'.setCell ⟨b,i,none⟩ v):=
 ⟨h.os,h.tape,h.output,by simpa using h.size,fun k hk=>(zM w' ⟨b,i,none⟩ v k (fun e=>hb (by rw[<- show k=b from e];exact hk))).trans (h.block k hk)⟩
theorem Fr.grown{S:Nat->Prop}{w w1 w2:World}{row:Option Nat}(h:Fr S w w1)(hS:Low S w)(hg:w1.grownBy w2 row)(hr:∀g,row=some g->¬S g):Fr S w w2:=
 ⟨hg.os.trans h.os,hg.tape.trans h.tape,hg.output.trans h.output,zT h.size hg.size,fun k hk=>(hg.block k (zQ (hS k hk) h.size) (fun e=>hr k e.symm hk)).trans (h.block k hk)⟩
def Plus(S:Nat->Prop)(lo hi:Nat):Nat->Prop:=fun k=>S k\/(lo<=k/\k<hi)
theorem Low.plus{S:Nat->Prop}{w w':World}(h:Low S w)(hs:w.heap.size<=w'.heap.size):Low (Plus S w.heap.size w'.heap.size) w':=fun k hk=>by
 rcases hk with hk|hk
 . have:=h k hk;omega
 . exact hk.2
theorem jma(w:World)(o:Obj):(w.alloc o).heap[w.heap.size]?=some o:=heap_alloc_new w o
theorem jab{w:World}{B n:Nat}{e:TypeId}{size:Nat}{v:Value}{xs:List Value}(h:w.ownsRow B e size v n xs):∃ao cap,v=.slice ao n cap:=by
 rcases h.2 with⟨rfl,rfl⟩|⟨g,cap,cur,rfl,_⟩
 . exact⟨none,0,rfl⟩
 . exact⟨_,cap,rfl⟩
theorem own_lt{w:World}{B n g:Nat}{e:TypeId}{size:Nat}{v:Value}{xs:List Value}(h:w.ownsRow B e size v n xs)(hg:v.ownBlock=some g):g<w.heap.size:=(h.lt g hg).2
theorem jae{w w':World}{B n:Nat}{e:TypeId}{size:Nat}{v:Value}{xs:List Value}(h:w.ownsRow B e size v n xs)(key:∀g o,v.ownBlock=some g->w.heap[g]?=some o->w'.heap[g]?=some o):w'.ownsRow B e size v n xs:=by
 refine⟨h.1,?_⟩;rcases h.2 with h0|⟨g,aa,ab,e1,e2,e3,e4⟩
 . exact .inl h0
 . exact .inr ⟨g,aa,ab,e1,e2,key g _ (by rw[e1];rfl) e3,e4⟩
theorem jao{w w':World}{B n:Nat}{e:TypeId}{size:Nat}{v:Value}{xs:List Value}(h:w.ownsRow B e size v n xs)(hb:Below w.heap.size w w'):w'.ownsRow B e size v n xs:=
 jae h (fun g _ _ ho=>(hb.block g (lt_of_block ho)).trans ho)
section
variable {α:Type} {enc:α->List Value} {k:Nat}
def SlS(enc:α->List Value)(k:Nat)(S:Nat->Prop)(w:World)(v:Value)(L:List α):Prop:=
 ∃ao cap,v=.slice ao L.length cap/\(L=[]\/∃g off,ao=some ⟨g,off,none⟩/\S g/\g<w.heap.size/\∀(j:Nat) x,L[j]?=some x->∀(c:Nat) u,(enc x)[c]?=some u->w.cell? ⟨g,off+j*k+c,none⟩=some u)
theorem SlS.keep{S T:Nat->Prop}{w w':World}{v:Value}{L:List α}(h:SlS enc k S w v L)(hz:w.heap.size<=w'.heap.size)(hk:∀b,S b->b<w.heap.size->T b/\w'.heap[b]?=w.heap[b]?):SlS enc k T w' v L:=by
 obtain⟨ao,aa,e,h⟩:=h;refine⟨ao,aa,e,?_⟩;rcases h with h|⟨g,ab,e1,hs,hl,hc⟩
 . exact .inl h
 . obtain⟨ht,hb⟩:=hk g hs hl;exact .inr ⟨g,ab,e1,ht,zQ hl hz,fun j x hx c u hu=>by simpa only[World.cell?,hb]using hc j x hx c u hu⟩
theorem SlS.below{S:Nat->Prop}{w w':World}{v:Value}{L:List α}(h:SlS enc k S w v L)(hb:Below w.heap.size w w'):SlS enc k S w' v L:=
 h.keep hb.size (fun b hs hl=>⟨hs,hb.block b hl⟩)
theorem SlS.fr{S:Nat->Prop}{w w':World}{v:Value}{L:List α}(h:SlS enc k S w v L)(hf:Fr S w w'):SlS enc k S w' v L:=
 h.keep hf.size (fun b hs _=>⟨hs,hf.block b hs⟩)
theorem SlS.sub{S T:Nat->Prop}{w:World}{v:Value}{L:List α}(h:SlS enc k S w v L)(hs:∀b,S b->b<w.heap.size->T b):SlS enc k T w v L:=
 h.keep (zD _) (fun b hb hl=>⟨hs b hb hl,rfl⟩)
theorem SlS.nil(S:Nat->Prop)(w:World):SlS enc k S w (.slice none 0 0) []:=⟨none,0,rfl,.inl rfl⟩
theorem SlS.get{S:Nat->Prop}{w:World}{ao:Option Addr}{n cap:Nat}{L:List α}(h:SlS enc k S w (.slice ao n cap) L){j:Nat}{x:α}(hx:L[j]?=some x):
 ∃g off,ao=some ⟨g,off,none⟩/\S g/\g<w.heap.size/\∀(c:Nat) u,(enc x)[c]?=some u->w.cell? ⟨g,off+j*k+c,none⟩=some u:=by
 obtain⟨ao',cap',e,h⟩:=h;injection e with e1 e2 e3;subst e1;rcases h with rfl|⟨g,off,e1,hs,hl,hc⟩
 . simp at hx
 . exact⟨g,off,e1,hs,hl,hc j x hx⟩
theorem SlS.slice{S:Nat->Prop}{w:World}{v:Value}{L:List α}(h:SlS enc k S w v L):∃ao cap,v=.slice ao L.length cap:=by
 obtain⟨ao,cap,e,_⟩:=h;exact⟨ao,cap,e⟩
theorem jaz(hk:∀x,(enc x).length=k)(L:List α):(L.flatMap enc).length=L.length*k:=by
 induction L with
 |nil=>simp
 |cons x l ih=>rw[yT,zG,ih,hk,yI,Nat.succ_mul];omega
theorem jdr(hk:∀x,(enc x).length=k):∀(L:List α) (j c:Nat) (x:α),L[j]?=some x->c<k->(L.flatMap enc)[j*k+c]?=(enc x)[c]?
 |[],j,c,x,h,_=>by simp at h
 |y::l,0,c,x,h,hc=>by
  simp at h;subst h;rw[yT,Nat.zero_mul,Nat.zero_add,yJ (by rw[hk];exact hc)]
 |y::l,j+1,c,x,h,hc=>by
  rw[yT,yM (by rw[hk,Nat.succ_mul];omega),hk,show (j+1)*k+c-k=j*k+c by rw[Nat.succ_mul];omega];exact jdr hk l j c x (by simpa using h) hc
theorem jaD(hk:∀x,(enc x).length=k){w:World}{B n:Nat}{e:TypeId}{v:Value}{L:List α}(h:w.ownsRow B e k v n (L.flatMap enc))(hn:n=L.length):SlS enc k (fun g=>v.ownBlock=some g) w v L:=by
 have h0:=h;rcases h.2 with⟨rfl,h1⟩|⟨g,ab,cur,rfl,_⟩
 . have:L=[]:=yP.1 (by omega);subst this;exact SlS.nil _ _
 . subst hn;refine⟨_,ab,rfl,.inr ⟨g,0,rfl,rfl,(h.lt g rfl).2,fun j x hx c u hu=>?_⟩⟩;have hc:c<k:=by have:=(zE.1 hu).1;rw[hk]at this;exact this
   have hj:=(zE.1 hx).1;have aa:j*k+c<(L.flatMap enc).length:=by
    rw[jaz hk];have:(j+1)*k<=L.length*k:=Nat.mul_le_mul_right k hj;rw[Nat.succ_mul]at this;omega
   rw[Nat.zero_add,h0.cellAt (j*k+c) (by rw[jaz hk]at aa;exact aa),jdr hk L j c x hx hc,hu]
end
theorem jc9(s:ByteArray)(w:World)(hs:s.size<=140737488355328):
 Calls Tryz.prog 88 #[.string s] w fun e w'=>e=.returned (.string s)/\Below w.heap.size w w':=by
 go_enter Tryz.func88,Tryz.ntmps88;go_wp2_with fail;refine(Tryz.stringslite_Clone _ _ (by omega)).mono ?_;rintro e w1 ⟨rfl,hb⟩;go_wp2;go_ret;exact⟨rfl,hb⟩
end Go.Proofs.YtkbgmcmcpbegjaaGreatDoor
