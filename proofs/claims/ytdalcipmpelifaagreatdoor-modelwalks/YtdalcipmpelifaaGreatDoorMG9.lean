/- MMath, MMat, MRowP, QOpen, BCap. -/
import Derived.Test.YtdalcipmpelifaaGreatDoorMG3
import Derived.Deep.Slices
import Derived.Deep.Strs
import Derived.ChangeSame
import Derived.OpenShut
import Derived.SizedLaws
import Derived.WideShapes
import Derived.Lib.SmallJoins
set_option maxRecDepth 100000
namespace Go.Proofs.YtdalcipmpelifaaGreatDoor
open Go.RowKit
structure Ords {α:Type} (lt:α->α->Bool):Prop where
 irr:∀a,lt a a=false
 tr:∀a b c,lt a b=true->lt b c=true->lt a c=true
 tot:∀a b,lt a b=false->lt b a=false->a=b
section
variable {α:Type} {lt:α->α->Bool}
theorem Ords.ne(o:Ords lt){a b:α}(h:lt a b=true):a≠b:=by
 intro e;rw[e,o.irr]at h;cases h
theorem Ords.asymm(o:Ords lt){a b:α}(h:lt a b=true):lt b a=false:=by
 cases hb:lt b a with
 |false=>rfl
 |true=>
  have:=o.tr a b a h hb;rw[o.irr]at this;cases this
def RiseL(lt:α->α->Bool)(l:List α):Prop:=l.Pairwise (fun a b=>lt a b=true)
theorem riseL_ext(o:Ords lt):∀ {l1 l2:List α},RiseL lt l1->RiseL lt l2->(∀t,t∈l1↔t∈l2)->l1=l2
 |[],[],_,_,_=>rfl
 |[],b::l2,_,_,h=>absurd ((h b).2 (by simp)) (by simp)
 |a::l1,[],_,_,h=>absurd ((h a).1 (by simp)) (by simp)
 |a::l1,b::l2,h1,h2,h=>by
  obtain⟨g1,r1⟩:=List.pairwise_cons.1 h1;obtain⟨g2,r2⟩:=List.pairwise_cons.1 h2;have hab:a=b:=by
   rcases zX.1 ((h a).1 (by simp))with e|e
   . exact e
   . rcases zX.1 ((h b).2 (by simp))with e'|e'
     . exact e'.symm
     . have:=o.asymm (g2 a e);rw[g1 b e']at this;cases this
  subst hab;rw[riseL_ext o r1 r2 (fun t=>?_)];constructor
  . intro ht;rcases zX.1 ((h t).1 (zP _ ht))with e|e
    . subst e;exact absurd rfl (o.ne (g1 t ht))
    . exact e
  . intro ht;rcases zX.1 ((h t).2 (zP _ ht))with e|e
    . subst e;exact absurd rfl (o.ne (g2 t ht))
    . exact e
theorem RiseL.lt_at(_o:Ords lt){l:List α}(h:RiseL lt l){i j:Nat}{x y:α}(hx:l[i]?=some x)(hy:l[j]?=some y)(hij:i<j):lt x y=true:=by
 have hj:=(zE.1 hy).1;have hi:=(zE.1 hx).1;have e1:=(zE.1 hx).2;have e2:=(zE.1 hy).2;have:=List.pairwise_iff_getElem.1 h i j hi hj hij;rw[e1,e2]at this;exact this
theorem RiseL.once(o:Ords lt){l:List α}(h:RiseL lt l){i j:Nat}{x:α}(hx:l[i]?=some x)(hy:l[j]?=some x):i=j:=by
 rcases Nat.lt_trichotomy i j with hlt|e|hgt
 . exact absurd rfl (o.ne (h.lt_at o hx hy hlt))
 . exact e
 . exact absurd rfl (o.ne (h.lt_at o hy hx hgt))
end
section
variable {α:Type} [DecidableEq α] {lt:α->α->Bool}
def putL(lt:α->α->Bool):List α->α->List α
 |[],t=>[t]
 |a::l,t=>if lt a t=true then a::putL lt l t else if a=t then a::l else t::a::l
theorem mem_putL{x t:α}:∀ {l:List α},x∈putL lt l t↔x=t\/x∈l
 |[]=>by simp[putL]
 |a::l=>by
  unfold putL;by_cases h:lt a t=true
  . rw[if_pos h,zX,mem_putL (l:=l),zX];constructor
    . rintro (h|h|h)
      . exact .inr (.inl h)
      . exact .inl h
      . exact .inr (.inr h)
    . rintro (h|h|h)
      . exact .inr (.inl h)
      . exact .inl h
      . exact .inr (.inr h)
  . rw[if_neg h];by_cases e:a=t
    . rw[if_pos e];subst e;simp
    . rw[if_neg e];simp
theorem RiseL.put(o:Ords lt){t:α}:∀ {l:List α},RiseL lt l->RiseL lt (putL lt l t)
 |[],_=>by simp[putL,RiseL]
 |a::l,h=>by
  obtain⟨g,r⟩:=List.pairwise_cons.1 h;unfold putL;by_cases h1:lt a t=true
  . rw[if_pos h1];refine List.pairwise_cons.2 ⟨fun x hx=>?_,RiseL.put o r⟩;rcases mem_putL.1 hx with e|e
    . subst e;exact h1
    . exact g x e
  . rw[if_neg h1];by_cases e:a=t
    . rw[if_pos e];exact h
    . rw[if_neg e];have h2:lt t a=true:=by
       cases h3:lt t a with
       |true=>rfl
       |false=>exact absurd (o.tot a t (by simpa using h1) h3) e
      refine List.pairwise_cons.2 ⟨fun x hx=>?_,h⟩;rcases zX.1 hx with e|e
      . subst e;exact h2
      . exact o.tr _ _ _ h2 (g x e)
theorem putL_len(l:List α)(t:α):(putL lt l t).length<=l.length+1:=by
 induction l with
 |nil=>simp[putL]
 |cons a l ih=>
  unfold putL;split
  . simp;omega
  . split<;>simp
end
theorem ordW:Ords less:=⟨less_irrefl,less_trans,less_cases⟩
abbrev Rw:=List Wd
def lessR:Rw->Rw->Bool
 |[],[]=>false
 |[],_::_=>true
 |_::_,[]=>false
 |a::l,b::r=>if a=b then lessR l r else less a b
theorem lessR_irr:∀a:Rw,lessR a a=false
 |[]=>rfl
 |a::l=>by rw[lessR,if_pos rfl];exact lessR_irr l
theorem lessR_tr:∀a b c:Rw,lessR a b=true->lessR b c=true->lessR a c=true
 |[],[],c,h,_=>by simp[lessR]at h
 |[],b::r,[],_,h=>by simp[lessR]at h
 |[],b::r,c::s,_,_=>rfl
 |a::l,[],c,h,_=>by simp[lessR]at h
 |a::l,b::r,[],_,h=>by simp[lessR]at h
 |a::l,b::r,c::s,h1,h2=>by
  rw[lessR]at h1 h2 ⊢;by_cases e1:a=b
  . subst e1;rw[if_pos rfl]at h1;by_cases e2:a=c
    . subst e2;rw[if_pos rfl]at h2 ⊢;exact lessR_tr l r s h1 h2
    . rw[if_neg e2]at h2 ⊢;exact h2
  . rw[if_neg e1]at h1;by_cases e2:b=c
    . subst e2;rw[if_neg e1];exact h1
    . rw[if_neg e2]at h2;have h3:=less_trans a b c h1 h2;rw[if_neg (ordW.ne h3)];exact h3
theorem lessR_tot:∀a b:Rw,lessR a b=false->lessR b a=false->a=b
 |[],[],_,_=>rfl
 |[],b::r,h,_=>by simp[lessR]at h
 |a::l,[],_,h=>by simp[lessR]at h
 |a::l,b::r,h1,h2=>by
  rw[lessR]at h1 h2;by_cases e:a=b
  . subst e;rw[if_pos rfl]at h1 h2;rw[lessR_tot l r h1 h2]
  . rw[if_neg e]at h1;rw[if_neg (fun x=>e x.symm)]at h2;exact absurd (less_cases a b h1 h2) e
theorem ordR:Ords lessR:=⟨lessR_irr,lessR_tr,lessR_tot⟩
abbrev Fa:=Wd×Wd×Wd
def vertsL(fs:List Fa):List Wd:=fs.foldl (fun l f=>putL less (putL less l f.1) f.2.2) []
theorem verts_fold:∀(fs:List Fa) (l:List Wd),RiseL less l->RiseL less (fs.foldl (fun l f=>putL less (putL less l f.1) f.2.2) l)/\∀x,x∈fs.foldl (fun l f=>putL less (putL less l f.1) f.2.2) l↔x∈l\/∃f∈fs,x=f.1\/x=f.2.2
 |[],l,h=>⟨h,fun x=>by simp⟩
 |f::fs,l,h=>by
  rw[yN];obtain⟨h1,h2⟩:=verts_fold fs (putL less (putL less l f.1) f.2.2) ((h.put ordW).put ordW);refine⟨h1,fun x=>?_⟩;rw[h2,mem_putL,mem_putL];constructor
  . rintro ((h|h|h)|⟨g,hg,h⟩)
    . exact .inr ⟨f,zL ..,.inr h⟩
    . exact .inr ⟨f,zL ..,.inl h⟩
    . exact .inl h
    . exact .inr ⟨g,zP _ hg,h⟩
  . rintro (h|⟨g,hg,h⟩)
    . exact .inl (.inr (.inr h))
    . rcases zX.1 hg with rfl|hg
      . rcases h with h|h
        . exact .inl (.inr (.inl h))
        . exact .inl (.inl h)
      . exact .inr ⟨g,hg,h⟩
theorem verts_rise(fs:List Fa):RiseL less (vertsL fs):=(verts_fold fs [] List.Pairwise.nil).1
theorem mem_verts{fs:List Fa}{x:Wd}:x∈vertsL fs↔∃f∈fs,x=f.1\/x=f.2.2:=by
 rw[vertsL,(verts_fold fs [] List.Pairwise.nil).2];simp
theorem verts_len:∀(fs:List Fa),(vertsL fs).length<=2*fs.length:=by
 intro fs;have key:∀(fs:List Fa) (l:List Wd),(fs.foldl (fun l f=>putL less (putL less l f.1) f.2.2) l).length<=l.length+2*fs.length:=by
  intro fs;induction fs with
  |nil=>intro l;simp
  |cons f fs ih=>
   intro l;rw[yN];have h1:=ih (putL less (putL less l f.1) f.2.2);have h2:=putL_len (lt:=less) (putL less l f.1) f.2.2;have h3:=putL_len (lt:=less) l f.1;simp only[yE];omega
 have:=key fs [];simpa[vertsL]using this
def goF(fs:List Fa):Wd->List Wd->Wd->Prop
 |x,[],y=>x=y
 |x,p::r,y=>∃z,(x,p,z)∈fs/\goF fs z r y
theorem go_append{fs:List Fa}:∀(a b:List Wd) (x y:Wd),goF fs x (a++b) y↔∃z,goF fs x a z/\goF fs z b y
 |[],b,x,y=>by simp[goF]
 |p::a,b,x,y=>by
  rw[List.cons_append,goF];constructor
  . rintro⟨z,h1,h2⟩;obtain⟨u,h3,h4⟩:=(go_append a b z y).1 h2;exact⟨u,⟨z,h1,h3⟩,h4⟩
  . rintro⟨u,⟨z,h1,h3⟩,h4⟩;exact⟨z,h1,(go_append a b z y).2 ⟨u,h3,h4⟩⟩
theorem go_vert{fs:List Fa}:∀(a:List Wd) (x y:Wd),x∈vertsL fs->goF fs x a y->y∈vertsL fs
 |[],x,y,hx,h=>by
  have h:x=y:=h;exact h▸hx
 |p::a,x,y,_,⟨z,h1,h2⟩=>go_vert a z y (mem_verts.2 ⟨_,h1,.inr rfl⟩) h2
def leadF(fs:List Fa)(f:List Wd->Prop)(x y:Wd):Prop:=x∈vertsL fs/\∃l,f l/\goF fs x l y
def leadP(fs:List Fa)(p:Pt)(x y:Wd):Prop:=leadF fs (willL p) x y
theorem lead_vert{fs:List Fa}{f:List Wd->Prop}{x y:Wd}(h:leadF fs f x y):y∈vertsL fs:=by
 obtain⟨hx,l,_,hg⟩:=h;exact go_vert l x y hx hg
theorem go_more{fs gs:List Fa}(h:∀f∈fs,f∈gs):∀(a:List Wd) (x y:Wd),goF fs x a y->goF gs x a y
 |[],_,_,h2=>h2
 |_::a,_,y,⟨z,h1,h2⟩=>⟨z,h _ h1,go_more h a z y h2⟩
theorem verts_more{fs gs:List Fa}(h:∀f∈fs,f∈gs){x:Wd}(hx:x∈vertsL fs):x∈vertsL gs:=by
 obtain⟨f,hf,e⟩:=mem_verts.1 hx;exact mem_verts.2 ⟨f,h f hf,e⟩
theorem lead_more{fs gs:List Fa}(h:∀f∈fs,f∈gs){f:List Wd->Prop}{x y:Wd}(hl:leadF fs f x y):leadF gs f x y:=by
 obtain⟨hx,l,hf,hg⟩:=hl;exact⟨verts_more h hx,l,hf,go_more h l x y hg⟩
theorem lead_word(fs:List Fa)(w:Wd)(x y:Wd):leadF fs (fun l=>l=[w]) x y↔(x,w,y)∈fs:=by
 constructor
 . rintro⟨_,l,rfl,z,h1,h2⟩;have h2:z=y:=h2;exact h2▸h1
 . intro h;exact⟨mem_verts.2 ⟨_,h,.inl rfl⟩,[w],rfl,y,h,rfl⟩
theorem lead_seq_nil(fs:List Fa)(x y:Wd):leadF fs (seqL []) x y↔x∈vertsL fs/\x=y:=by
 constructor
 . rintro⟨hx,l,rfl,h⟩;exact⟨hx,h⟩
 . rintro⟨hx,h⟩;exact⟨hx,[],rfl,h⟩
theorem lead_seq_snoc(fs:List Fa)(fl:List (List Wd->Prop))(f:List Wd->Prop)(x y:Wd):leadF fs (seqL (fl++[f])) x y↔∃z,leadF fs (seqL fl) x z/\leadF fs f z y:=by
 have key:∀(fl:List (List Wd->Prop)) (l:List Wd),seqL (fl++[f]) l↔∃a b,l=a++b/\seqL fl a/\f b:=by
  intro fl;induction fl with
  |nil=>
   intro l;constructor
   . rintro⟨a,b,rfl,ha,hb⟩;have hb:b=[]:=hb;exact⟨[],a,by simp[hb],rfl,ha⟩
   . rintro⟨a,b,rfl,ha,hb⟩;have ha:a=[]:=ha;exact⟨b,[],by simp[ha],hb,rfl⟩
  |cons g fl ih=>
   intro l;constructor
   . rintro⟨a,b,rfl,ha,hb⟩;obtain⟨c,d,rfl,hc,hd⟩:=(ih b).1 hb;exact⟨a++c,d,by simp,⟨a,c,rfl,ha,hc⟩,hd⟩
   . rintro⟨a,b,rfl,⟨c,d,rfl,hc,hd⟩,hb⟩;exact⟨c,d++b,by simp,hc,(ih (d++b)).2 ⟨d,b,rfl,hd,hb⟩⟩
 constructor
 . rintro⟨hx,l,hl,hg⟩;obtain⟨a,b,rfl,ha,hb⟩:=(key fl l).1 hl;obtain⟨z,h1,h2⟩:=(go_append a b x y).1 hg;exact⟨z,⟨hx,a,ha,h1⟩,go_vert a x z hx h1,b,hb,h2⟩
 . rintro⟨z,⟨hx,a,ha,h1⟩,_,b,hb,h2⟩;exact⟨hx,a++b,(key fl _).2 ⟨a,b,rfl,ha,hb⟩,(go_append a b x y).2 ⟨z,h1,h2⟩⟩
theorem lead_alt(fs:List Fa)(fl:List (List Wd->Prop))(x y:Wd):leadF fs (altL fl) x y↔∃f∈fl,leadF fs f x y:=by
 constructor
 . rintro⟨hx,l,⟨f,hf,h⟩,hg⟩;exact⟨f,hf,hx,l,h,hg⟩
 . rintro⟨f,hf,hx,l,h,hg⟩;exact⟨hx,l,⟨f,hf,h⟩,hg⟩
def powR(R:Wd->Wd->Prop):Nat->Wd->Wd->Prop
 |0,x,y=>R x y
 |n+1,x,y=>∃z,powR R n x z/\R z y
theorem lead_plus(fs:List Fa)(f:List Wd->Prop)(x y:Wd):leadF fs (plusL f) x y↔∃n,powR (leadF fs f) n x y:=by
 constructor
 . rintro⟨hx,l,⟨a,b,rfl,ha,ls,rfl,hls⟩,hg⟩;obtain⟨z,h1,h2⟩:=(go_append _ _ x y).1 hg;have key:∀(ls:List (List Wd)) (n:Nat) (z:Wd),(∀l∈ls,f l)->powR (leadF fs f) n x z->z∈vertsL fs->goF fs z ls.flatten y->∃n,powR (leadF fs f) n x y:=by
    intro ls;induction ls with
    |nil=>
     intro n z _ hp _ h;have h:z=y:=h;exact⟨n,h▸hp⟩
    |cons l ls ih=>
     intro n z hl hp hz h;rw[List.flatten_cons]at h;obtain⟨u,h3,h4⟩:=(go_append _ _ z y).1 h;exact ih (n+1) u (fun l hm=>hl l (zP _ hm)) ⟨z,hp,hz,l,hl l (zL ..),h3⟩ (go_vert l z u hz h3) h4
   exact key ls 0 z hls ⟨hx,a,ha,h1⟩ (go_vert a x z hx h1) h2
 . rintro⟨n,h⟩;have key:∀(n:Nat) (y:Wd),powR (leadF fs f) n x y->leadF fs (plusL f) x y:=by
    intro n;induction n with
    |zero=>
     rintro y ⟨hx,l,hl,hg⟩;exact⟨hx,l,⟨l,[],by simp,hl,[],rfl,by simp⟩,hg⟩
    |succ n ih=>
     rintro y ⟨z,h1,h2⟩;obtain⟨hx,l,⟨a,b,rfl,ha,ls,rfl,hls⟩,hg⟩:=ih z h1;obtain⟨_,l2,hl2,hg2⟩:=h2;refine⟨hx,a++(ls++[l2]).flatten,⟨a,_,rfl,ha,ls++[l2],rfl,?_⟩,?_⟩
     . intro u hu;rcases zN.1 hu with hu|hu
       . exact hls u hu
       . simp at hu;exact hu▸hl2
     . rw[List.flatten_append,<- List.append_assoc];exact(go_append _ _ x y).2 ⟨z,hg,by simpa using hg2⟩
   exact key n y h
theorem lead_star(fs:List Fa)(f:List Wd->Prop)(x y:Wd):leadF fs (starL f) x y↔leadF fs (plusL f) x y\/(x∈vertsL fs/\x=y):=by
 constructor
 . rintro⟨hx,l,⟨ls,rfl,hls⟩,hg⟩;cases ls with
   |nil=>exact .inr ⟨hx,hg⟩
   |cons a ls=>exact .inl ⟨hx,a++ls.flatten,⟨a,ls.flatten,rfl,hls a (zL ..),ls,rfl,fun u hu=>hls u (zP _ hu)⟩,by simpa using hg⟩
 . rintro (⟨hx,l,⟨a,b,rfl,ha,ls,rfl,hls⟩,hg⟩|⟨hx,e⟩)
   . exact⟨hx,a++ls.flatten,⟨a::ls,by simp,fun u hu=>by
      rcases zX.1 hu with rfl|hu
      . exact ha
      . exact hls u hu⟩,hg⟩
   . exact⟨hx,[],⟨[],rfl,by simp⟩,e⟩
theorem lead_may(fs:List Fa)(f:List Wd->Prop)(x y:Wd):leadF fs (fun l=>l=[]\/f l) x y↔leadF fs f x y\/(x∈vertsL fs/\x=y):=by
 constructor
 . rintro⟨hx,l,rfl|hl,hg⟩
   . exact .inr ⟨hx,hg⟩
   . exact .inl ⟨hx,l,hl,hg⟩
 . rintro (⟨hx,l,hl,hg⟩|⟨hx,e⟩)
   . exact⟨hx,l,.inr hl,hg⟩
   . exact⟨hx,[],.inl rfl,e⟩
def cntN(s:Nat->Bool):Nat->Nat
 |0=>0
 |n+1=>cntN s n+(if s n=true then 1 else 0)
theorem cntN_le(s:Nat->Bool):∀n,cntN s n<=n
 |0=>zD _
 |n+1=>by
  have:=cntN_le s n;unfold cntN;split<;>omega
theorem cntN_mono{s t:Nat->Bool}:∀n,(∀k,k<n->s k=true->t k=true)->cntN s n<=cntN t n
 |0,_=>zD _
 |n+1,h=>by
  have h1:=cntN_mono n (fun k hk=>h k (by omega));have h2:=h n (by omega);unfold cntN;by_cases e:s n=true
  . rw[if_pos e,if_pos (h2 e)];omega
  . rw[if_neg e];omega
theorem cntN_lt{s t:Nat->Bool}:∀n,(∀k,k<n->s k=true->t k=true)->(∃k,k<n/\t k=true/\s k=false)->cntN s n<cntN t n
 |0,_,⟨k,hk,_⟩=>by omega
 |n+1,h,⟨k,hk,h1,h2⟩=>by
  unfold cntN;by_cases e:k=n
  . subst e;have:=cntN_mono k (fun j hj=>h j (by omega));rw[if_pos h1,if_neg (by rw[h2];simp)];omega
  . have h3:=cntN_lt n (fun j hj=>h j (by omega)) ⟨k,by omega,h1,h2⟩;have h4:=h n (by omega);by_cases e2:s n=true
    . rw[if_pos e2,if_pos (h4 e2)];omega
    . rw[if_neg e2];omega
theorem cntN_zero{s:Nat->Bool}:∀n,cntN s n=0->∀k,k<n->s k=false
 |0,_,k,hk=>by omega
 |n+1,h,k,hk=>by
  unfold cntN at h;by_cases e:k=n
  . subst e;cases hs:s k with
    |false=>rfl
    |true=>rw[if_pos hs]at h;omega
  . exact cntN_zero n (by omega) k (by omega)
section
variable {n:Nat} {F:(Nat->Bool)->Nat->Bool}
def iterN(F:(Nat->Bool)->Nat->Bool):Nat->(Nat->Bool)->Nat->Bool
 |0,s=>s
 |j+1,s=>F (iterN F j s)
theorem iter_stable(hinc:∀s k,k<n->s k=true->F s k=true)(hext:∀s t,(∀k,k<n->s k=t k)->∀k,k<n->F s k=F t k)(hnil:∀s,(∀k,k<n->s k=false)->∀k,k<n->F s k=false)(s:Nat->Bool):∀q,n<=q->∀k,k<n->iterN F q s k=iterN F n s k:=by
 have stay:∀i,(∀k,k<n->iterN F (i+1) s k=iterN F i s k)->∀q,i<=q->∀k,k<n->iterN F q s k=iterN F i s k:=by
  intro i hi q hq;induction q with
  |zero=>
   obtain rfl:i=0:=by omega
   exact fun _ _=>rfl
  |succ q ih=>
   by_cases e:i=q+1
   . subst e;exact fun _ _=>rfl
   . intro k hk;exact(hext _ _ (ih (by omega)) k hk).trans (hi k hk)
 by_cases h0:cntN s n=0
 . have hz:=cntN_zero n h0;have h1:∀k,k<n->iterN F (0+1) s k=iterN F 0 s k:=fun k hk=>(hnil s hz k hk).trans (hz k hk).symm
   intro q _ k hk;rw[stay 0 h1 q (by omega) k hk,stay 0 h1 n (by omega) k hk]
 . have key:∀j,(∃i,i<j/\∀k,k<n->iterN F (i+1) s k=iterN F i s k)\/j+1<=cntN (iterN F j s) n:=by
    intro j;induction j with
    |zero=>
     right;show 0+1<=cntN s n;omega
    |succ j ih=>
     rcases ih with⟨i,hi,h⟩|h
     . exact .inl ⟨i,by omega,h⟩
     . by_cases hs:∀k,k<n->iterN F (j+1) s k=iterN F j s k
       . exact .inl ⟨j,by omega,hs⟩
       . right;have hk:∃k,k<n/\iterN F (j+1) s k=true/\iterN F j s k=false:=by
          apply Classical.byContradiction;intro hno;apply hs;intro k hk;cases h1:iterN F j s k with
          |true=>exact hinc _ k hk h1
          |false=>
           cases h2:iterN F (j+1) s k with
           |false=>rfl
           |true=>exact absurd ⟨k,hk,h2,h1⟩ hno
         have:=cntN_lt n (fun k hk h=>hinc (iterN F j s) k hk h) hk;show j+1+1<=cntN (F (iterN F j s)) n;omega
   rcases key n with⟨i,hi,h⟩|h
   . intro q hq k hk;rw[stay i h q (by omega) k hk,stay i h n (by omega) k hk]
   . have:=cntN_le (iterN F n s) n;omega
end
abbrev Mt:=Nat->Nat->Bool
def eitherM(a b:Mt):Mt:=fun i k=>a i k||b i k
def behindM(n:Nat)(a b:Mt):Mt:=fun i j=>(List.range n).any fun k=>a i k&&b k j
def sameM:Mt:=fun i k=>decide (i=k)
def noneM:Mt:=fun _ _=>false
def oftM(n:Nat)(a:Mt):Nat->Mt
 |0=>a
 |j+1=>eitherM (oftM n a j) (behindM n (oftM n a j) a)
def oftenM(n:Nat)(a:Mt):Mt:=oftM n a n
def wordM(fs:List Fa)(V:List Wd)(w:Wd):Mt:=fun i k=>fs.any fun f=>decide (f.2.1=w)&&decide (V[i]?=some f.1)&&decide (V[k]?=some f.2.2)
def endM(n:Nat)(k:Int)(m:Mt):Mt:=
 let m1:=if k=6 then m else oftenM n m
 if k=5 then m1 else eitherM m1 sameM
def leadsM(fs:List Fa)(V:List Wd):Pt->Mt
 |⟨k,w,kids⟩=>if k=1 then wordM fs V w else if k=2 then (kids.map (leadsM fs V)).foldl (behindM V.length) sameM else if k=3 then (kids.map (leadsM fs V)).foldl eitherM noneM else endM V.length k ((kids.map (leadsM fs V)).headD noneM)
theorem leadsM_mk(fs:List Fa)(V:List Wd)(k:Int)(w:Wd)(kids:List Pt):leadsM fs V ⟨k,w,kids⟩=if k=1 then wordM fs V w else if k=2 then (kids.map (leadsM fs V)).foldl (behindM V.length) sameM else if k=3 then (kids.map (leadsM fs V)).foldl eitherM noneM else endM V.length k ((kids.map (leadsM fs V)).headD noneM):=by rw[leadsM]
def SpecM(V:List Wd)(m:Mt)(R:Wd->Wd->Prop):Prop:=∀i k x y,V[i]?=some x->V[k]?=some y->(m i k=true↔R x y)
theorem spec_either{V:List Wd}{a b:Mt}{R S:Wd->Wd->Prop}(ha:SpecM V a R)(hb:SpecM V b S):SpecM V (eitherM a b) (fun x y=>R x y\/S x y):=fun i k x y hx hy=>by
 show (a i k||b i k)=true↔_;rw[Bool.or_eq_true,ha i k x y hx hy,hb i k x y hx hy]
theorem spec_behind{V:List Wd}{a b:Mt}{R S:Wd->Wd->Prop}(ha:SpecM V a R)(hb:SpecM V b S)(hV:∀x z,x∈V->R x z->z∈V):SpecM V (behindM V.length a b) (fun x y=>∃z,R x z/\S z y):=fun i k x y hx hy=>by
 show (List.range V.length).any (fun z=>a i z&&b z k)=true↔_;rw[List.any_eq_true];constructor
 . rintro⟨j,hj,h⟩;have hj:=yA.1 hj;obtain⟨z,hz⟩:∃z,V[j]?=some z:=⟨_,zB hj⟩
   rw[Bool.and_eq_true,ha i j x z hx hz,hb j k z y hz hy]at h;exact⟨z,h⟩
 . rintro⟨z,h1,h2⟩;obtain⟨j,hj⟩:=List.getElem?_of_mem (hV x z (zC hx) h1);refine⟨j,yA.2 (zE.1 hj).1,?_⟩;rw[Bool.and_eq_true,ha i j x z hx hj,hb j k z y hj hy];exact⟨h1,h2⟩
theorem spec_same{V:List Wd}(hV:RiseL less V):SpecM V sameM (fun x y=>x∈V/\x=y):=fun i k x y hx hy=>by
 show decide (i=k)=true↔_;rw[decide_eq_true_eq];constructor
 . intro e;subst e;rw[hx]at hy;injection hy with hy;exact⟨zC hx,hy⟩
 . rintro⟨_,e⟩;subst e;exact hV.once ordW hx hy
theorem spec_oft{V:List Wd}{a:Mt}{R:Wd->Wd->Prop}(ha:SpecM V a R)(hV:∀x z,x∈V->R x z->z∈V):∀j,SpecM V (oftM V.length a j) (fun x y=>∃p,p<=j/\powR R p x y)
 |0=>fun i k x y hx hy=>by
  show a i k=true↔_;rw[ha i k x y hx hy];constructor
  . exact fun h=>⟨0,zD _,h⟩
  . rintro⟨p,hp,h⟩;obtain rfl:p=0:=by omega
    exact h
 |j+1=>by
  have ih:=spec_oft ha hV j;have hin:∀p x z,x∈V->powR R p x z->z∈V:=by
   intro p;induction p with
   |zero=>exact hV
   |succ p ihp=>
    rintro x z hx ⟨u,h1,h2⟩;exact hV u z (ihp x u hx h1) h2
  intro i k x y hx hy;rw[show oftM V.length a (j+1)=eitherM (oftM V.length a j) (behindM V.length (oftM V.length a j) a)from rfl];rw[spec_either ih (spec_behind ih ha (fun x z hx ⟨p,_,h⟩=>hin p x z hx h)) i k x y hx hy];constructor
  . rintro (⟨p,hp,h⟩|⟨z,⟨p,hp,h⟩,h2⟩)
    . exact⟨p,by omega,h⟩
    . exact⟨p+1,by omega,z,h,h2⟩
  . rintro⟨p,hp,h⟩;cases p with
    |zero=>exact .inl ⟨0,zS _,h⟩
    |succ p=>
     obtain⟨z,h1,h2⟩:=h;exact .inr ⟨z,⟨p,by omega,h1⟩,h2⟩
theorem oft_row(n:Nat)(a:Mt)(i:Nat):∀j,oftM n a j i=iterN (fun s k=>s k||(List.range n).any fun z=>s z&&a z k) j (a i)
 |0=>rfl
 |j+1=>by
  funext k;show (oftM n a j i k||(List.range n).any fun z=>oftM n a j i z&&a z k)=_;rw[oft_row n a i j];rfl
theorem any_false{n:Nat}{f:Nat->Bool}(h:∀z,z<n->f z=false):(List.range n).any f=false:=by
 rw[List.any_eq_false];intro z hz;rw[h z (yA.1 hz)];simp
theorem any_congr{n:Nat}{f g:Nat->Bool}(h:∀z,z<n->f z=g z):(List.range n).any f=(List.range n).any g:=by
 rw[Bool.eq_iff_iff,List.any_eq_true,List.any_eq_true];constructor
 . rintro⟨z,hz,e⟩;exact⟨z,hz,by rw[<- h z (yA.1 hz)];exact e⟩
 . rintro⟨z,hz,e⟩;exact⟨z,hz,by rw[h z (yA.1 hz)];exact e⟩
theorem oft_stable(n:Nat)(a:Mt)(i k:Nat)(hk:k<n)(q:Nat)(hq:n<=q):oftM n a q i k=oftM n a n i k:=by
 rw[oft_row,oft_row];refine iter_stable (n:=n) (fun s k _ h=>by simp[h]) (fun s t h k hk=>?_) (fun s h k hk=>?_) (a i) q hq k hk
 . show (s k||_)=(t k||_);rw[h k hk,any_congr (fun z hz=>by rw[h z hz])]
 . show (s k||_)=false;rw[h k hk,any_false (fun z hz=>by rw[h z hz];rfl)];rfl
theorem spec_often{V:List Wd}{a:Mt}{R:Wd->Wd->Prop}(ha:SpecM V a R)(hV:∀x z,x∈V->R x z->z∈V):SpecM V (oftenM V.length a) (fun x y=>∃p,powR R p x y):=fun i k x y hx hy=>by
 have hk:k<V.length:=(zE.1 hy).1;constructor
 . intro h;obtain⟨p,_,h2⟩:=(spec_oft ha hV V.length i k x y hx hy).1 h;exact⟨p,h2⟩
 . rintro⟨p,h⟩;have h2:=(spec_oft ha hV (max p V.length) i k x y hx hy).2 ⟨p,Nat.le_max_left _ _,h⟩;rw[oft_stable V.length a i k hk _ (Nat.le_max_right _ _)]at h2;exact h2
theorem spec_word{fs:List Fa}{w:Wd}:SpecM (vertsL fs) (wordM fs (vertsL fs) w) (leadF fs (fun l=>l=[w])):=fun i k x y hx hy=>by
 rw[lead_word];show fs.any _=true↔_;rw[List.any_eq_true];constructor
 . rintro⟨⟨a,b,c⟩,hf,h⟩;simp only[Bool.and_eq_true,decide_eq_true_eq]at h;obtain⟨⟨rfl,h1⟩,h2⟩:=h;rw[hx]at h1;rw[hy]at h2;injection h1 with h1;injection h2 with h2;subst h1 h2;exact hf
 . intro h;exact⟨_,h,by simp[hx,hy]⟩
theorem spec_iff{V:List Wd}{m:Mt}{R S:Wd->Wd->Prop}(h:SpecM V m R)(e:∀x y,R x y↔S x y):SpecM V m S:=fun i k x y hx hy=>(h i k x y hx hy).trans (e x y)
theorem spec_leads(fs:List Fa):∀(t:Pt) (d:Nat),shapedP d t=true->SpecM (vertsL fs) (leadsM fs (vertsL fs) t) (leadP fs t):=by
 refine Pt.ind (fun k w kids ih=>?_);intro d hd;cases d with
 |zero=>cases hd
 |succ d=>
  rw[shapedP,Bool.and_eq_true,Bool.and_eq_true,yJ]at hd;obtain⟨⟨hfo,_⟩,hk⟩:=hd;have hkid:∀x∈kids,SpecM (vertsL fs) (leadsM fs (vertsL fs) x) (leadP fs x):=fun x hx=>ih x hx d (hk x hx)
  have hin:∀(f:List Wd->Prop) x z,x∈vertsL fs->leadF fs f x z->z∈vertsL fs:=fun f x z _ h=>lead_vert h
  have hseq:∀(done todo:List Pt) (m:Mt),(∀x∈todo,x∈kids)->SpecM (vertsL fs) m (leadF fs (seqL (done.map willL)))->SpecM (vertsL fs) ((todo.map (leadsM fs (vertsL fs))).foldl (behindM (vertsL fs).length) m) (leadF fs (seqL ((done++todo).map willL))):=by
   intro done todo;induction todo generalizing done with
   |nil=>intro m _ hm;simpa using hm
   |cons x todo iht=>
    intro m ht hm;rw[List.map_cons,yN];have h1:=iht (done++[x]) (behindM (vertsL fs).length m (leadsM fs (vertsL fs) x)) (fun y hy=>ht y (zP _ hy)) (by
     rw[yP];exact spec_iff (spec_behind hm (hkid x (ht x (zL ..))) (hin _)) (fun x y=>(lead_seq_snoc fs _ _ x y).symm))
    simpa using h1
  have halt:∀(done todo:List Pt) (m:Mt),(∀x∈todo,x∈kids)->SpecM (vertsL fs) m (leadF fs (altL (done.map willL)))->SpecM (vertsL fs) ((todo.map (leadsM fs (vertsL fs))).foldl eitherM m) (leadF fs (altL ((done++todo).map willL))):=by
   intro done todo;induction todo generalizing done with
   |nil=>intro m _ hm;simpa using hm
   |cons x todo iht=>
    intro m ht hm;rw[List.map_cons,yN];have h1:=iht (done++[x]) (eitherM m (leadsM fs (vertsL fs) x)) (fun y hy=>ht y (zP _ hy)) (by
     refine spec_iff (spec_either hm (hkid x (ht x (zL ..)))) (fun u v=>?_);rw[lead_alt,lead_alt,yP];constructor
     . rintro (⟨f,hf,h⟩|h)
       . exact⟨f,yI _ hf,h⟩
       . exact⟨willL x,List.mem_append_right _ (by simp),h⟩
     . rintro⟨f,hf,h⟩;rcases zN.1 hf with hf|hf
       . exact .inl ⟨f,hf,h⟩
       . simp at hf;subst hf;exact .inr h)
    simpa using h1
  show SpecM _ _ (leadF fs (willL ⟨k,w,kids⟩));rw[willL_mk,leadsM_mk];unfold kindL;by_cases k1:k=1
  . rw[if_pos k1];simp only[if_pos k1];exact spec_word
  by_cases k2:k=2
  . rw[if_neg k1,if_pos k2];simp only[if_neg k1,if_pos k2];have h1:=hseq [] kids sameM (fun x hx=>hx) (spec_iff (spec_same (verts_rise fs)) (fun x y=>(lead_seq_nil fs x y).symm));exact h1
  by_cases k3:k=3
  . rw[if_neg k1,if_neg k2,if_pos k3];subst k3;have h1:=halt [] kids noneM (fun x hx=>hx) (fun i k x y _ _=>by rw[lead_alt];simp[noneM]);exact h1
  . rw[if_neg k1,if_neg k2,if_neg k3];have hone:kids.length=1/\(k=4\/k=5\/k=6):=by
     unfold formedP at hfo;rw[if_neg k1]at hfo;simp only[k2,k3,or_self,if_false]at hfo;split at hfo
     . rename_i h4;simp at hfo;exact⟨hfo.1,h4⟩
     . cases hfo
    obtain⟨x,rfl⟩:=List.length_eq_one_iff.1 hone.1;have hx:=hkid x (by simp);have ho:=spec_often hx (hin _);simp only[List.map_cons,List.map_nil,List.headD_cons];rcases hone.2 with rfl|rfl|rfl
    . refine spec_iff (spec_either ho (spec_same (verts_rise fs))) (fun u v=>?_);show _↔leadF fs (starL (altL [willL x])) u v;rw[lead_star,alt_one,lead_plus];rfl
    . refine spec_iff ho (fun u v=>?_);show _↔leadF fs (plusL (altL [willL x])) u v;rw[alt_one,lead_plus];rfl
    . refine spec_iff (spec_either hx (spec_same (verts_rise fs))) (fun u v=>?_);show _↔leadF fs (fun l=>l=[]\/altL [willL x] l) u v;rw[alt_one,lead_may];rfl
theorem mem_addN_self(l:List Wd){t:Tm}(h:t.1=true):t.2∈addN l t:=by
 unfold addN;by_cases hm:t.2∈l
 . rw[if_neg (fun x=>x.2 hm)];exact hm
 . rw[if_pos ⟨h,hm⟩];simp
theorem mem_addN_iff{l:List Wd}{t:Tm}{s:Wd}:s∈addN l t↔s∈l\/(t.1=true/\s=t.2):=by
 constructor
 . intro h;unfold addN at h;split at h
   . rename_i hc;rcases zN.1 h with h|h
     . exact .inl h
     . exact .inr ⟨hc.1,by simpa using h⟩
   . exact .inl h
 . rintro (h|⟨h,rfl⟩)
   . exact addN_sub h
   . exact mem_addN_self l h
theorem mem_namesP_iff{l:List Pa}{s:Wd}:s∈namesP l↔∃a∈l,(a.1.1=true/\s=a.1.2)\/(a.2.2.1=true/\s=a.2.2.2):=by
 have key:∀(l:List Pa) (n:List Wd),s∈l.foldl (fun n a=>addN (addN n a.1) a.2.2) n↔s∈n\/∃a∈l,(a.1.1=true/\s=a.1.2)\/(a.2.2.1=true/\s=a.2.2.2):=by
  intro l;induction l with
  |nil=>intro n;simp
  |cons a l ih=>
   intro n;rw[yN,ih,mem_addN_iff,mem_addN_iff];constructor
   . rintro (((h|h)|h)|⟨b,hb,h⟩)
     . exact .inl h
     . exact .inr ⟨a,zL ..,.inl h⟩
     . exact .inr ⟨a,zL ..,.inr h⟩
     . exact .inr ⟨b,zP _ hb,h⟩
   . rintro (h|⟨b,hb,h⟩)
     . exact .inl (.inl (.inl h))
     . rcases zX.1 hb with rfl|hb
       . rcases h with h|h
         . exact .inl (.inl (.inr h))
         . exact .inl (.inr h)
       . exact .inr ⟨b,hb,h⟩
 have:=key l [];simpa[namesP]using this
def tv(g:Wd->Wd)(t:Tm):Wd:=if t.1=true then g t.2 else t.2
def RowP(fs:List Fa)(vars:List Wd)(l:List Pa)(r:Rw):Prop:=
 ∃g:Wd->Wd,(∀a∈l,leadP fs a.2.1 (tv g a.1) (tv g a.2.2))/\r=vars.map g
theorem RowP.len{fs:List Fa}{vars:List Wd}{l:List Pa}{r:Rw}(h:RowP fs vars l r):r.length=vars.length:=by
 obtain⟨g,_,rfl⟩:=h;simp
theorem RowP.more{fs gs:List Fa}(h:∀f∈fs,f∈gs){vars:List Wd}{l:List Pa}{r:Rw}(hr:RowP fs vars l r):RowP gs vars l r:=by
 obtain⟨g,hg,e⟩:=hr;exact⟨g,fun a ha=>lead_more h (hg a ha),e⟩
theorem weights_in{H:Type}{P:Program}{e:TypeId}{d:DataW H}:∀ {l:List (DataW H)},d∈l->∀q∈d.weights P e,q∈DataW.weightsAll P e l
 |x::l,h,q,hq=>by
  unfold DataW.weightsAll;rcases zX.1 h with rfl|h
  . exact yI _ hq
  . exact List.mem_append_right _ (weights_in h q hq)
theorem open_slN{α:Type}{en:α->List Value}{k:Nat}(d0:α)(hk:∀x,(en x).length=k)(hk0:0<k){t el:TypeId}(ht:Tryz.prog.underlying t=some (.slice el))(hc:Tryz.prog.cellsOf el=k)(Pr:α->Prop)
 {H:Type} {enc:TypeId×Value->H} {W:World} {fuel:Nat} {v:Value} {x:DataW H×List MemPlace}
 (op:∀(fuel:Nat) (cs:List Value) (y:DataW H×List MemPlace),SizeOf.sizeOf y.1<SizeOf.sizeOf x.1->DataW.trod enc Tryz.prog W 0 (fun _=>true) true fuel el cs=some y->(∀m∈y.1.weights Tryz.prog el,m<=reachBytes)->∃a:α,cs=en a/\Pr a)
 (hf:DataW.trod enc Tryz.prog W 0 (fun _=>true) true fuel t [v]=some x) (hw:∀m∈x.1.weights Tryz.prog t,m<=reachBytes):
 ∃L:List α,SlS en k (fun _=>True) W v L/\(∀a∈L,Pr a)/\L.length<=maxLen/\CapS v L.length:=by
 rcases Go.Deep.open_slice ht hf with⟨hcs,_⟩|⟨a,len,cap,m,n,D,Pl,hcs,_,hl,hm,hmm,hx,hcell⟩
 . simp only[List.cons.injEq,and_true]at hcs;subst hcs;exact⟨[],SlS.nil _ _,by simp,by simp,none,0,rfl,zD _⟩
 . simp only[List.cons.injEq,and_true]at hcs;subst hcs;simp only[if_true]at hmm;rw[hc]at hcell;have key:∀i,i<len->∃r:α,W.cells? 0 (a.add (i*k)) k=some (en r)/\Pr r:=by
    intro i hi;obtain⟨cs,h1,h2⟩:=hcell i (by omega);obtain⟨r,rfl,h3⟩:=op _ _ _ (by
     rw[hx];have h4:=List.sizeOf_lt_of_mem (show D i∈(List.range len).map D from zR.2 ⟨i,yA.2 hi,rfl⟩);simp only[DataW.slice.sizeOf_spec];omega) h2 (fun q hq=>hw q (by
     rw[hx];simp only[DataW.weights,ht];exact zP _ (yI _ (weights_in (zR.2 ⟨i,yA.2 hi,rfl⟩) q hq))))
    exact⟨r,h1,h3⟩
   obtain⟨F,hF⟩:∃F:Nat->α,∀i,i<len->W.cells? 0 (a.add (i*k)) k=some (en (F i))/\Pr (F i):=
    ⟨fun i=>if h:i<len then Classical.choose (key i h)else d0,fun i hi=>by simp only[hi,dif_pos];exact Classical.choose_spec (key i hi)⟩
   have hvl:((List.range len).map F).length=len:=by simp
   refine⟨(List.range len).map F,⟨some a,cap,by rw[hvl],?_⟩,?_,by rw[hvl];omega,some a,cap,by rw[hvl],by rw[hvl];exact hl⟩
   . by_cases h0:len=0
     . left;rw[h0];rfl
     . right;obtain⟨b,off,spot⟩:=a;obtain⟨g1,_⟩:=hF 0 (by omega);have g2:=(World.cells?_some g1).2.2 0 (by omega);have hspot:spot=none:=by
        have hz:(en (F 0))[0]?=some ((en (F 0))[0]'(by rw[hk];exact hk0)):=zB _;rw[hz]at g2;simpa[Addr.add]using World.cell?_spot g2
       subst hspot;have hlt:b<W.heap.size:=by
        have hz:(en (F 0))[0]?=some ((en (F 0))[0]'(by rw[hk];exact hk0)):=zB _;rw[hz]at g2;have:=World.block_lt_of_cell? W _ g2;simpa only[Go.WideShapes.add_plain]using this
       refine⟨b,off,rfl,trivial,hlt,fun j r hj c u hu=>?_⟩;have hj1:j<len:=by have:=(zE.1 hj).1;rwa[hvl]at this
       rw[zI,yO hj1]at hj;simp only[Option.map_some,Option.some.injEq]at hj;subst hj;have hck:c<k:=by have:=(zE.1 hu).1;rw[hk]at this;exact this
       have q:=(World.cells?_some (hF j hj1).1).2.2 c hck;simp only[Go.WideShapes.add_plain]at q;rw[q,hu]
   . intro r hr;obtain⟨i,hi,rfl⟩:=zR.1 hr;exact(hF i (yA.1 hi)).2
theorem cellsQS:Tryz.prog.cellsOf 9=1:=by kernel_rfl
theorem cellsQI:Tryz.prog.cellsOf 3=1:=by kernel_rfl
theorem cellsQP:Tryz.prog.cellsOf 25=3:=by kernel_rfl
theorem cellsQK:Tryz.prog.cellsOf 23=1:=by kernel_rfl
theorem open_node{H:Type}{enc:TypeId×Value->H}{W:World}:∀(m fuel:Nat) (cs:List Value) (x:DataW H×List MemPlace),SizeOf.sizeOf x.1<m->
 DataW.trod enc Tryz.prog W 0 (fun _=>true) true fuel 25 cs=some x->(∀m∈x.1.weights Tryz.prog 25,m<=reachBytes)->∃t:Vt,cs=csN t/\VOk (fun _=>True) W t:=by
 intro m;induction m with
 |zero=>intro _ _ _ h;omega
 |succ m ih=>
  intro fuel cs x hm hf hw;obtain⟨y0,y1,y2,n,hx,hlen,h0,h1,h2⟩:=Go.Deep.trod_struct3 Tryz.underlying25 hf;rw[cellsQP]at hlen;obtain⟨c0,c1,c2,rfl⟩:∃c0 c1 c2,cs=[c0,c1,c2]:=by
   match cs,hlen with
   |[c0,c1,c2],_=>exact⟨c0,c1,c2,rfl⟩
  simp only[cellsQI,cellsQS,cellsQK,List.drop_zero,List.drop_succ_cons,List.take_succ_cons,List.take_zero]at h0 h1 h2;obtain⟨z,k0,_,_⟩:=DataW.trod_int Tryz.underlying3 h0;obtain⟨s1,k1,_,l1⟩:=DataW.trod_string Tryz.underlying9 h1;simp only[List.cons.injEq,and_true]at k0 k1;subst k0 k1;have hsz:SizeOf.sizeOf y2.1<SizeOf.sizeOf x.1:=by
   rw[hx];simp only[DataW.agg.sizeOf_spec,List.cons.sizeOf_spec];omega
  rw[hx]at hw;simp only[DataW.weights,Tryz.underlying25,List.map_cons,List.map_nil,DataW.weightsEach,List.append_nil]at hw;obtain⟨L,g1,g2,g3,_⟩:=open_slN (en:=csN) ⟨0,[],.slice none 0 0,[]⟩ csN_len (by decide) Tryz.underlying23 cellsQP (VOk (fun _=>True) W) (fun fuel cs y hy h hq=>ih fuel cs y (by omega) h hq) h2 (fun m hm=>hw m (by simp[hm]));refine⟨⟨z,s1.data.toList,c2,L⟩,rfl,vok_mk.2 ⟨g1,?_,g3,g2⟩⟩;rw[data_len];exact l1
theorem open_path{H:Type}{enc:TypeId×Value->H}{W:World}{fuel:Nat}{cs:List Value}{x:DataW H×List MemPlace}
 (hf:DataW.trod enc Tryz.prog W 0 (fun _=>true) true fuel 25 cs=some x) (hw:∀m∈x.1.weights Tryz.prog 25,m<=reachBytes):∃t:Vt,cs=csN t/\VOk (fun _=>True) W t:=open_node _ _ _ _ (Nat.lt_succ_self _) hf hw
theorem open_txts{H:Type}{enc:TypeId×Value->H}{W:World}{fuel:Nat}{v:Value}{x:DataW H×List MemPlace}
 (hf:DataW.trod enc Tryz.prog W 0 (fun _=>true) true fuel 22 [v]=some x) (hw:∀m∈x.1.weights Tryz.prog 22,m<=reachBytes):
 ∃L:List (List UInt8),SlS csT 1 (fun _=>True) W v L/\(∀s∈L,s.length<=140737488351232)/\L.length<=maxLen/\CapS v L.length:=
 open_slN (en:=csT) [] (fun _=>rfl) (by decide) Tryz.underlying22 cellsQS (fun s=>s.length<=140737488351232) (fun _ cs y _ h hq=>by
  obtain⟨s,rfl,hy,_⟩:=DataW.trod_string Tryz.underlying9 h;refine⟨s.data.toList,rfl,?_⟩;rw[hy]at hq;exact hq _ (by simp[DataW.weights])) hf hw
def VCap:Vt->Prop
 |⟨_,_,v,l⟩=>CapS v l.length/\∀x,x∈l->VCap x
theorem vcap_mk{k:Int}{wd:List UInt8}{v:Value}{l:List Vt}:VCap ⟨k,wd,v,l⟩↔CapS v l.length/\∀x,x∈l->VCap x:=by rw[VCap]
theorem open_nodeC{H:Type}{enc:TypeId×Value->H}{W:World}:∀(m fuel:Nat) (cs:List Value) (x:DataW H×List MemPlace),SizeOf.sizeOf x.1<m->
 DataW.trod enc Tryz.prog W 0 (fun _=>true) true fuel 25 cs=some x->(∀m∈x.1.weights Tryz.prog 25,m<=reachBytes)->∃t:Vt,cs=csN t/\VOk (fun _=>True) W t/\VCap t:=by
 intro m;induction m with
 |zero=>intro _ _ _ h;omega
 |succ m ih=>
  intro fuel cs x hm hf hw;obtain⟨y0,y1,y2,n,hx,hlen,h0,h1,h2⟩:=Go.Deep.trod_struct3 Tryz.underlying25 hf;rw[cellsQP]at hlen;obtain⟨c0,c1,c2,rfl⟩:∃c0 c1 c2,cs=[c0,c1,c2]:=by
   match cs,hlen with
   |[c0,c1,c2],_=>exact⟨c0,c1,c2,rfl⟩
  simp only[cellsQI,cellsQS,cellsQK,List.drop_zero,List.drop_succ_cons,List.take_succ_cons,List.take_zero]at h0 h1 h2;obtain⟨z,k0,_,_⟩:=DataW.trod_int Tryz.underlying3 h0;obtain⟨s1,k1,_,l1⟩:=DataW.trod_string Tryz.underlying9 h1;simp only[List.cons.injEq,and_true]at k0 k1;subst k0 k1;have hsz:SizeOf.sizeOf y2.1<SizeOf.sizeOf x.1:=by
   rw[hx];simp only[DataW.agg.sizeOf_spec,List.cons.sizeOf_spec];omega
  rw[hx]at hw;simp only[DataW.weights,Tryz.underlying25,List.map_cons,List.map_nil,DataW.weightsEach,List.append_nil]at hw;obtain⟨L,g1,g2,g3,g4⟩:=open_slN (en:=csN) ⟨0,[],.slice none 0 0,[]⟩ csN_len (by decide) Tryz.underlying23 cellsQP (fun t=>VOk (fun _=>True) W t/\VCap t) (fun fuel cs y hy h hq=>ih fuel cs y (by omega) h hq) h2 (fun m hm=>hw m (by simp[hm]));refine⟨⟨z,s1.data.toList,c2,L⟩,rfl,vok_mk.2 ⟨g1,?_,g3,fun x hx=>(g2 x hx).1⟩,vcap_mk.2 ⟨g4,fun x hx=>(g2 x hx).2⟩⟩;rw[data_len];exact l1
theorem open_pathC{H:Type}{enc:TypeId×Value->H}{W:World}{fuel:Nat}{cs:List Value}{x:DataW H×List MemPlace}
 (hf:DataW.trod enc Tryz.prog W 0 (fun _=>true) true fuel 25 cs=some x) (hw:∀m∈x.1.weights Tryz.prog 25,m<=reachBytes):∃t:Vt,cs=csN t/\VOk (fun _=>True) W t/\VCap t:=open_nodeC _ _ _ _ (Nat.lt_succ_self _) hf hw
end Go.Proofs.YtdalcipmpelifaaGreatDoor
