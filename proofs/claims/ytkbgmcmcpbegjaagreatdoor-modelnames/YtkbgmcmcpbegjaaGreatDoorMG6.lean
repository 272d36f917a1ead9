/- MMath. -/
import Derived.Test.YtkbgmcmcpbegjaaGreatDoorMG4
set_option maxRecDepth 100000
namespace Go.Proofs.YtkbgmcmcpbegjaaGreatDoor
open Go.RowKit
structure Ords {α:Type} (lt:α->α->Bool):Prop where
 irr:∀a,lt a a=false
 tr:∀a b c,lt a b=true->lt b c=true->lt a c=true
 tot:∀a b,lt a b=false->lt b a=false->a=b
section
variable {α:Type} {lt:α->α->Bool}
theorem Ords.ne(o:Ords lt){a b:α}(h:lt a b=true):a≠b:=by
 intro e;rw[e,o.irr]at h;cases h
theorem Ords.asymm(o:Ords lt){a b:α}(h:lt a b=true):lt b a=false:=by
 cases hb:lt b a with
 |false=>rfl
 |true=>
  have:=o.tr a b a h hb;rw[o.irr]at this;cases this
def RiseL(lt:α->α->Bool)(l:List α):Prop:=l.Pairwise (fun a b=>lt a b=true)
theorem riseL_ext(o:Ords lt):∀ {l1 l2:List α},RiseL lt l1->RiseL lt l2->(∀t,t∈l1↔t∈l2)->l1=l2
 |[],[],_,_,_=>rfl
 |[],b::l2,_,_,h=>absurd ((h b).2 (by simp)) (by simp)
 |a::l1,[],_,_,h=>absurd ((h a).1 (by simp)) (by simp)
 |a::l1,b::l2,h1,h2,h=>by
  obtain⟨g1,r1⟩:=List.pairwise_cons.1 h1;obtain⟨g2,r2⟩:=List.pairwise_cons.1 h2;have hab:a=b:=by
   rcases yB.1 ((h a).1 (by simp))with e|e
   . exact e
   . rcases yB.1 ((h b).2 (by simp))with e'|e'
     . exact e'.symm
     . have:=o.asymm (g2 a e);rw[g1 b e']at this;cases this
  subst hab;rw[riseL_ext o r1 r2 (fun t=>?_)];constructor
  . intro ht;rcases yB.1 ((h t).1 (zP _ ht))with e|e
    . subst e;exact absurd rfl (o.ne (g1 t ht))
    . exact e
  . intro ht;rcases yB.1 ((h t).2 (zP _ ht))with e|e
    . subst e;exact absurd rfl (o.ne (g2 t ht))
    . exact e
theorem RiseL.lt_at(_o:Ords lt){l:List α}(h:RiseL lt l){i j:Nat}{x y:α}(hx:l[i]?=some x)(hy:l[j]?=some y)(hij:i<j):lt x y=true:=by
 have hj:=(zF.1 hy).1;have hi:=(zF.1 hx).1;have e1:=(zF.1 hx).2;have e2:=(zF.1 hy).2;have:=List.pairwise_iff_getElem.1 h i j hi hj hij;rw[e1,e2]at this;exact this
theorem RiseL.once(o:Ords lt){l:List α}(h:RiseL lt l){i j:Nat}{x:α}(hx:l[i]?=some x)(hy:l[j]?=some x):i=j:=by
 rcases Nat.lt_trichotomy i j with hlt|e|hgt
 . exact absurd rfl (o.ne (h.lt_at o hx hy hlt))
 . exact e
 . exact absurd rfl (o.ne (h.lt_at o hy hx hgt))
end
section
variable {α:Type} [DecidableEq α] {lt:α->α->Bool}
def putL(lt:α->α->Bool):List α->α->List α
 |[],t=>[t]
 |a::l,t=>if lt a t=true then a::putL lt l t else if a=t then a::l else t::a::l
theorem mem_putL{x t:α}:∀ {l:List α},x∈putL lt l t↔x=t\/x∈l
 |[]=>by simp[putL]
 |a::l=>by
  unfold putL;by_cases h:lt a t=true
  . rw[if_pos h,yB,mem_putL (l:=l),yB];constructor
    . rintro (h|h|h)
      . exact .inr (.inl h)
      . exact .inl h
      . exact .inr (.inr h)
    . rintro (h|h|h)
      . exact .inr (.inl h)
      . exact .inl h
      . exact .inr (.inr h)
  . rw[if_neg h];by_cases e:a=t
    . rw[if_pos e];subst e;simp
    . rw[if_neg e];simp
theorem RiseL.put(o:Ords lt){t:α}:∀ {l:List α},RiseL lt l->RiseL lt (putL lt l t)
 |[],_=>by simp[putL,RiseL]
 |a::l,h=>by
  obtain⟨g,r⟩:=List.pairwise_cons.1 h;unfold putL;by_cases h1:lt a t=true
  . rw[if_pos h1];refine List.pairwise_cons.2 ⟨fun x hx=>?_,RiseL.put o r⟩;rcases mem_putL.1 hx with e|e
    . subst e;exact h1
    . exact g x e
  . rw[if_neg h1];by_cases e:a=t
    . rw[if_pos e];exact h
    . rw[if_neg e];have h2:lt t a=true:=by
       cases h3:lt t a with
       |true=>rfl
       |false=>exact absurd (o.tot a t (by simpa using h1) h3) e
      refine List.pairwise_cons.2 ⟨fun x hx=>?_,h⟩;rcases yB.1 hx with e|e
      . subst e;exact h2
      . exact o.tr _ _ _ h2 (g x e)
theorem putL_len(l:List α)(t:α):(putL lt l t).length<=l.length+1:=by
 induction l with
 |nil=>simp[putL]
 |cons a l ih=>
  unfold putL;split
  . simp;omega
  . split<;>simp
end
theorem ordW:Ords less:=⟨less_irrefl,less_trans,less_cases⟩
abbrev Rw:=List Wd
def lessR:Rw->Rw->Bool
 |[],[]=>false
 |[],_::_=>true
 |_::_,[]=>false
 |a::l,b::r=>if a=b then lessR l r else less a b
theorem lessR_irr:∀a:Rw,lessR a a=false
 |[]=>rfl
 |a::l=>by rw[lessR,if_pos rfl];exact lessR_irr l
theorem lessR_tr:∀a b c:Rw,lessR a b=true->lessR b c=true->lessR a c=true
 |[],[],c,h,_=>by simp[lessR]at h
 |[],b::r,[],_,h=>by simp[lessR]at h
 |[],b::r,c::s,_,_=>rfl
 |a::l,[],c,h,_=>by simp[lessR]at h
 |a::l,b::r,[],_,h=>by simp[lessR]at h
 |a::l,b::r,c::s,h1,h2=>by
  rw[lessR]at h1 h2 ⊢;by_cases e1:a=b
  . subst e1;rw[if_pos rfl]at h1;by_cases e2:a=c
    . subst e2;rw[if_pos rfl]at h2 ⊢;exact lessR_tr l r s h1 h2
    . rw[if_neg e2]at h2 ⊢;exact h2
  . rw[if_neg e1]at h1;by_cases e2:b=c
    . subst e2;rw[if_neg e1];exact h1
    . rw[if_neg e2]at h2;have h3:=less_trans a b c h1 h2;rw[if_neg (ordW.ne h3)];exact h3
theorem lessR_tot:∀a b:Rw,lessR a b=false->lessR b a=false->a=b
 |[],[],_,_=>rfl
 |[],b::r,h,_=>by simp[lessR]at h
 |a::l,[],_,h=>by simp[lessR]at h
 |a::l,b::r,h1,h2=>by
  rw[lessR]at h1 h2;by_cases e:a=b
  . subst e;rw[if_pos rfl]at h1 h2;rw[lessR_tot l r h1 h2]
  . rw[if_neg e]at h1;rw[if_neg (fun x=>e x.symm)]at h2;exact absurd (less_cases a b h1 h2) e
theorem ordR:Ords lessR:=⟨lessR_irr,lessR_tr,lessR_tot⟩
abbrev Fa:=Wd×Wd×Wd
def vertsL(fs:List Fa):List Wd:=fs.foldl (fun l f=>putL less (putL less l f.1) f.2.2) []
theorem verts_fold:∀(fs:List Fa) (l:List Wd),RiseL less l->RiseL less (fs.foldl (fun l f=>putL less (putL less l f.1) f.2.2) l)/\∀x,x∈fs.foldl (fun l f=>putL less (putL less l f.1) f.2.2) l↔x∈l\/∃f∈fs,x=f.1\/x=f.2.2
 |[],l,h=>⟨h,fun x=>by simp⟩
 |f::fs,l,h=>by
  rw[yM];obtain⟨h1,h2⟩:=verts_fold fs (putL less (putL less l f.1) f.2.2) ((h.put ordW).put ordW);refine⟨h1,fun x=>?_⟩;rw[h2,mem_putL,mem_putL];constructor
  . rintro ((h|h|h)|⟨g,hg,h⟩)
    . exact .inr ⟨f,zL ..,.inr h⟩
    . exact .inr ⟨f,zL ..,.inl h⟩
    . exact .inl h
    . exact .inr ⟨g,zP _ hg,h⟩
  . rintro (h|⟨g,hg,h⟩)
    . exact .inl (.inr (.inr h))
    . rcases yB.1 hg with rfl|hg
      . rcases h with h|h
        . exact .inl (.inr (.inl h))
        . exact .inl (.inl h)
      . exact .inr ⟨g,hg,h⟩
theorem verts_rise(fs:List Fa):RiseL less (vertsL fs):=(verts_fold fs [] List.Pairwise.nil).1
theorem mem_verts{fs:List Fa}{x:Wd}:x∈vertsL fs↔∃f∈fs,x=f.1\/x=f.2.2:=by
 rw[vertsL,(verts_fold fs [] List.Pairwise.nil).2];simp
theorem verts_len:∀(fs:List Fa),(vertsL fs).length<=2*fs.length:=by
 intro fs;have key:∀(fs:List Fa) (l:List Wd),(fs.foldl (fun l f=>putL less (putL less l f.1) f.2.2) l).length<=l.length+2*fs.length:=by
  intro fs;induction fs with
  |nil=>intro l;simp
  |cons f fs ih=>
   intro l;rw[yM];have h1:=ih (putL less (putL less l f.1) f.2.2);have h2:=putL_len (lt:=less) (putL less l f.1) f.2.2;have h3:=putL_len (lt:=less) l f.1;simp only[yG];omega
 have:=key fs [];simpa[vertsL]using this
def goF(fs:List Fa):Wd->List Wd->Wd->Prop
 |x,[],y=>x=y
 |x,p::r,y=>∃z,(x,p,z)∈fs/\goF fs z r y
theorem go_append{fs:List Fa}:∀(a b:List Wd) (x y:Wd),goF fs x (a++b) y↔∃z,goF fs x a z/\goF fs z b y
 |[],b,x,y=>by simp[goF]
 |p::a,b,x,y=>by
  rw[List.cons_append,goF];constructor
  . rintro⟨z,h1,h2⟩;obtain⟨u,h3,h4⟩:=(go_append a b z y).1 h2;exact⟨u,⟨z,h1,h3⟩,h4⟩
  . rintro⟨u,⟨z,h1,h3⟩,h4⟩;exact⟨z,h1,(go_append a b z y).2 ⟨u,h3,h4⟩⟩
theorem go_vert{fs:List Fa}:∀(a:List Wd) (x y:Wd),x∈vertsL fs->goF fs x a y->y∈vertsL fs
 |[],x,y,hx,h=>by
  have h:x=y:=h;exact h▸hx
 |p::a,x,y,_,⟨z,h1,h2⟩=>go_vert a z y (mem_verts.2 ⟨_,h1,.inr rfl⟩) h2
def leadF(fs:List Fa)(f:List Wd->Prop)(x y:Wd):Prop:=x∈vertsL fs/\∃l,f l/\goF fs x l y
def leadP(fs:List Fa)(p:Pt)(x y:Wd):Prop:=leadF fs (willL p) x y
theorem lead_vert{fs:List Fa}{f:List Wd->Prop}{x y:Wd}(h:leadF fs f x y):y∈vertsL fs:=by
 obtain⟨hx,l,_,hg⟩:=h;exact go_vert l x y hx hg
theorem go_more{fs gs:List Fa}(h:∀f∈fs,f∈gs):∀(a:List Wd) (x y:Wd),goF fs x a y->goF gs x a y
 |[],_,_,h2=>h2
 |_::a,_,y,⟨z,h1,h2⟩=>⟨z,h _ h1,go_more h a z y h2⟩
theorem verts_more{fs gs:List Fa}(h:∀f∈fs,f∈gs){x:Wd}(hx:x∈vertsL fs):x∈vertsL gs:=by
 obtain⟨f,hf,e⟩:=mem_verts.1 hx;exact mem_verts.2 ⟨f,h f hf,e⟩
theorem lead_more{fs gs:List Fa}(h:∀f∈fs,f∈gs){f:List Wd->Prop}{x y:Wd}(hl:leadF fs f x y):leadF gs f x y:=by
 obtain⟨hx,l,hf,hg⟩:=hl;exact⟨verts_more h hx,l,hf,go_more h l x y hg⟩
theorem lead_word(fs:List Fa)(w:Wd)(x y:Wd):leadF fs (fun l=>l=[w]) x y↔(x,w,y)∈fs:=by
 constructor
 . rintro⟨_,l,rfl,z,h1,h2⟩;have h2:z=y:=h2;exact h2▸h1
 . intro h;exact⟨mem_verts.2 ⟨_,h,.inl rfl⟩,[w],rfl,y,h,rfl⟩
theorem lead_seq_nil(fs:List Fa)(x y:Wd):leadF fs (seqL []) x y↔x∈vertsL fs/\x=y:=by
 constructor
 . rintro⟨hx,l,rfl,h⟩;exact⟨hx,h⟩
 . rintro⟨hx,h⟩;exact⟨hx,[],rfl,h⟩
theorem lead_seq_snoc(fs:List Fa)(fl:List (List Wd->Prop))(f:List Wd->Prop)(x y:Wd):leadF fs (seqL (fl++[f])) x y↔∃z,leadF fs (seqL fl) x z/\leadF fs f z y:=by
 have key:∀(fl:List (List Wd->Prop)) (l:List Wd),seqL (fl++[f]) l↔∃a b,l=a++b/\seqL fl a/\f b:=by
  intro fl;induction fl with
  |nil=>
   intro l;constructor
   . rintro⟨a,b,rfl,ha,hb⟩;have hb:b=[]:=hb;exact⟨[],a,by simp[hb],rfl,ha⟩
   . rintro⟨a,b,rfl,ha,hb⟩;have ha:a=[]:=ha;exact⟨b,[],by simp[ha],hb,rfl⟩
  |cons g fl ih=>
   intro l;constructor
   . rintro⟨a,b,rfl,ha,hb⟩;obtain⟨c,d,rfl,hc,hd⟩:=(ih b).1 hb;exact⟨a++c,d,by simp,⟨a,c,rfl,ha,hc⟩,hd⟩
   . rintro⟨a,b,rfl,⟨c,d,rfl,hc,hd⟩,hb⟩;exact⟨c,d++b,by simp,hc,(ih (d++b)).2 ⟨d,b,rfl,hd,hb⟩⟩
 constructor
 . rintro⟨hx,l,hl,hg⟩;obtain⟨a,b,rfl,ha,hb⟩:=(key fl l).1 hl;obtain⟨z,h1,h2⟩:=(go_append a b x y).1 hg;exact⟨z,⟨hx,a,ha,h1⟩,go_vert a x z hx h1,b,hb,h2⟩
 . rintro⟨z,⟨hx,a,ha,h1⟩,_,b,hb,h2⟩;exact⟨hx,a++b,(key fl _).2 ⟨a,b,rfl,ha,hb⟩,(go_append a b x y).2 ⟨z,h1,h2⟩⟩
theorem lead_alt(fs:List Fa)(fl:List (List Wd->Prop))(x y:Wd):leadF fs (altL fl) x y↔∃f∈fl,leadF fs f x y:=by
 constructor
 . rintro⟨hx,l,⟨f,hf,h⟩,hg⟩;exact⟨f,hf,hx,l,h,hg⟩
 . rintro⟨f,hf,hx,l,h,hg⟩;exact⟨hx,l,⟨f,hf,h⟩,hg⟩
def powR(R:Wd->Wd->Prop):Nat->Wd->Wd->Prop
 |0,x,y=>R x y
 |n+1,x,y=>∃z,powR R n x z/\R z y
theorem lead_plus(fs:List Fa)(f:List Wd->Prop)(x y:Wd):leadF fs (plusL f) x y↔∃n,powR (leadF fs f) n x y:=by
 constructor
 . rintro⟨hx,l,⟨a,b,rfl,ha,ls,rfl,hls⟩,hg⟩;obtain⟨z,h1,h2⟩:=(go_append _ _ x y).1 hg;have key:∀(ls:List (List Wd)) (n:Nat) (z:Wd),(∀l∈ls,f l)->powR (leadF fs f) n x z->z∈vertsL fs->goF fs z ls.flatten y->∃n,powR (leadF fs f) n x y:=by
    intro ls;induction ls with
    |nil=>
     intro n z _ hp _ h;have h:z=y:=h;exact⟨n,h▸hp⟩
    |cons l ls ih=>
     intro n z hl hp hz h;rw[List.flatten_cons]at h;obtain⟨u,h3,h4⟩:=(go_append _ _ z y).1 h;exact ih (n+1) u (fun l hm=>hl l (zP _ hm)) ⟨z,hp,hz,l,hl l (zL ..),h3⟩ (go_vert l z u hz h3) h4
   exact key ls 0 z hls ⟨hx,a,ha,h1⟩ (go_vert a x z hx h1) h2
 . rintro⟨n,h⟩;have key:∀(n:Nat) (y:Wd),powR (leadF fs f) n x y->leadF fs (plusL f) x y:=by
    intro n;induction n with
    |zero=>
     rintro y ⟨hx,l,hl,hg⟩;exact⟨hx,l,⟨l,[],by simp,hl,[],rfl,by simp⟩,hg⟩
    |succ n ih=>
     rintro y ⟨z,h1,h2⟩;obtain⟨hx,l,⟨a,b,rfl,ha,ls,rfl,hls⟩,hg⟩:=ih z h1;obtain⟨_,l2,hl2,hg2⟩:=h2;refine⟨hx,a++(ls++[l2]).flatten,⟨a,_,rfl,ha,ls++[l2],rfl,?_⟩,?_⟩
     . intro u hu;rcases zM.1 hu with hu|hu
       . exact hls u hu
       . simp at hu;exact hu▸hl2
     . rw[List.flatten_append,<- List.append_assoc];exact(go_append _ _ x y).2 ⟨z,hg,by simpa using hg2⟩
   exact key n y h
theorem lead_star(fs:List Fa)(f:List Wd->Prop)(x y:Wd):leadF fs (starL f) x y↔leadF fs (plusL f) x y\/(x∈vertsL fs/\x=y):=by
 constructor
 . rintro⟨hx,l,⟨ls,rfl,hls⟩,hg⟩;cases ls with
   |nil=>exact .inr ⟨hx,hg⟩
   |cons a ls=>exact .inl ⟨hx,a++ls.flatten,⟨a,ls.flatten,rfl,hls a (zL ..),ls,rfl,fun u hu=>hls u (zP _ hu)⟩,by simpa using hg⟩
 . rintro (⟨hx,l,⟨a,b,rfl,ha,ls,rfl,hls⟩,hg⟩|⟨hx,e⟩)
   . exact⟨hx,a++ls.flatten,⟨a::ls,by simp,fun u hu=>by
      rcases yB.1 hu with rfl|hu
      . exact ha
      . exact hls u hu⟩,hg⟩
   . exact⟨hx,[],⟨[],rfl,by simp⟩,e⟩
theorem lead_may(fs:List Fa)(f:List Wd->Prop)(x y:Wd):leadF fs (fun l=>l=[]\/f l) x y↔leadF fs f x y\/(x∈vertsL fs/\x=y):=by
 constructor
 . rintro⟨hx,l,rfl|hl,hg⟩
   . exact .inr ⟨hx,hg⟩
   . exact .inl ⟨hx,l,hl,hg⟩
 . rintro (⟨hx,l,hl,hg⟩|⟨hx,e⟩)
   . exact⟨hx,l,.inr hl,hg⟩
   . exact⟨hx,[],.inl rfl,e⟩
end Go.Proofs.YtkbgmcmcpbegjaaGreatDoor
