/- MMat. -/
import Derived.Test.YtkbgmcmcpbegjaaGreatDoorMG6
set_option maxRecDepth 100000
namespace Go.Proofs.YtkbgmcmcpbegjaaGreatDoor
open Go.RowKit
def cntN(s:Nat->Bool):Nat->Nat
 |0=>0
 |n+1=>cntN s n+(if s n=true then 1 else 0)
theorem cntN_le(s:Nat->Bool):∀n,cntN s n<=n
 |0=>zD _
 |n+1=>by
  have:=cntN_le s n;unfold cntN;split<;>omega
theorem cntN_mono{s t:Nat->Bool}:∀n,(∀k,k<n->s k=true->t k=true)->cntN s n<=cntN t n
 |0,_=>zD _
 |n+1,h=>by
  have h1:=cntN_mono n (fun k hk=>h k (by omega));have h2:=h n (by omega);unfold cntN;by_cases e:s n=true
  . rw[if_pos e,if_pos (h2 e)];omega
  . rw[if_neg e];omega
theorem cntN_lt{s t:Nat->Bool}:∀n,(∀k,k<n->s k=true->t k=true)->(∃k,k<n/\t k=true/\s k=false)->cntN s n<cntN t n
 |0,_,⟨k,hk,_⟩=>by omega
 |n+1,h,⟨k,hk,h1,h2⟩=>by
  unfold cntN;by_cases e:k=n
  . subst e;have:=cntN_mono k (fun j hj=>h j (by omega));rw[if_pos h1,if_neg (by rw[h2];simp)];omega
  . have h3:=cntN_lt n (fun j hj=>h j (by omega)) ⟨k,by omega,h1,h2⟩;have h4:=h n (by omega);by_cases e2:s n=true
    . rw[if_pos e2,if_pos (h4 e2)];omega
    . rw[if_neg e2];omega
theorem cntN_zero{s:Nat->Bool}:∀n,cntN s n=0->∀k,k<n->s k=false
 |0,_,k,hk=>by omega
 |n+1,h,k,hk=>by
  unfold cntN at h;by_cases e:k=n
  . subst e;cases hs:s k with
    |false=>rfl
    |true=>rw[if_pos hs]at h;omega
  . exact cntN_zero n (by omega) k (by omega)
section
variable {n:Nat} {F:(Nat->Bool)->Nat->Bool}
def iterN(F:(Nat->Bool)->Nat->Bool):Nat->(Nat->Bool)->Nat->Bool
 |0,s=>s
 |j+1,s=>F (iterN F j s)
theorem iter_stable(hinc:∀s k,k<n->s k=true->F s k=true)(hext:∀s t,(∀k,k<n->s k=t k)->∀k,k<n->F s k=F t k)(hnil:∀s,(∀k,k<n->s k=false)->∀k,k<n->F s k=false)(s:Nat->Bool):∀q,n<=q->∀k,k<n->iterN F q s k=iterN F n s k:=by
 have stay:∀i,(∀k,k<n->iterN F (i+1) s k=iterN F i s k)->∀q,i<=q->∀k,k<n->iterN F q s k=iterN F i s k:=by
  intro i hi q hq;induction q with
  |zero=>
   obtain rfl:i=0:=by omega
   exact fun _ _=>rfl
  |succ q ih=>
   by_cases e:i=q+1
   . subst e;exact fun _ _=>rfl
   . intro k hk;exact(hext _ _ (ih (by omega)) k hk).trans (hi k hk)
 by_cases h0:cntN s n=0
 . have hz:=cntN_zero n h0;have h1:∀k,k<n->iterN F (0+1) s k=iterN F 0 s k:=fun k hk=>(hnil s hz k hk).trans (hz k hk).symm
   intro q _ k hk;rw[stay 0 h1 q (by omega) k hk,stay 0 h1 n (by omega) k hk]
 . have key:∀j,(∃i,i<j/\∀k,k<n->iterN F (i+1) s k=iterN F i s k)\/j+1<=cntN (iterN F j s) n:=by
    intro j;induction j with
    |zero=>
     right;show 0+1<=cntN s n;omega
    |succ j ih=>
     rcases ih with⟨i,hi,h⟩|h
     . exact .inl ⟨i,by omega,h⟩
     . by_cases hs:∀k,k<n->iterN F (j+1) s k=iterN F j s k
       . exact .inl ⟨j,by omega,hs⟩
       . right;have hk:∃k,k<n/\iterN F (j+1) s k=true/\iterN F j s k=false:=by
          apply Classical.byContradiction;intro hno;apply hs;intro k hk;cases h1:iterN F j s k with
          |true=>exact hinc _ k hk h1
          |false=>
           cases h2:iterN F (j+1) s k with
           |false=>rfl
           |true=>exact absurd ⟨k,hk,h2,h1⟩ hno
         have:=cntN_lt n (fun k hk h=>hinc (iterN F j s) k hk h) hk;show j+1+1<=cntN (F (iterN F j s)) n;omega
   rcases key n with⟨i,hi,h⟩|h
   . intro q hq k hk;rw[stay i h q (by omega) k hk,stay i h n (by omega) k hk]
   . have:=cntN_le (iterN F n s) n;omega
end
abbrev Mt:=Nat->Nat->Bool
def eitherM(a b:Mt):Mt:=fun i k=>a i k||b i k
def behindM(n:Nat)(a b:Mt):Mt:=fun i j=>(List.range n).any fun k=>a i k&&b k j
def sameM:Mt:=fun i k=>decide (i=k)
def noneM:Mt:=fun _ _=>false
def oftM(n:Nat)(a:Mt):Nat->Mt
 |0=>a
 |j+1=>eitherM (oftM n a j) (behindM n (oftM n a j) a)
def oftenM(n:Nat)(a:Mt):Mt:=oftM n a n
def wordM(fs:List Fa)(V:List Wd)(w:Wd):Mt:=fun i k=>fs.any fun f=>decide (f.2.1=w)&&decide (V[i]?=some f.1)&&decide (V[k]?=some f.2.2)
def endM(n:Nat)(k:Int)(m:Mt):Mt:=
 let m1:=if k=6 then m else oftenM n m
 if k=5 then m1 else eitherM m1 sameM
def leadsM(fs:List Fa)(V:List Wd):Pt->Mt
 |⟨k,w,kids⟩=>if k=1 then wordM fs V w else if k=2 then (kids.map (leadsM fs V)).foldl (behindM V.length) sameM else if k=3 then (kids.map (leadsM fs V)).foldl eitherM noneM else endM V.length k ((kids.map (leadsM fs V)).headD noneM)
theorem leadsM_mk(fs:List Fa)(V:List Wd)(k:Int)(w:Wd)(kids:List Pt):leadsM fs V ⟨k,w,kids⟩=if k=1 then wordM fs V w else if k=2 then (kids.map (leadsM fs V)).foldl (behindM V.length) sameM else if k=3 then (kids.map (leadsM fs V)).foldl eitherM noneM else endM V.length k ((kids.map (leadsM fs V)).headD noneM):=by rw[leadsM]
def SpecM(V:List Wd)(m:Mt)(R:Wd->Wd->Prop):Prop:=∀i k x y,V[i]?=some x->V[k]?=some y->(m i k=true↔R x y)
theorem spec_either{V:List Wd}{a b:Mt}{R S:Wd->Wd->Prop}(ha:SpecM V a R)(hb:SpecM V b S):SpecM V (eitherM a b) (fun x y=>R x y\/S x y):=fun i k x y hx hy=>by
 show (a i k||b i k)=true↔_;rw[Bool.or_eq_true,ha i k x y hx hy,hb i k x y hx hy]
theorem spec_behind{V:List Wd}{a b:Mt}{R S:Wd->Wd->Prop}(ha:SpecM V a R)(hb:SpecM V b S)(hV:∀x z,x∈V->R x z->z∈V):SpecM V (behindM V.length a b) (fun x y=>∃z,R x z/\S z y):=fun i k x y hx hy=>by
 show (List.range V.length).any (fun z=>a i z&&b z k)=true↔_;rw[List.any_eq_true];constructor
 . rintro⟨j,hj,h⟩;have hj:=yJ.1 hj;obtain⟨z,hz⟩:∃z,V[j]?=some z:=⟨_,zB hj⟩
   rw[Bool.and_eq_true,ha i j x z hx hz,hb j k z y hz hy]at h;exact⟨z,h⟩
 . rintro⟨z,h1,h2⟩;obtain⟨j,hj⟩:=List.getElem?_of_mem (hV x z (zC hx) h1);refine⟨j,yJ.2 (zF.1 hj).1,?_⟩;rw[Bool.and_eq_true,ha i j x z hx hj,hb j k z y hj hy];exact⟨h1,h2⟩
theorem spec_same{V:List Wd}(hV:RiseL less V):SpecM V sameM (fun x y=>x∈V/\x=y):=fun i k x y hx hy=>by
 show decide (i=k)=true↔_;rw[decide_eq_true_eq];constructor
 . intro e;subst e;rw[hx]at hy;injection hy with hy;exact⟨zC hx,hy⟩
 . rintro⟨_,e⟩;subst e;exact hV.once ordW hx hy
theorem spec_oft{V:List Wd}{a:Mt}{R:Wd->Wd->Prop}(ha:SpecM V a R)(hV:∀x z,x∈V->R x z->z∈V):∀j,SpecM V (oftM V.length a j) (fun x y=>∃p,p<=j/\powR R p x y)
 |0=>fun i k x y hx hy=>by
  show a i k=true↔_;rw[ha i k x y hx hy];constructor
  . exact fun h=>⟨0,zD _,h⟩
  . rintro⟨p,hp,h⟩;obtain rfl:p=0:=by omega
    exact h
 |j+1=>by
  have ih:=spec_oft ha hV j;have hin:∀p x z,x∈V->powR R p x z->z∈V:=by
   intro p;induction p with
   |zero=>exact hV
   |succ p ihp=>
    rintro x z hx ⟨u,h1,h2⟩;exact hV u z (ihp x u hx h1) h2
  intro i k x y hx hy;rw[show oftM V.length a (j+1)=eitherM (oftM V.length a j) (behindM V.length (oftM V.length a j) a)from rfl];rw[spec_either ih (spec_behind ih ha (fun x z hx ⟨p,_,h⟩=>hin p x z hx h)) i k x y hx hy];constructor
  . rintro (⟨p,hp,h⟩|⟨z,⟨p,hp,h⟩,h2⟩)
    . exact⟨p,by omega,h⟩
    . exact⟨p+1,by omega,z,h,h2⟩
  . rintro⟨p,hp,h⟩;cases p with
    |zero=>exact .inl ⟨0,zO _,h⟩
    |succ p=>
     obtain⟨z,h1,h2⟩:=h;exact .inr ⟨z,⟨p,by omega,h1⟩,h2⟩
theorem oft_row(n:Nat)(a:Mt)(i:Nat):∀j,oftM n a j i=iterN (fun s k=>s k||(List.range n).any fun z=>s z&&a z k) j (a i)
 |0=>rfl
 |j+1=>by
  funext k;show (oftM n a j i k||(List.range n).any fun z=>oftM n a j i z&&a z k)=_;rw[oft_row n a i j];rfl
theorem any_false{n:Nat}{f:Nat->Bool}(h:∀z,z<n->f z=false):(List.range n).any f=false:=by
 rw[List.any_eq_false];intro z hz;rw[h z (yJ.1 hz)];simp
theorem any_congr{n:Nat}{f g:Nat->Bool}(h:∀z,z<n->f z=g z):(List.range n).any f=(List.range n).any g:=by
 rw[Bool.eq_iff_iff,List.any_eq_true,List.any_eq_true];constructor
 . rintro⟨z,hz,e⟩;exact⟨z,hz,by rw[<- h z (yJ.1 hz)];exact e⟩
 . rintro⟨z,hz,e⟩;exact⟨z,hz,by rw[h z (yJ.1 hz)];exact e⟩
theorem oft_stable(n:Nat)(a:Mt)(i k:Nat)(hk:k<n)(q:Nat)(hq:n<=q):oftM n a q i k=oftM n a n i k:=by
 rw[oft_row,oft_row];refine iter_stable (n:=n) (fun s k _ h=>by simp[h]) (fun s t h k hk=>?_) (fun s h k hk=>?_) (a i) q hq k hk
 . show (s k||_)=(t k||_);rw[h k hk,any_congr (fun z hz=>by rw[h z hz])]
 . show (s k||_)=false;rw[h k hk,any_false (fun z hz=>by rw[h z hz];rfl)];rfl
theorem spec_often{V:List Wd}{a:Mt}{R:Wd->Wd->Prop}(ha:SpecM V a R)(hV:∀x z,x∈V->R x z->z∈V):SpecM V (oftenM V.length a) (fun x y=>∃p,powR R p x y):=fun i k x y hx hy=>by
 have hk:k<V.length:=(zF.1 hy).1;constructor
 . intro h;obtain⟨p,_,h2⟩:=(spec_oft ha hV V.length i k x y hx hy).1 h;exact⟨p,h2⟩
 . rintro⟨p,h⟩;have h2:=(spec_oft ha hV (max p V.length) i k x y hx hy).2 ⟨p,Nat.le_max_left _ _,h⟩;rw[oft_stable V.length a i k hk _ (Nat.le_max_right _ _)]at h2;exact h2
theorem spec_word{fs:List Fa}{w:Wd}:SpecM (vertsL fs) (wordM fs (vertsL fs) w) (leadF fs (fun l=>l=[w])):=fun i k x y hx hy=>by
 rw[lead_word];show fs.any _=true↔_;rw[List.any_eq_true];constructor
 . rintro⟨⟨a,b,c⟩,hf,h⟩;simp only[Bool.and_eq_true,decide_eq_true_eq]at h;obtain⟨⟨rfl,h1⟩,h2⟩:=h;rw[hx]at h1;rw[hy]at h2;injection h1 with h1;injection h2 with h2;subst h1 h2;exact hf
 . intro h;exact⟨_,h,by simp[hx,hy]⟩
theorem spec_iff{V:List Wd}{m:Mt}{R S:Wd->Wd->Prop}(h:SpecM V m R)(e:∀x y,R x y↔S x y):SpecM V m S:=fun i k x y hx hy=>(h i k x y hx hy).trans (e x y)
theorem spec_leads(fs:List Fa):∀(t:Pt) (d:Nat),shapedP d t=true->SpecM (vertsL fs) (leadsM fs (vertsL fs) t) (leadP fs t):=by
 refine Pt.ind (fun k w kids ih=>?_);intro d hd;cases d with
 |zero=>cases hd
 |succ d=>
  rw[shapedP,Bool.and_eq_true,Bool.and_eq_true,yI]at hd;obtain⟨⟨hfo,_⟩,hk⟩:=hd;have hkid:∀x∈kids,SpecM (vertsL fs) (leadsM fs (vertsL fs) x) (leadP fs x):=fun x hx=>ih x hx d (hk x hx)
  have hin:∀(f:List Wd->Prop) x z,x∈vertsL fs->leadF fs f x z->z∈vertsL fs:=fun f x z _ h=>lead_vert h
  have hseq:∀(done todo:List Pt) (m:Mt),(∀x∈todo,x∈kids)->SpecM (vertsL fs) m (leadF fs (seqL (done.map willL)))->SpecM (vertsL fs) ((todo.map (leadsM fs (vertsL fs))).foldl (behindM (vertsL fs).length) m) (leadF fs (seqL ((done++todo).map willL))):=by
   intro done todo;induction todo generalizing done with
   |nil=>intro m _ hm;simpa using hm
   |cons x todo iht=>
    intro m ht hm;rw[List.map_cons,yM];have h1:=iht (done++[x]) (behindM (vertsL fs).length m (leadsM fs (vertsL fs) x)) (fun y hy=>ht y (zP _ hy)) (by
     rw[yK];exact spec_iff (spec_behind hm (hkid x (ht x (zL ..))) (hin _)) (fun x y=>(lead_seq_snoc fs _ _ x y).symm))
    simpa using h1
  have halt:∀(done todo:List Pt) (m:Mt),(∀x∈todo,x∈kids)->SpecM (vertsL fs) m (leadF fs (altL (done.map willL)))->SpecM (vertsL fs) ((todo.map (leadsM fs (vertsL fs))).foldl eitherM m) (leadF fs (altL ((done++todo).map willL))):=by
   intro done todo;induction todo generalizing done with
   |nil=>intro m _ hm;simpa using hm
   |cons x todo iht=>
    intro m ht hm;rw[List.map_cons,yM];have h1:=iht (done++[x]) (eitherM m (leadsM fs (vertsL fs) x)) (fun y hy=>ht y (zP _ hy)) (by
     refine spec_iff (spec_either hm (hkid x (ht x (zL ..)))) (fun u v=>?_);rw[lead_alt,lead_alt,yK];constructor
     . rintro (⟨f,hf,h⟩|h)
       . exact⟨f,yN _ hf,h⟩
       . exact⟨willL x,List.mem_append_right _ (by simp),h⟩
     . rintro⟨f,hf,h⟩;rcases zM.1 hf with hf|hf
       . exact .inl ⟨f,hf,h⟩
       . simp at hf;subst hf;exact .inr h)
    simpa using h1
  show SpecM _ _ (leadF fs (willL ⟨k,w,kids⟩));rw[willL_mk,leadsM_mk];unfold kindL;by_cases k1:k=1
  . rw[if_pos k1];simp only[if_pos k1];exact spec_word
  by_cases k2:k=2
  . rw[if_neg k1,if_pos k2];simp only[if_neg k1,if_pos k2];have h1:=hseq [] kids sameM (fun x hx=>hx) (spec_iff (spec_same (verts_rise fs)) (fun x y=>(lead_seq_nil fs x y).symm));exact h1
  by_cases k3:k=3
  . rw[if_neg k1,if_neg k2,if_pos k3];subst k3;have h1:=halt [] kids noneM (fun x hx=>hx) (fun i k x y _ _=>by rw[lead_alt];simp[noneM]);exact h1
  . rw[if_neg k1,if_neg k2,if_neg k3];have hone:kids.length=1/\(k=4\/k=5\/k=6):=by
     unfold formedP at hfo;rw[if_neg k1]at hfo;simp only[k2,k3,or_self,if_false]at hfo;split at hfo
     . rename_i h4;simp at hfo;exact⟨hfo.1,h4⟩
     . cases hfo
    obtain⟨x,rfl⟩:=List.length_eq_one_iff.1 hone.1;have hx:=hkid x (by simp);have ho:=spec_often hx (hin _);simp only[List.map_cons,List.map_nil,List.headD_cons];rcases hone.2 with rfl|rfl|rfl
    . refine spec_iff (spec_either ho (spec_same (verts_rise fs))) (fun u v=>?_);show _↔leadF fs (starL (altL [willL x])) u v;rw[lead_star,alt_one,lead_plus];rfl
    . refine spec_iff ho (fun u v=>?_);show _↔leadF fs (plusL (altL [willL x])) u v;rw[alt_one,lead_plus];rfl
    . refine spec_iff (spec_either hx (spec_same (verts_rise fs))) (fun u v=>?_);show _↔leadF fs (fun l=>l=[]\/altL [willL x] l) u v;rw[alt_one,lead_may];rfl
end Go.Proofs.YtkbgmcmcpbegjaaGreatDoor
