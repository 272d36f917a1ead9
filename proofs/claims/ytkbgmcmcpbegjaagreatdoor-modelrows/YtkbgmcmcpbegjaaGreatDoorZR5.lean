/- VAre, AMath4, MMat. -/
import Derived.Test.YtkbgmcmcpbegjaaGreatDoorZR3
set_option maxRecDepth 100000
set_option maxHeartbeats 4000000
namespace Go.Proofs.YtkbgmcmcpbegjaaGreatDoor
open Go.RowKit
theorem jlj(s:ByteArray)(w:World)(hs:s.size<=9223372036854775807):
 Calls Tryz.prog 49 #[.string s] w fun e w'=>e=.returned (.bool (isW s.data.toList))/\w'=w:=by
 have HL:=zA (jfJ s);go_enter Tryz.func49,Tryz.ntmps49;go_wp2;go_loopw [3] (fun c wr=>∃i:Nat,i<=s.size/\c=.int .i64 i/\(s.data.toList.take i).all mayB=true/\wr=w) (fun c _=>s.size-(intOf c).toNat)
 case atStart=>exact⟨0,zO _,rfl,rfl,rfl⟩
 case round=>
  obtain⟨i,hi,rfl,aa,rfl⟩:=hrel;have HA:=zA aa;clear aa;by_cases hlt:i<s.size
  . have hltI:(i:Int)<(s.size:Int):=by omega
    obtain⟨x,hx⟩:∃x:UInt8,s[i]'hlt=x:=⟨_,rfl⟩
    have HX:=zA (by rw[jjg s i hlt,hx]:s.data.toList[i]?=some x);have ac:=UInt8.toNat_lt x;obtain⟨n,hn⟩:∃n,x.toNat=n:=⟨_,rfl⟩
    have HN:Hid (∀m,mayN n=m->mayB x=m):=zA (fun m hm=>by rw[mayB,hn];exact hm);rw[hn]at ac;rcases jfw n with h|h|h|h|h|h|h|h
    . have e1:¬(n:Int)=45:=by omega
      have e2:¬(n:Int)=58:=by omega
      have e3:((n:Int)!=45)=true:=by rw[bne_iff_ne];exact e1
      have e4:((n:Int)!=58)=true:=by rw[bne_iff_ne];exact e2
      have HM:=zA (HN.out _ (jcp (by omega)));go_wp2;go_ret;exact⟨by rw[jem HX.out HM.out];rfl,rfl⟩
    . subst h;have HM:=zA (HN.out _ (jbL (by omega)));go_wp2;go_roundw
      case rel=>exact⟨i+1,by omega,by go_num,jbh HX.out HA.out HM.out,by trivial⟩
      case measure=>simp[intOf];omega
    . have e1:¬(n:Int)=45:=by omega
      have e2:¬(n:Int)=58:=by omega
      have e3:((n:Int)!=45)=true:=by rw[bne_iff_ne];exact e1
      have e4:((n:Int)!=58)=true:=by rw[bne_iff_ne];exact e2
      have HM:=zA (HN.out _ (jcp (by omega)));go_wp2;go_ret;exact⟨by rw[jem HX.out HM.out];rfl,rfl⟩
    . have f1:¬ 57<(n:Int):=by omega
      have HM:=zA (HN.out _ (jbL (by omega)));go_wp2;go_roundw
      case rel=>exact⟨i+1,by omega,by go_num,jbh HX.out HA.out HM.out,by trivial⟩
      case measure=>simp[intOf];omega
    . subst h;have HM:=zA (HN.out _ (jbL (by omega)));go_wp2;go_roundw
      case rel=>exact⟨i+1,by omega,by go_num,jbh HX.out HA.out HM.out,by trivial⟩
      case measure=>simp[intOf];omega
    . have e1:¬(n:Int)=45:=by omega
      have e2:¬(n:Int)=58:=by omega
      have e3:((n:Int)!=45)=true:=by rw[bne_iff_ne];exact e1
      have e4:((n:Int)!=58)=true:=by rw[bne_iff_ne];exact e2
      have f1:57<(n:Int):=by omega
      have HM:=zA (HN.out _ (jcp (by omega)));go_wp2;go_ret;exact⟨by rw[jem HX.out HM.out];rfl,rfl⟩
    . have f1:¬ 122<(n:Int):=by omega
      have HM:=zA (HN.out _ (jbL (by omega)));go_wp2;go_roundw
      case rel=>exact⟨i+1,by omega,by go_num,jbh HX.out HA.out HM.out,by trivial⟩
      case measure=>simp[intOf];omega
    . have e1:¬(n:Int)=45:=by omega
      have e2:¬(n:Int)=58:=by omega
      have e3:((n:Int)!=45)=true:=by rw[bne_iff_ne];exact e1
      have e4:((n:Int)!=58)=true:=by rw[bne_iff_ne];exact e2
      have f1:57<(n:Int):=by omega
      have f2:122<(n:Int):=by omega
      have HM:=zA (HN.out _ (jcp (by omega)));go_wp2;go_ret;exact⟨by rw[jem HX.out HM.out];rfl,rfl⟩
  . obtain rfl:i=s.size:=by omega
    have hA:=HA.out;rw[zJ (by rw[HL.out];exact zD _)]at hA;by_cases h1:1<=s.size
    . by_cases h2:s.size<=16
      . have ab:1<=(s.size:Int):=by omega
        have ad:(s.size:Int)<=16:=by omega
        have HW:Hid (isW s.data.toList=true):=zA (by simp only[isW,HL.out,hA];simp;omega);clear hA;go_wp2;go_ret;exact⟨by rw[HW.out];rfl,rfl⟩
      . have HW:Hid (isW s.data.toList=false):=zA (by simp[isW,HL.out];omega);have ab:1<=(s.size:Int):=by omega
        have ad:¬(s.size:Int)<=16:=by omega
        clear hA;go_wp2;go_ret;exact⟨by rw[HW.out];rfl,rfl⟩
    . have ab:¬ 1<=(s.size:Int):=by omega
      have HW:Hid (isW s.data.toList=false):=zA (by simp[isW,HL.out];omega);clear hA;go_wp2;go_ret;exact⟨by rw[HW.out];rfl,rfl⟩
def Lim(d:Nat)(p:Prt):Prop:=p.first.length<=p.words.length/\p.last.length<=p.words.length/\p.pairs.length<=d*(p.words.length*p.words.length)
theorem Lim.more{d:Nat}{p:Prt}(h:Lim d p):Lim (d+1) p:=⟨h.1,h.2.1,by have:=h.2.2;rw[Nat.succ_mul];omega⟩
theorem jix{α β:Type}{f:β->α->β}{b:β}{L:List α}{i:Nat}{x:α}(hx:L[i]?=some x):(L.take (i+1)).foldl f b=f ((L.take i).foldl f b) x:=by
 rw[zS,hx,List.foldl_append];rfl
def cntN(s:Nat->Bool):Nat->Nat
 |0=>0
 |n+1=>cntN s n+(if s n=true then 1 else 0)
theorem ji8(s:Nat->Bool):∀n,cntN s n<=n
 |0=>zD _
 |n+1=>by
  have:=ji8 s n;unfold cntN;split<;>omega
theorem jgG{s t:Nat->Bool}:∀n,(∀k,k<n->s k=true->t k=true)->cntN s n<=cntN t n
 |0,_=>zD _
 |n+1,h=>by
  have h1:=jgG n (fun k hk=>h k (by omega));have h2:=h n (by omega);unfold cntN;by_cases e:s n=true
  . rw[if_pos e,if_pos (h2 e)];omega
  . rw[if_neg e];omega
theorem jjG{s t:Nat->Bool}:∀n,(∀k,k<n->s k=true->t k=true)->(∃k,k<n/\t k=true/\s k=false)->cntN s n<cntN t n
 |0,_,⟨k,hk,_⟩=>by omega
 |n+1,h,⟨k,hk,h1,h2⟩=>by
  unfold cntN;by_cases e:k=n
  . subst e;have:=jgG k (fun j hj=>h j (by omega));rw[if_pos h1,if_neg (by rw[h2];simp)];omega
  . have h3:=jjG n (fun j hj=>h j (by omega)) ⟨k,by omega,h1,h2⟩;have h4:=h n (by omega);by_cases e2:s n=true
    . rw[if_pos e2,if_pos (h4 e2)];omega
    . rw[if_neg e2];omega
theorem jgU{s:Nat->Bool}:∀n,cntN s n=0->∀k,k<n->s k=false
 |0,_,k,hk=>by omega
 |n+1,h,k,hk=>by
  unfold cntN at h;by_cases e:k=n
  . subst e;cases hs:s k with
    |false=>rfl
    |true=>rw[if_pos hs]at h;omega
  . exact jgU n (by omega) k (by omega)
section
variable {n:Nat} {F:(Nat->Bool)->Nat->Bool}
def jbI(F:(Nat->Bool)->Nat->Bool):Nat->(Nat->Bool)->Nat->Bool
 |0,s=>s
 |j+1,s=>F (jbI F j s)
theorem jhp(hinc:∀s k,k<n->s k=true->F s k=true)(hext:∀s t,(∀k,k<n->s k=t k)->∀k,k<n->F s k=F t k)(hnil:∀s,(∀k,k<n->s k=false)->∀k,k<n->F s k=false)(s:Nat->Bool):∀q,n<=q->∀k,k<n->jbI F q s k=jbI F n s k:=by
 have aa:∀i,(∀k,k<n->jbI F (i+1) s k=jbI F i s k)->∀q,i<=q->∀k,k<n->jbI F q s k=jbI F i s k:=by
  intro i hi q hq;induction q with
  |zero=>
   obtain rfl:i=0:=by omega
   exact fun _ _=>rfl
  |succ q ih=>
   by_cases e:i=q+1
   . subst e;exact fun _ _=>rfl
   . intro k hk;exact(hext _ _ (ih (by omega)) k hk).trans (hi k hk)
 by_cases h0:cntN s n=0
 . have hz:=jgU n h0;have h1:∀k,k<n->jbI F (0+1) s k=jbI F 0 s k:=fun k hk=>(hnil s hz k hk).trans (hz k hk).symm
   intro q _ k hk;rw[aa 0 h1 q (by omega) k hk,aa 0 h1 n (by omega) k hk]
 . have ac:∀j,(∃i,i<j/\∀k,k<n->jbI F (i+1) s k=jbI F i s k)\/j+1<=cntN (jbI F j s) n:=by
    intro j;induction j with
    |zero=>
     right;show 0+1<=cntN s n;omega
    |succ j ih=>
     rcases ih with⟨i,hi,h⟩|h
     . exact .inl ⟨i,by omega,h⟩
     . by_cases hs:∀k,k<n->jbI F (j+1) s k=jbI F j s k
       . exact .inl ⟨j,by omega,hs⟩
       . right;have hk:∃k,k<n/\jbI F (j+1) s k=true/\jbI F j s k=false:=by
          apply Classical.byContradiction;intro ab;apply hs;intro k hk;cases h1:jbI F j s k with
          |true=>exact hinc _ k hk h1
          |false=>
           cases h2:jbI F (j+1) s k with
           |false=>rfl
           |true=>exact absurd ⟨k,hk,h2,h1⟩ ab
         have:=jjG n (fun k hk h=>hinc (jbI F j s) k hk h) hk;show j+1+1<=cntN (F (jbI F j s)) n;omega
   rcases ac n with⟨i,hi,h⟩|h
   . intro q hq k hk;rw[aa i h q (by omega) k hk,aa i h n (by omega) k hk]
   . have:=ji8 (jbI F n s) n;omega
end
abbrev Mt:=Nat->Nat->Bool
def jaW(a b:Mt):Mt:=fun i k=>a i k||b i k
def jaP(n:Nat)(a b:Mt):Mt:=fun i j=>(List.range n).any fun k=>a i k&&b k j
def jc2:Mt:=fun i k=>decide (i=k)
def jbQ:Mt:=fun _ _=>false
def oftM(n:Nat)(a:Mt):Nat->Mt
 |0=>a
 |j+1=>jaW (oftM n a j) (jaP n (oftM n a j) a)
def jep(n:Nat)(a:Mt):Mt:=oftM n a n
def jco(fs:List Fa)(V:List Wd)(w:Wd):Mt:=fun i k=>fs.any fun f=>decide (f.2.1=w)&&decide (V[i]?=some f.1)&&decide (V[k]?=some f.2.2)
def endM(n:Nat)(k:Int)(m:Mt):Mt:=
 let m1:=if k=6 then m else jep n m
 if k=5 then m1 else jaW m1 jc2
def jaq(fs:List Fa)(V:List Wd):Pt->Mt
 |⟨k,w,kids⟩=>if k=1 then jco fs V w else if k=2 then (kids.map (jaq fs V)).foldl (jaP V.length) jc2 else if k=3 then (kids.map (jaq fs V)).foldl jaW jbQ else endM V.length k ((kids.map (jaq fs V)).headD jbQ)
theorem jcw(fs:List Fa)(V:List Wd)(k:Int)(w:Wd)(kids:List Pt):jaq fs V ⟨k,w,kids⟩=if k=1 then jco fs V w else if k=2 then (kids.map (jaq fs V)).foldl (jaP V.length) jc2 else if k=3 then (kids.map (jaq fs V)).foldl jaW jbQ else endM V.length k ((kids.map (jaq fs V)).headD jbQ):=by rw[jaq]
def jbD(V:List Wd)(m:Mt)(R:Wd->Wd->Prop):Prop:=∀i k x y,V[i]?=some x->V[k]?=some y->(m i k=true↔R x y)
theorem jcb{V:List Wd}{a b:Mt}{R S:Wd->Wd->Prop}(ha:jbD V a R)(hb:jbD V b S):jbD V (jaW a b) (fun x y=>R x y\/S x y):=fun i k x y hx hy=>by
 show (a i k||b i k)=true↔_;rw[Bool.or_eq_true,ha i k x y hx hy,hb i k x y hx hy]
theorem jeg{V:List Wd}{a b:Mt}{R S:Wd->Wd->Prop}(ha:jbD V a R)(hb:jbD V b S)(hV:∀x z,x∈V->R x z->z∈V):jbD V (jaP V.length a b) (fun x y=>∃z,R x z/\S z y):=fun i k x y hx hy=>by
 show (List.range V.length).any (fun z=>a i z&&b z k)=true↔_;rw[List.any_eq_true];constructor
 . rintro⟨j,hj,h⟩;have hj:=yK.1 hj;obtain⟨z,hz⟩:∃z,V[j]?=some z:=⟨_,zB hj⟩
   rw[Bool.and_eq_true,ha i j x z hx hz,hb j k z y hz hy]at h;exact⟨z,h⟩
 . rintro⟨z,h1,h2⟩;obtain⟨j,hj⟩:=List.getElem?_of_mem (hV x z (zC hx) h1);refine⟨j,yK.2 (zE.1 hj).1,?_⟩;rw[Bool.and_eq_true,ha i j x z hx hj,hb j k z y hj hy];exact⟨h1,h2⟩
theorem jey{V:List Wd}(hV:ja2 less V):jbD V jc2 (fun x y=>x∈V/\x=y):=fun i k x y hx hy=>by
 show decide (i=k)=true↔_;rw[decide_eq_true_eq];constructor
 . intro e;subst e;rw[hx]at hy;injection hy with hy;exact⟨zC hx,hy⟩
 . rintro⟨_,e⟩;subst e;exact hV.once ordW hx hy
theorem jfL{V:List Wd}{a:Mt}{R:Wd->Wd->Prop}(ha:jbD V a R)(hV:∀x z,x∈V->R x z->z∈V):∀j,jbD V (oftM V.length a j) (fun x y=>∃p,p<=j/\powR R p x y)
 |0=>fun i k x y hx hy=>by
  show a i k=true↔_;rw[ha i k x y hx hy];constructor
  . exact fun h=>⟨0,zD _,h⟩
  . rintro⟨p,hp,h⟩;obtain rfl:p=0:=by omega
    exact h
 |j+1=>by
  have ih:=jfL ha hV j;have aa:∀p x z,x∈V->powR R p x z->z∈V:=by
   intro p;induction p with
   |zero=>exact hV
   |succ p ihp=>
    rintro x z hx ⟨u,h1,h2⟩;exact hV u z (ihp x u hx h1) h2
  intro i k x y hx hy;rw[show oftM V.length a (j+1)=jaW (oftM V.length a j) (jaP V.length (oftM V.length a j) a)from rfl];rw[jcb ih (jeg ih ha (fun x z hx ⟨p,_,h⟩=>aa p x z hx h)) i k x y hx hy];constructor
  . rintro (⟨p,hp,h⟩|⟨z,⟨p,hp,h⟩,h2⟩)
    . exact⟨p,by omega,h⟩
    . exact⟨p+1,by omega,z,h,h2⟩
  . rintro⟨p,hp,h⟩;cases p with
    |zero=>exact .inl ⟨0,zO _,h⟩
    |succ p=>
     obtain⟨z,h1,h2⟩:=h;exact .inr ⟨z,⟨p,by omega,h1⟩,h2⟩
theorem jhg(n:Nat)(a:Mt)(i:Nat):∀j,oftM n a j i=jbI (fun s k=>s k||(List.range n).any fun z=>s z&&a z k) j (a i)
 |0=>rfl
 |j+1=>by
  funext k;show (oftM n a j i k||(List.range n).any fun z=>oftM n a j i z&&a z k)=_;rw[jhg n a i j];rfl
theorem ji1{n:Nat}{f:Nat->Bool}(h:∀z,z<n->f z=false):(List.range n).any f=false:=by
 rw[List.any_eq_false];intro z hz;rw[h z (yK.1 hz)];simp
theorem jjP{n:Nat}{f g:Nat->Bool}(h:∀z,z<n->f z=g z):(List.range n).any f=(List.range n).any g:=by
 rw[Bool.eq_iff_iff,List.any_eq_true,List.any_eq_true];constructor
 . rintro⟨z,hz,e⟩;exact⟨z,hz,by rw[<- h z (yK.1 hz)];exact e⟩
 . rintro⟨z,hz,e⟩;exact⟨z,hz,by rw[h z (yK.1 hz)];exact e⟩
theorem jiJ(n:Nat)(a:Mt)(i k:Nat)(hk:k<n)(q:Nat)(hq:n<=q):oftM n a q i k=oftM n a n i k:=by
 rw[jhg,jhg];refine jhp (n:=n) (fun s k _ h=>by simp[h]) (fun s t h k hk=>?_) (fun s h k hk=>?_) (a i) q hq k hk
 . show (s k||_)=(t k||_);rw[h k hk,jjP (fun z hz=>by rw[h z hz])]
 . show (s k||_)=false;rw[h k hk,ji1 (fun z hz=>by rw[h z hz];rfl)];rfl
theorem jij{V:List Wd}{a:Mt}{R:Wd->Wd->Prop}(ha:jbD V a R)(hV:∀x z,x∈V->R x z->z∈V):jbD V (jep V.length a) (fun x y=>∃p,powR R p x y):=fun i k x y hx hy=>by
 have hk:k<V.length:=(zE.1 hy).1;constructor
 . intro h;obtain⟨p,_,h2⟩:=(jfL ha hV V.length i k x y hx hy).1 h;exact⟨p,h2⟩
 . rintro⟨p,h⟩;have h2:=(jfL ha hV (max p V.length) i k x y hx hy).2 ⟨p,Nat.le_max_left _ _,h⟩;rw[jiJ V.length a i k hk _ (Nat.le_max_right _ _)]at h2;exact h2
theorem jje{fs:List Fa}{w:Wd}:jbD (jac fs) (jco fs (jac fs) w) (ja0 fs (fun l=>l=[w])):=fun i k x y hx hy=>by
 rw[jgj];show fs.any _=true↔_;rw[List.any_eq_true];constructor
 . rintro⟨⟨a,b,c⟩,hf,h⟩;simp only[Bool.and_eq_true,decide_eq_true_eq]at h;obtain⟨⟨rfl,h1⟩,h2⟩:=h;rw[hx]at h1;rw[hy]at h2;injection h1 with h1;injection h2 with h2;subst h1 h2;exact hf
 . intro h;exact⟨_,h,by simp[hx,hy]⟩
theorem jcK{V:List Wd}{m:Mt}{R S:Wd->Wd->Prop}(h:jbD V m R)(e:∀x y,R x y↔S x y):jbD V m S:=fun i k x y hx hy=>(h i k x y hx hy).trans (e x y)
theorem je6(fs:List Fa):∀(t:Pt) (d:Nat),jaf d t=true->jbD (jac fs) (jaq fs (jac fs) t) (jbJ fs t):=by
 refine Pt.ind (fun k w kids ih=>?_);intro d hd;cases d with
 |zero=>cases hd
 |succ d=>
  rw[jaf,Bool.and_eq_true,Bool.and_eq_true,yF]at hd;obtain⟨⟨ad,_⟩,hk⟩:=hd;have ac:∀x∈kids,jbD (jac fs) (jaq fs (jac fs) x) (jbJ fs x):=fun x hx=>ih x hx d (hk x hx)
  have ah:∀(f:List Wd->Prop) x z,x∈jac fs->ja0 fs f x z->z∈jac fs:=fun f x z _ h=>jbX h
  have ag:∀(ab aa:List Pt) (m:Mt),(∀x∈aa,x∈kids)->jbD (jac fs) m (ja0 fs (seqL (ab.map jbe)))->jbD (jac fs) ((aa.map (jaq fs (jac fs))).foldl (jaP (jac fs).length) m) (ja0 fs (seqL ((ab++aa).map jbe))):=by
   intro ab aa;induction aa generalizing ab with
   |nil=>intro m _ hm;simpa using hm
   |cons x aa iht=>
    intro m ht hm;rw[List.map_cons,yN];have h1:=iht (ab++[x]) (jaP (jac fs).length m (jaq fs (jac fs) x)) (fun y hy=>ht y (zR _ hy)) (by
     rw[yG];exact jcK (jeg hm (ac x (ht x (zN ..))) (ah _)) (fun x y=>(jf0 fs _ _ x y).symm))
    simpa using h1
  have af:∀(ab aa:List Pt) (m:Mt),(∀x∈aa,x∈kids)->jbD (jac fs) m (ja0 fs (altL (ab.map jbe)))->jbD (jac fs) ((aa.map (jaq fs (jac fs))).foldl jaW m) (ja0 fs (altL ((ab++aa).map jbe))):=by
   intro ab aa;induction aa generalizing ab with
   |nil=>intro m _ hm;simpa using hm
   |cons x aa iht=>
    intro m ht hm;rw[List.map_cons,yN];have h1:=iht (ab++[x]) (jaW m (jaq fs (jac fs) x)) (fun y hy=>ht y (zR _ hy)) (by
     refine jcK (jcb hm (ac x (ht x (zN ..)))) (fun u v=>?_);rw[jd7,jd7,yG];constructor
     . rintro (⟨f,hf,h⟩|h)
       . exact⟨f,yL _ hf,h⟩
       . exact⟨jbe x,List.mem_append_right _ (by simp),h⟩
     . rintro⟨f,hf,h⟩;rcases zL.1 hf with hf|hf
       . exact .inl ⟨f,hf,h⟩
       . simp at hf;subst hf;exact .inr h)
    simpa using h1
  show jbD _ _ (ja0 fs (jbe ⟨k,w,kids⟩));rw[jcL,jcw];unfold jfP;by_cases k1:k=1
  . rw[if_pos k1];simp only[if_pos k1];exact jje
  by_cases k2:k=2
  . rw[if_neg k1,if_pos k2];simp only[if_neg k1,if_pos k2];have h1:=ag [] kids jc2 (fun x hx=>hx) (jcK (jey (jaY fs)) (fun x y=>(jgi fs x y).symm));exact h1
  by_cases k3:k=3
  . rw[if_neg k1,if_neg k2,if_pos k3];subst k3;have h1:=af [] kids jbQ (fun x hx=>hx) (fun i k x y _ _=>by rw[jd7];simp[jbQ]);exact h1
  . rw[if_neg k1,if_neg k2,if_neg k3];have ae:kids.length=1/\(k=4\/k=5\/k=6):=by
     unfold jam at ad;rw[if_neg k1]at ad;simp only[k2,k3,or_self,if_false]at ad;split at ad
     . rename_i h4;simp at ad;exact⟨ad.1,h4⟩
     . cases ad
    obtain⟨x,rfl⟩:=List.length_eq_one_iff.1 ae.1;have hx:=ac x (by simp);have ho:=jij hx (ah _);simp only[List.map_cons,List.map_nil,List.headD_cons];rcases ae.2 with rfl|rfl|rfl
    . refine jcK (jcb ho (jey (jaY fs))) (fun u v=>?_);show _↔ja0 fs (jf1 (altL [jbe x])) u v;rw[jjo,jhe,jes];rfl
    . refine jcK ho (fun u v=>?_);show _↔ja0 fs (jeQ (altL [jbe x])) u v;rw[jhe,jes];rfl
    . refine jcK (jcb hx (jey (jaY fs))) (fun u v=>?_);show _↔ja0 fs (fun l=>l=[]\/altL [jbe x] l) u v;rw[jhe,jkQ];rfl
end Go.Proofs.YtkbgmcmcpbegjaaGreatDoor
