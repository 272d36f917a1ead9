/- XMath2, XMath3, GState, ABoth, ACut. -/
import Derived.Test.YtkbgmcmcpbegjaaGreatDoorZR8
import Derived.Laws.OwnMore
import Derived.Deep.RegionLaw
set_option maxRecDepth 100000
namespace Go.Proofs.YtkbgmcmcpbegjaaGreatDoor
open Go.RowKit
noncomputable def jc8 (c:Ch) (a b:Nat) (Q:Nat->Nat->Prop) (T:List Nat):List Nat:=if ((atC c b).filter (jbr c a Q)).length=(atC c b).length then T else T++[b]
theorem jd3{c:Ch}{a b:Nat}{Q:Nat->Nat->Prop}{T:List Nat}{k:Nat}(h:k∈T):k∈jc8 c a b Q T:=by
 unfold jc8;split
 . exact h
 . exact yL _ h
theorem HC.strike{c:Ch}{a b x y:Nat}{Q S:Nat->Nat->Prop}{T:List Nat}(hb:b<c.length)(h:HC c x y S):x∈jc8 c a b Q T\/HC (jaC c a b Q) x y S:=by
 by_cases e:x=b
 . subst e;by_cases h2:((atC c x).filter (jbr c a Q)).length=(atC c x).length
   . exact .inr (by rw[jhi hb h2];exact h)
   . left;unfold jc8;rw[if_neg h2];simp
 . exact .inr (h.strike_other hb e)
theorem NwA.there{ls:List Lk}{c0 c:Ch}{T:List Nat}{a i:Nat}{l:Lk}(h:NwA ls c0 T a i c)(hl:ls[i]?=some l)(hne:l.fr≠l.to)(hf:l.fr=a)(hb:l.to<c.length):NwA ls c0 (jc8 c a l.to l.R T) a (i+1) (jaC c a l.to l.R):=by
 subst hf;refine⟨by rw[jaC,List.length_set];exact h.len,je1 hb h.flt,jht (zC hl) hb h.all,fun j k hk=>?_⟩;obtain⟨h1,h2⟩:=h.arc j k hk;constructor
 . rcases h1 with h1|⟨h1,h3⟩|h1
   . exact .inl (jd3 h1)
   . by_cases e:j=i
     . subst e;rw[hl]at hk;injection hk with hk;subst hk;exact .inr (.inr (HC.strike_self hb hne))
     . exact .inr (.inl ⟨h1,by omega⟩)
   . exact(h1.strike hb).elim .inl (fun h=>.inr (.inr h))
 . rcases h2 with h2|⟨h2,h3⟩|h2
   . exact .inl (jd3 h2)
   . by_cases e:j=i
     . subst e;rw[hl]at hk;injection hk with hk;subst hk;exact absurd h2.symm hne
     . exact .inr (.inl ⟨h2,by omega⟩)
   . exact(h2.strike hb).elim .inl (fun h=>.inr (.inr h))
theorem NwA.back{ls:List Lk}{c0 c:Ch}{T:List Nat}{a i:Nat}{l:Lk}(h:NwA ls c0 T a i c)(hl:ls[i]?=some l)(hne:l.fr≠l.to)(hf:l.to=a)(hb:l.fr<c.length):NwA ls c0 (jc8 c a l.fr (fun v u=>l.R u v) T) a (i+1) (jaC c a l.fr (fun v u=>l.R u v)):=by
 subst hf;refine⟨by rw[jaC,List.length_set];exact h.len,je1 hb h.flt,jhA (zC hl) hb h.all,fun j k hk=>?_⟩;obtain⟨h1,h2⟩:=h.arc j k hk;constructor
 . rcases h1 with h1|⟨h1,h3⟩|h1
   . exact .inl (jd3 h1)
   . by_cases e:j=i
     . subst e;rw[hl]at hk;injection hk with hk;subst hk;exact absurd h1 hne
     . exact .inr (.inl ⟨h1,by omega⟩)
   . exact(h1.strike hb).elim .inl (fun h=>.inr (.inr h))
 . rcases h2 with h2|⟨h2,h3⟩|h2
   . exact .inl (jd3 h2)
   . by_cases e:j=i
     . subst e;rw[hl]at hk;injection hk with hk;subst hk;exact .inr (.inr (HC.strike_self hb (fun e=>hne e.symm)))
     . exact .inr (.inl ⟨h2,by omega⟩)
   . exact(h2.strike hb).elim .inl (fun h=>.inr (.inr h))
theorem NwA.pass{ls:List Lk}{c0 c:Ch}{T:List Nat}{a i:Nat}{l:Lk}(h:NwA ls c0 T a i c)(hl:ls[i]?=some l)(hf:l.fr≠a)(ht:l.to≠a):NwA ls c0 T a (i+1) c:=
 ⟨h.len,h.flt,h.all,fun j k hk=>by
  obtain⟨h1,h2⟩:=h.arc j k hk;have key:∀x,x=a->i<=j->(x=k.fr\/x=k.to)->i+1<=j:=fun x hx hij hxk=>by
   by_cases e:j=i
   . subst e;rw[hl]at hk;injection hk with hk;subst hk;rcases hxk with h3|h3
     . exact absurd (h3.symm.trans hx) hf
     . exact absurd (h3.symm.trans hx) ht
   . omega
  constructor
  . rcases h1 with h1|⟨h1,h3⟩|h1
    . exact .inl h1
    . exact .inr (.inl ⟨h1,key _ h1 h3 (.inl rfl)⟩)
    . exact .inr (.inr h1)
  . rcases h2 with h2|⟨h2,h3⟩|h2
    . exact .inl h2
    . exact .inr (.inl ⟨h2,key _ h2 h3 (.inr rfl)⟩)
    . exact .inr (.inr h2)⟩
def muC(c:Ch)(T:List Nat):Nat:=2*(c.map List.length).sum+T.length
theorem jgz{c:Ch}{a b:Nat}{Q:Nat->Nat->Prop}{T:List Nat}(hb:b<c.length):muC (jaC c a b Q) (jc8 c a b Q T)<=muC c T:=by
 have h1:=jf2 (c.map List.length) b ((atC c b).filter (jbr c a Q)).length (by simpa using hb);have h2:(c.map List.length).getD b 0=(atC c b).length:=by
  unfold atC;rw[List.getD,List.getD,zI,zB hb];rfl
 have h3:=yH (jbr c a Q) (atC c b);unfold muC jc8 jaC;rw[List.map_set];rw[h2]at h1;split
 . omega
 . rw[zG];simp only[List.length_singleton];omega
def SolC(ls:List Lk)(n:Nat)(c:Ch)(s:Nat->Nat):Prop:=(∀k,k<n->s k∈atC c k)/\∀l∈ls,l.R (s l.fr) (s l.to)
theorem jhv{ls:List Lk}{n:Nat}(hl:∀l∈ls,l.fr<n/\l.to<n)(c:Ch):jb1 ls c (List.range n)↔∃s,SolC ls n c s:=by
 constructor
 . rintro⟨s,h1,h2⟩;exact⟨s,fun k hk=>h1 k (yK.2 hk),fun l h=>h2 l h (yK.2 (hl l h).1) (yK.2 (hl l h).2)⟩
 . rintro⟨s,h1,h2⟩;exact⟨s,fun k hk=>h1 k (yK.1 hk),fun l h _ _=>h2 l h⟩
theorem jfg{ls:List Lk}{n:Nat}(hl:∀l∈ls,l.fr<n/\l.to<n){c:Ch}(hc:c.length=n){u v:Nat}(hu:u<n)(s:Nat->Nat):SolC ls n (jas ls c u v) s/\v∈atC c u↔SolC ls n c s/\s u=v:=by
 constructor
 . rintro⟨⟨h1,h2⟩,hv⟩;have aa:s u=v:=by
    have:=jbS (h1 u hu);rw[jbi c _ u (by omega),if_pos rfl]at this;exact zK.1 this
   refine⟨⟨fun k hk=>?_,h2⟩,aa⟩;have:=jbS (h1 k hk);rw[jbi c _ k (by omega)]at this;split at this
   . rename_i e;subst e;rw[aa];exact hv
   . exact this
 . rintro⟨⟨h1,h2⟩,rfl⟩;refine⟨⟨fun k hk=>?_,h2⟩,h1 u hu⟩;refine jdv (D:=fun j x=>j<n/\x=s j) (fun l hl2=>⟨fun v hv=>⟨s l.fr,⟨(hl l hl2).1,rfl⟩,by rw[hv.2];exact h2 l hl2⟩,fun u hu=>⟨s l.to,⟨(hl l hl2).2,rfl⟩,by rw[hu.2];exact h2 l hl2⟩⟩) (fun j x hx=>?_) k (s k) ⟨hk,rfl⟩;rw[hx.2,jbi c _ j (by omega)];split
   . rename_i e;subst e;simp
   . exact h1 j hx.1
noncomputable def locB (ls:List Lk) (c:Ch) (X:List Nat):Bool:=@decide (jb1 ls c X) (Classical.propDecidable _)
theorem jbj{ls:List Lk}{c:Ch}{X:List Nat}:locB ls c X=true↔jb1 ls c X:=@decide_eq_true_iff _ (Classical.propDecidable _)
noncomputable def jbF (ls:List Lk) (n:Nat):List Nat->Ch->List Nat->List (List Nat)
 |[],c,row=>if locB ls c (List.range n)=true then [row]else []
 |u::us,c,row=>if locB ls c (List.range n)=true then (atC c u).flatMap (fun v=>jbF ls n us (jas ls c u v) (row++[v]))else []
theorem jia{ls:List Lk}{n:Nat}(hl:∀l∈ls,l.fr<n/\l.to<n):∀(us:List Nat) (c:Ch) (row r:List Nat),(∀u∈us,u<n)->c.length=n->(r∈jbF ls n us c row↔∃s,SolC ls n c s/\r=row++us.map s)
 |[],c,row,r,_,hc=>by
  unfold jbF;split
  . rename_i h;obtain⟨s,hs⟩:=(jhv hl c).1 (jbj.1 h);constructor
    . intro hr;exact⟨s,hs,by rw[zK.1 hr];simp⟩
    . rintro⟨s,_,e⟩;rw[e];simp
  . rename_i h;constructor
    . intro hr;simp at hr
    . rintro⟨s,hs,_⟩;exact absurd (jbj.2 ((jhv hl c).2 ⟨s,hs⟩)) h
 |u::us,c,row,r,hu,hc=>by
  have hun:=hu u (zN ..);have ih:=fun v row=>jia hl us (jas ls c u v) row r (fun x hx=>hu x (zR _ hx)) (by rw[jas,jaI,List.length_set];exact hc)
  unfold jbF;split
  . rw[List.mem_flatMap];constructor
    . rintro⟨v,hv,hr⟩;obtain⟨s,hs,e⟩:=(ih v _).1 hr;obtain⟨h1,h2⟩:=(jfg hl hc hun s).1 ⟨hs,hv⟩;exact⟨s,h1,by rw[e,List.map_cons,h2];simp⟩
    . rintro⟨s,hs,e⟩;obtain⟨h1,h2⟩:=(jfg hl hc hun s).2 ⟨hs,rfl⟩;exact⟨s u,h2,(ih _ _).2 ⟨s,h1,by rw[e];simp⟩⟩
  . rename_i h;constructor
    . intro hr;simp at hr
    . rintro⟨s,hs,_⟩;exact absurd (jbj.2 ((jhv hl c).2 ⟨s,hs⟩)) h
def jec:List Nat->List Nat->Bool
 |[],[]=>false
 |[],_::_=>true
 |_::_,[]=>false
 |a::l,b::r=>if a=b then jec l r else decide (a<b)
theorem jgZ:∀(p l r:List Nat),jec (p++l) (p++r)=jec l r
 |[],_,_=>rfl
 |a::p,l,r=>by
  rw[List.cons_append,List.cons_append,jec,if_pos rfl];exact jgZ p l r
theorem jga{ls:List Lk}{n:Nat}:∀(us:List Nat) (c:Ch) (row r:List Nat),r∈jbF ls n us c row->∃t,r=row++t/\t.length=us.length
 |[],c,row,r,h=>by
  unfold jbF at h;split at h
  . exact⟨[],by rw[zK.1 h];simp,rfl⟩
  . simp at h
 |u::us,c,row,r,h=>by
  unfold jbF at h;split at h
  . obtain⟨v,_,hr⟩:=List.mem_flatMap.1 h;obtain⟨t,e,hlen⟩:=jga us _ _ r hr;exact⟨v::t,by rw[e];simp,by simp[hlen]⟩
  . simp at h
theorem jgy{ls:List Lk}{n:Nat}:∀(us:List Nat) (c:Ch) (row:List Nat),(∀k,(atC c k).Pairwise (·<·))->(∀u∈us,u<c.length)->(jbF ls n us c row).Pairwise (fun a b=>jec a b=true)
 |[],c,row,_,_=>by
  unfold jbF;split<;>simp
 |u::us,c,row,h,hu=>by
  have hun:=hu u (zN ..);unfold jbF;split
  . rw[List.pairwise_flatMap];refine⟨fun v hv=>jgy us _ _ (fun k=>?_) (fun x hx=>by rw[jas,jaI,List.length_set];exact hu x (zR _ hx)),?_⟩
    . rw[jas,jbC];refine List.Pairwise.filter _ ?_;rw[jbi c _ k hun];split
      . simp
      . exact h k
    . refine(h u).imp (fun {a b} hab x hx y hy=>?_);obtain⟨t1,e1,_⟩:=jga us _ _ x hx;obtain⟨t2,e2,_⟩:=jga us _ _ y hy;rw[e1,e2,List.append_assoc,List.append_assoc,jgZ,List.singleton_append,List.singleton_append,jec,if_neg (by omega)];exact zU hab
  . simp
theorem jfv{V:List Wd}(hV:ja2 less V):∀(a b:List Nat),(∀x∈a,x<V.length)->(∀x∈b,x<V.length)->jec a b=true->jaE (a.map fun i=>V.getD i []) (b.map fun i=>V.getD i [])=true
 |[],[],_,_,h=>by simp[jec]at h
 |[],b::r,_,_,_=>rfl
 |a::l,[],_,_,h=>by simp[jec]at h
 |a::l,b::r,ha,hb,h=>by
  have hget:∀i,i<V.length->V[i]?=some (V.getD i []):=fun i hi=>by
   rw[List.getD,zB hi];rfl
  rw[jec]at h;rw[List.map_cons,List.map_cons,jaE];split at h
  . rename_i e;subst e;rw[if_pos rfl];exact jfv hV l r (fun x hx=>ha x (zR _ hx)) (fun x hx=>hb x (zR _ hx)) h
  . have h1:=hV.lt_at ordW (hget a (ha a (zN ..))) (hget b (hb b (zN ..))) (of_decide_eq_true h);rw[if_neg (ordW.ne h1)];exact h1
end Go.Proofs.YtkbgmcmcpbegjaaGreatDoor
namespace Go.Proofs.YtkbgmcmcpbegjaaGreatDoor
structure GI (lnk:Nat->Nat->Bool) (X:List Nat) (Gs:List (List Nat)) (O:List Nat):Prop where
 perm:(Gs.flatten++O).Perm X
 gg:Gs.Pairwise (fun G H=>∀x∈G,∀y∈H,lnk x y=false)
 go:∀G∈Gs,∀x∈G,∀y∈O,lnk x y=false
 ne:∀G∈Gs,G≠[]
structure GM (lnk:Nat->Nat->Bool) (X:List Nat) (Gs:List (List Nat)) (G:List Nat) (i:Nat) (O:List Nat):Prop where
 perm:(Gs.flatten++(G++O)).Perm X
 gg:Gs.Pairwise (fun G H=>∀x∈G,∀y∈H,lnk x y=false)
 go:∀H∈Gs,∀x∈H,∀y∈G++O,lnk x y=false
 ne:∀G∈Gs,G≠[]
 gi:∀(k x:Nat),k<i->G[k]?=some x->∀y∈O,lnk x y=false
 nz:G≠[]
theorem GI.start(lnk:Nat->Nat->Bool)(X:List Nat):GI lnk X [] X:=⟨by simp,List.Pairwise.nil,fun _ h=>by simp at h,fun _ h=>by simp at h⟩
theorem GI.pop{lnk:Nat->Nat->Bool}{X:List Nat}{Gs:List (List Nat)}{a:Nat}{O:List Nat}(h:GI lnk X Gs (a::O)):GM lnk X Gs [a] 0 O:=
 ⟨h.perm,h.gg,h.go,h.ne,fun _ _ hk=>absurd hk (Nat.not_lt_zero _),by simp⟩
theorem jil(p:Nat->Bool)(l:List Nat):(l.filter p++l.filter fun x=> !p x).Perm l:=List.filter_append_perm p l
theorem GM.step{lnk:Nat->Nat->Bool}{X:List Nat}{Gs:List (List Nat)}{G:List Nat}{i a:Nat}{O:List Nat}(h:GM lnk X Gs G i O)(ha:G[i]?=some a):GM lnk X Gs (G++O.filter (lnk a)) (i+1) (O.filter fun y=> !lnk a y):=by
 have hil:=(zE.1 ha).1;refine⟨?_,h.gg,fun H hH x hx y hy=>?_,h.ne,fun k x hk hx y hy=>?_,by simp[h.nz]⟩
 . refine List.Perm.trans ?_ h.perm;refine List.Perm.append_left _ ?_;rw[List.append_assoc];exact List.Perm.append_left _ (jil _ _)
 . refine h.go H hH x hx y ?_;rw[List.append_assoc]at hy;rcases zL.1 hy with hy|hy
   . exact yL _ hy
   . rcases zL.1 hy with hy|hy
     . exact List.mem_append_right _ (zY.1 hy).1
     . exact List.mem_append_right _ (zY.1 hy).1
 . rw[yJ (by omega)]at hx;obtain⟨aa,ab⟩:=zY.1 hy;by_cases e:k=i
   . subst e;rw[ha]at hx;injection hx with hx;subst hx;simpa using ab
   . exact h.gi k x (by omega) hx y aa
theorem GM.done{lnk:Nat->Nat->Bool}{X:List Nat}{Gs:List (List Nat)}{G:List Nat}{i:Nat}{O:List Nat}(h:GM lnk X Gs G i O)(hi:G.length<=i):GI lnk X (Gs++[G]) O:=by
 refine⟨?_,?_,fun H hH x hx y hy=>?_,fun H hH=>?_⟩
 . have h1:(Gs++[G]).flatten++O=Gs.flatten++(G++O):=by simp
   rw[h1];exact h.perm
 . rw[List.pairwise_append];refine⟨h.gg,List.pairwise_singleton _ _,fun H hH K hK x hx y hy=>?_⟩;rw[zK.1 hK]at hy;exact h.go H hH x hx y (yL _ hy)
 . rcases zL.1 hH with hH|hH
   . exact h.go H hH x hx y (List.mem_append_right _ hy)
   . rw[zK.1 hH]at hx;obtain⟨k,hk⟩:=List.getElem?_of_mem hx;have:=(zE.1 hk).1;exact h.gi k x (by omega) hk y hy
 . rcases zL.1 hH with hH|hH
   . exact h.ne H hH
   . rw[zK.1 hH];exact h.nz
theorem GM.len{lnk:Nat->Nat->Bool}{X:List Nat}{Gs:List (List Nat)}{G:List Nat}{i:Nat}{O:List Nat}(h:GM lnk X Gs G i O):G.length+O.length<=X.length:=by
 have:=h.perm.length_eq;simp only[zG]at this;omega
theorem GI.len{lnk:Nat->Nat->Bool}{X:List Nat}{Gs:List (List Nat)}{O:List Nat}(h:GI lnk X Gs O):O.length<=X.length/\∀G∈Gs,G.length<=X.length:=by
 have h1:=h.perm.length_eq;rw[zG]at h1;refine⟨by omega,fun G hG=>?_⟩;have h2:G.Sublist Gs.flatten:=List.sublist_flatten_of_mem hG;have:=h2.length_le;omega
theorem GI.count{lnk:Nat->Nat->Bool}{X:List Nat}{Gs:List (List Nat)}{O:List Nat}(h:GI lnk X Gs O):Gs.length+O.length<=X.length:=by
 have h1:=h.perm.length_eq;rw[zG]at h1;have h2:∀Ks:List (List Nat),(∀G∈Ks,G≠[])->Ks.length<=Ks.flatten.length:=by
  intro Ks;induction Ks with
  |nil=>intro _;simp
  |cons K Ks ih=>
   intro hK;have h3:=ih (fun G hG=>hK G (zR _ hG));have h4:0<K.length:=List.length_pos_iff.2 (hK K (zN ..));rw[List.flatten_cons,zG,yI];omega
 have:=h2 Gs h.ne;omega
theorem GI.nodup{lnk:Nat->Nat->Bool}{X:List Nat}{Gs:List (List Nat)}{O:List Nat}(h:GI lnk X Gs O)(hX:X.Nodup){G:List Nat}(hG:G∈Gs):G.Nodup:=by
 have h1:(Gs.flatten++O).Nodup:=h.perm.nodup_iff.2 hX;have h2:=(List.nodup_append.1 h1).1;exact h2.sublist (List.sublist_flatten_of_mem hG)
theorem GI.mem{lnk:Nat->Nat->Bool}{X:List Nat}{Gs:List (List Nat)}(h:GI lnk X Gs [])(k:Nat):(∃G∈Gs,k∈G)↔k∈X:=by
 rw[<- h.perm.mem_iff,List.append_nil,List.mem_flatten]
theorem GI.parted{lnk:Nat->Nat->Bool}{ls:List Lk}{c:Ch}{X:List Nat}{Gs:List (List Nat)}(h:GI lnk (X.filter fun k=> !decide ((atC c k).length=1)) Gs [])(hs:∀x y,lnk x y=lnk y x)(hl:∀l∈ls,lnk l.fr l.to=true):jgl ls c X Gs:=by
 refine⟨fun k=>?_,fun l hlm G hG H hH=>?_⟩
 . rw[h.mem,zY];simp
 . have ae:∀x y,lnk x y=true->∀G∈Gs,∀H∈Gs,x∈G->y∈H->y∈G:=fun x y hxy G hG H hH hx hy=>by
    obtain⟨i,hi⟩:=List.getElem?_of_mem hG;obtain⟨j,hj⟩:=List.getElem?_of_mem hH;obtain⟨aa,ab⟩:=zE.1 hi;obtain⟨ac,ad⟩:=zE.1 hj;have hp:=List.pairwise_iff_getElem.1 h.gg;rcases Nat.lt_trichotomy i j with e|e|e
    . have:=hp i j aa ac e x (by rw[ab];exact hx) y (by rw[ad];exact hy);rw[hxy]at this;cases this
    . subst e;rw[hi]at hj;injection hj with hj;rw[hj];exact hy
    . have:=hp j i ac aa e y (by rw[ad];exact hy) x (by rw[ab];exact hx);rw[hs,hxy]at this;cases this
   exact⟨fun hf ht=>ae _ _ (hl l hlm) G hG H hH hf ht,fun ht hf=>ae _ _ (by rw[hs];exact hl l hlm) G hG H hH ht hf⟩
end Go.Proofs.YtkbgmcmcpbegjaaGreatDoor
namespace Go.Proofs.YtkbgmcmcpbegjaaGreatDoor
open Go.RowKit
theorem jan{w:World}{B n b:Nat}{e t:TypeId}{size:Nat}{v:Value}{xs:List Value}{cs:Array Value}{fz:Nat×Nat}(h:w.ownsRow B e size v n xs)(hb:w.heap[b]?=some (.cells cs t fz))(hne:e≠t):v.ownBlock≠some b:=by
 intro hv;rcases h.2 with⟨rfl,_⟩|⟨g,cap,cur,rfl,_,e3,_⟩
 . simp[Value.ownBlock]at hv
 . have:g=b:=by simpa[Value.ownBlock]using hv
   subst this;rw[hb]at e3;injection e3 with e3;injection e3 with _ e4;exact hne e4.symm
theorem jbg{w:World}{a b:Nat}{cs ds:Array Value}{t u:TypeId}{fz gz:Nat×Nat}(h:w.heap[a]?=some (.cells cs t fz))(k:w.heap[b]?=some (.cells ds u gz))(hne:t≠u):a≠b:=by
 intro e;subst e;rw[h]at k;injection k with k;injection k with _ k;exact hne k
def jcR(l:List Nat):Array Value:=(l.map fun (x:Nat)=>Value.int .u32 (x:Int)).toArray
theorem jip{l:List Nat}{i:Nat}(h:i<l.length):(jcR l)[i]?=some (.int .u32 (l.getD i 0:Int)):=by
 simp[jcR,List.getD,h]
theorem jiO(l:List Nat)(i x:Nat):(jcR l).setIfInBounds i (.int .u32 (x:Int))=jcR (l.set i x):=by
 apply Array.ext';simp[jcR,List.map_set]
def URow(w:World)(g:Nat)(l:List Nat):Prop:=w.heap[g]?=some (.cells (jcR l) 110 (0,0))
theorem URow.cell{w:World}{g i:Nat}{l:List Nat}(h:URow w g l)(hi:i<l.length):w.cell? ⟨g,i,none⟩=some (.int .u32 (l.getD i 0:Int))/\w.frozen? ⟨g,i,none⟩=false:=by
 have h:w.heap[g]?=_:=h;have h2:=jip hi;constructor
 . simp[World.cell?,h,h2]
 . simp[World.frozen?,h]
theorem URow.set{w:World}{g:Nat}{l:List Nat}(h:URow w g l)(i x:Nat):URow (w.setCell ⟨g,i,none⟩ (.int .u32 (x:Int))) g (l.set i x):=by
 unfold URow at h ⊢;simp[World.setCell,Array.getElem?_modify,h,jiO]
abbrev csI(i:Nat):List Value:=[.int .i64 (i:Int)]
theorem jhF(i:Nat):(csI i).length=1:=rfl
abbrev csSt(t:Nat×Nat):List Value:=[.int .i64 (t.1:Int),.int .u32 (t.2:Int)]
theorem jkm(t:Nat×Nat):(csSt t).length=2:=rfl
abbrev jaN{α:Type}(r:Value×α):List Value:=[r.1]
theorem jaU{α:Type}(r:Value×α):(jaN r).length=1:=rfl
abbrev NatS:=SlS csI 1
structure Sp where
 cb:Nat
 fb:Nat
 sv:Value
 tv:Value
 stv:Value
 rs:List (Value×List (Nat×Nat))
def jaB(d:Sd)(m:Sp):Array Value:=#[.int .u32 (d.beh 0),.int .u32 (d.beh 1),.int .u32 (d.beh 2),.int .u32 (d.beh 3),.int .u32 (d.beh 4),.int .u32 (d.beh 5),.int .u32 (d.beh 6),.int .u32 (d.beh 7),.int .u32 (d.beh 8),.int .u32 (d.beh 9),.int .u32 (d.beh 10),.int .u32 (d.beh 11),.int .u32 (d.beh 12),.int .u32 (d.beh 13),.int .u32 (d.beh 14),.int .u32 (d.beh 15),.int .u32 (d.beh 16),.int .u32 (d.beh 17),.int .u32 (d.beh 18),.int .u32 (d.beh 19),.int .u32 (d.beh 20),.int .u32 (d.beh 21),.int .u32 (d.beh 22),.int .u32 (d.beh 23),.int .u32 (d.beh 24),
 .int .u32 d.last,m.stv,.slice (some ⟨m.cb,0,none⟩) d.n d.n,.slice (some ⟨m.fb,0,none⟩) d.n d.n,m.sv,m.tv]
structure SrS (S:Nat->Prop) (w:World) (sb:Nat) (d:Sd) (s:Ss) (m:Sp):Prop where
 blk:w.heap[sb]?=some (.cells (jaB d m) 116 (0,0))
 came:URow w m.cb s.came
 fresh:URow w m.fb s.fresh
 seen:w.ownsRow 0 3 1 m.sv s.seen.length (s.seen.flatMap csI)
 todo:w.ownsRow 0 3 1 m.tv s.todo.length (s.todo.flatMap csI)
 no:¬S sb
 cno:¬S m.cb
 fno:¬S m.fb
 sno:∀g,m.sv.ownBlock=some g->¬S g
 tno:∀g,m.tv.ownBlock=some g->¬S g
 cf:m.cb≠m.fb
 st:∀g,m.sv.ownBlock=some g->m.tv.ownBlock≠some g
 steps:SlS jaN 1 d.kp w m.stv m.rs
 rows:∀r∈m.rs,SlS csSt 2 d.kp w r.1 r.2
 kS:∀k,d.kp k->S k
 rsd:m.rs.map (·.2)=d.steps
 ok:d.Ok
section
variable {S:Nat->Prop} {w:World} {sb:Nat} {d:Sd} {s:Ss} {m:Sp}
theorem SrS.cells(h:SrS S w sb d s m):w.cell? ⟨sb,25,none⟩=some (.int .u32 (d.last:Int))/\w.cell? ⟨sb,26,none⟩=some m.stv/\w.cell? ⟨sb,27,none⟩=some (.slice (some ⟨m.cb,0,none⟩) d.n d.n)/\w.cell? ⟨sb,28,none⟩=some (.slice (some ⟨m.fb,0,none⟩) d.n d.n)/\w.cell? ⟨sb,29,none⟩=some m.sv/\w.cell? ⟨sb,30,none⟩=some m.tv/\w.frozen? ⟨sb,29,none⟩=false/\w.frozen? ⟨sb,30,none⟩=false:=by
 have hb:=h.blk;simp[World.cell?,World.frozen?,hb,jaB]
theorem jkY(d:Sd)(m:Sp):∀j,j<25->(jaB d m)[j]?=some (.int .u32 (d.beh j:Int))
 |0,_|1,_|2,_|3,_|4,_|5,_|6,_|7,_|8,_|9,_|10,_|11,_|12,_|13,_|14,_|15,_|16,_|17,_|18,_|19,_|20,_|21,_|22,_|23,_|24,_=>rfl
 |j+25,h=>by omega
theorem SrS.beh(h:SrS S w sb d s m){j:Nat}(hj:j<25):w.cell? ⟨sb,j,none⟩=some (.int .u32 (d.beh j:Int)):=by
 have hb:=h.blk;simp[World.cell?,hb,jkY d m j hj]
theorem SrS.sne(h:SrS S w sb d s m):m.sv.ownBlock≠some sb/\m.tv.ownBlock≠some sb/\m.sv.ownBlock≠some m.cb/\m.tv.ownBlock≠some m.cb/\m.sv.ownBlock≠some m.fb/\m.tv.ownBlock≠some m.fb/\sb≠m.cb/\sb≠m.fb:=
 ⟨jan h.seen h.blk (by decide),jan h.todo h.blk (by decide),jan h.seen h.came (by decide),jan h.todo h.came (by decide),jan h.seen h.fresh (by decide),jan h.todo h.fresh (by decide),jbg h.blk h.came (by decide),jbg h.blk h.fresh (by decide)⟩
def OwnB(sb:Nat)(m:Sp)(k:Nat):Prop:=k=sb\/k=m.cb\/k=m.fb\/m.sv.ownBlock=some k\/m.tv.ownBlock=some k
theorem SrS.own_lt(h:SrS S w sb d s m){k:Nat}(hk:OwnB sb m k):k<w.heap.size:=by
 rcases hk with rfl|rfl|rfl|hk|hk
 . exact lt_of_block h.blk
 . exact lt_of_block h.came
 . exact lt_of_block h.fresh
 . exact(h.seen.lt k hk).2
 . exact(h.todo.lt k hk).2
theorem SrS.own_no(h:SrS S w sb d s m){k:Nat}(hk:OwnB sb m k):¬S k:=by
 rcases hk with rfl|rfl|rfl|hk|hk
 . exact h.no
 . exact h.cno
 . exact h.fno
 . exact h.sno k hk
 . exact h.tno k hk
theorem SrS.keep{T:Nat->Prop}{w':World}(h:SrS S w sb d s m)(hz:w.heap.size<=w'.heap.size)(hk:∀k,k<w.heap.size->OwnB sb m k->¬T k/\w'.heap[k]?=w.heap[k]?)(hs:∀k,k<w.heap.size->d.kp k->w'.heap[k]?=w.heap[k]?)(ht:∀k,d.kp k->T k):SrS T w' sb d s m:=by
 have aa:∀k,OwnB sb m k->¬T k/\w'.heap[k]?=w.heap[k]?:=fun k ho=>hk k (h.own_lt ho) ho
 exact { h with
  blk:=(aa sb (.inl rfl)).2.trans h.blk
  came:=(aa m.cb (.inr (.inl rfl))).2.trans h.came
  fresh:=(aa m.fb (.inr (.inr (.inl rfl)))).2.trans h.fresh
  seen:=jae h.seen (fun g o hg ho=>(aa g (.inr (.inr (.inr (.inl hg))))).2.trans ho)
  todo:=jae h.todo (fun g o hg ho=>(aa g (.inr (.inr (.inr (.inr hg))))).2.trans ho)
  no:=(aa sb (.inl rfl)).1
  cno:=(aa m.cb (.inr (.inl rfl))).1
  fno:=(aa m.fb (.inr (.inr (.inl rfl)))).1
  sno:=fun g hg=>(aa g (.inr (.inr (.inr (.inl hg))))).1
  tno:=fun g hg=>(aa g (.inr (.inr (.inr (.inr hg))))).1
  steps:=h.steps.keep hz (fun b hb hl=>⟨hb,hs b hl hb⟩)
  rows:=fun r hr=>(h.rows r hr).keep hz (fun b hb hl=>⟨hb,hs b hl hb⟩)
  kS:=ht }
theorem SrS.below{w':World}(h:SrS S w sb d s m)(hb:Below w.heap.size w w'):SrS S w' sb d s m:=
 h.keep hb.size (fun k hk ho=>⟨h.own_no ho,hb.block k hk⟩) (fun k hk _=>hb.block k hk) h.kS
theorem SrS.plus{w':World}(h:SrS S w sb d s m)(hb:Below w.heap.size w w'):SrS (Plus S w.heap.size w'.heap.size) w' sb d s m:=
 h.keep hb.size (fun k hk ho=>⟨fun hp=>hp.elim (h.own_no ho) (fun h2=>by omega),hb.block k hk⟩) (fun k hk _=>hb.block k hk) (fun k hk=>.inl (h.kS k hk))
theorem SrS.setCame(h:SrS S w sb d s m)(v x:Nat):SrS S (w.setCell ⟨m.cb,v,none⟩ (.int .u32 (x:Int))) sb d ⟨s.came.set v x,s.fresh,s.seen,s.todo⟩ m:=by
 obtain⟨n1,n2,n3,n4,n5,n6,n7,n8⟩:=h.sne;have ho:∀k,k≠m.cb->(w.setCell ⟨m.cb,v,none⟩ (.int .u32 (x:Int))).heap[k]?=w.heap[k]?:=fun k hk=>zM _ _ _ _ hk
 exact { h with
  blk:=(ho sb n7).trans h.blk
  came:=h.came.set v x
  fresh:=(ho m.fb (fun e=>h.cf e.symm)).trans h.fresh
  seen:=jae h.seen (fun g o hg ho2=>(ho g (fun e=>n3 (by rw[hg,e]))).trans ho2)
  todo:=jae h.todo (fun g o hg ho2=>(ho g (fun e=>n4 (by rw[hg,e]))).trans ho2)
  steps:=h.steps.keep (by simp) (fun b hb _=>⟨hb,ho b (fun e=>h.cno (e▸h.kS b hb))⟩)
  rows:=fun r hr=>(h.rows r hr).keep (by simp) (fun b hb _=>⟨hb,ho b (fun e=>h.cno (e▸h.kS b hb))⟩) }
theorem SrS.setFresh(h:SrS S w sb d s m)(v x:Nat):SrS S (w.setCell ⟨m.fb,v,none⟩ (.int .u32 (x:Int))) sb d ⟨s.came,s.fresh.set v x,s.seen,s.todo⟩ m:=by
 obtain⟨n1,n2,n3,n4,n5,n6,n7,n8⟩:=h.sne;have ho:∀k,k≠m.fb->(w.setCell ⟨m.fb,v,none⟩ (.int .u32 (x:Int))).heap[k]?=w.heap[k]?:=fun k hk=>zM _ _ _ _ hk
 exact { h with
  blk:=(ho sb n8).trans h.blk
  came:=(ho m.cb h.cf).trans h.came
  fresh:=h.fresh.set v x
  seen:=jae h.seen (fun g o hg ho2=>(ho g (fun e=>n5 (by rw[hg,e]))).trans ho2)
  todo:=jae h.todo (fun g o hg ho2=>(ho g (fun e=>n6 (by rw[hg,e]))).trans ho2)
  steps:=h.steps.keep (by simp) (fun b hb _=>⟨hb,ho b (fun e=>h.fno (e▸h.kS b hb))⟩)
  rows:=fun r hr=>(h.rows r hr).keep (by simp) (fun b hb _=>⟨hb,ho b (fun e=>h.fno (e▸h.kS b hb))⟩) }
theorem jki(d:Sd)(m:Sp)(v:Value):(jaB d m).setIfInBounds 29 v=jaB d ⟨m.cb,m.fb,v,m.tv,m.stv,m.rs⟩:=by
 simp[jaB]
theorem jkl(d:Sd)(m:Sp)(v:Value):(jaB d m).setIfInBounds 30 v=jaB d ⟨m.cb,m.fb,m.sv,v,m.stv,m.rs⟩:=by
 simp[jaB]
theorem SrS.setSeen{w':World}{v:Value}{l:List Nat}(h:SrS S w sb d s m)(hS:Low S w)(hz:w.heap.size<=w'.heap.size)(hk:∀k,k<w.heap.size->m.sv.ownBlock≠some k->w'.heap[k]?=w.heap[k]?)(hv:w'.ownsRow 0 3 1 v l.length (l.flatMap csI))(hg:∀g,v.ownBlock=some g->m.sv.ownBlock=some g\/w.heap.size<=g):
 SrS S (w'.setCell ⟨sb,29,none⟩ v) sb d ⟨s.came,s.fresh,l,s.todo⟩ ⟨m.cb,m.fb,v,m.tv,m.stv,m.rs⟩:=by
 obtain⟨n1,n2,n3,n4,n5,n6,n7,n8⟩:=h.sne;have ab:w'.heap[sb]?=some (.cells (jaB d m) 116 (0,0)):=(hk sb (lt_of_block h.blk) n1).trans h.blk;have ho:∀k,k≠sb->(w'.setCell ⟨sb,29,none⟩ v).heap[k]?=w'.heap[k]?:=fun k hk=>zM _ _ _ _ hk
 have aa:∀b,d.kp b->b<w.heap.size->d.kp b/\(w'.setCell ⟨sb,29,none⟩ v).heap[b]?=w.heap[b]?:=fun b hb hl=>⟨hb,(ho b (fun e=>h.no (e▸h.kS b hb))).trans (hk b hl (fun e=>h.sno b e (h.kS b hb)))⟩
 exact { h with
  blk:=by simp[World.setCell,Array.getElem?_modify,ab,jki]
  came:=(ho m.cb (fun e=>n7 e.symm)).trans ((hk m.cb (lt_of_block h.came) n3).trans h.came)
  fresh:=(ho m.fb (fun e=>n8 e.symm)).trans ((hk m.fb (lt_of_block h.fresh) n5).trans h.fresh)
  seen:=jae hv (fun g o hg2 ho2=>(ho g (fun e=>by
   rcases hg g hg2 with h1|h1
   . exact n1 (by rw[h1,e])
   . have:=lt_of_block h.blk;omega)).trans ho2)
  todo:=jae h.todo (fun g o hg2 ho2=>(ho g (fun e=>n2 (by rw[hg2,e]))).trans ((hk g (lt_of_block ho2) (fun e=>h.st g e hg2)).trans ho2))
  sno:=fun g hg2 hs=>by
   rcases hg g hg2 with h1|h1
   . exact h.sno g h1 hs
   . have:=hS g hs;omega
  st:=fun g hg2 hg3=>by
   rcases hg g hg2 with h1|h1
   . exact h.st g h1 hg3
   . have:=(h.todo.lt g hg3).2;omega
  steps:=h.steps.keep (by simpa using hz) aa
  rows:=fun r hr=>(h.rows r hr).keep (by simpa using hz) aa }
theorem SrS.setTodo{w':World}{v:Value}{l:List Nat}(h:SrS S w sb d s m)(hS:Low S w)(hz:w.heap.size<=w'.heap.size)(hk:∀k,k<w.heap.size->m.tv.ownBlock≠some k->w'.heap[k]?=w.heap[k]?)(hv:w'.ownsRow 0 3 1 v l.length (l.flatMap csI))(hg:∀g,v.ownBlock=some g->m.tv.ownBlock=some g\/w.heap.size<=g):
 SrS S (w'.setCell ⟨sb,30,none⟩ v) sb d ⟨s.came,s.fresh,s.seen,l⟩ ⟨m.cb,m.fb,m.sv,v,m.stv,m.rs⟩:=by
 obtain⟨n1,n2,n3,n4,n5,n6,n7,n8⟩:=h.sne;have ab:w'.heap[sb]?=some (.cells (jaB d m) 116 (0,0)):=(hk sb (lt_of_block h.blk) n2).trans h.blk;have ho:∀k,k≠sb->(w'.setCell ⟨sb,30,none⟩ v).heap[k]?=w'.heap[k]?:=fun k hk=>zM _ _ _ _ hk
 have aa:∀b,d.kp b->b<w.heap.size->d.kp b/\(w'.setCell ⟨sb,30,none⟩ v).heap[b]?=w.heap[b]?:=fun b hb hl=>⟨hb,(ho b (fun e=>h.no (e▸h.kS b hb))).trans (hk b hl (fun e=>h.tno b e (h.kS b hb)))⟩
 exact { h with
  blk:=by simp[World.setCell,Array.getElem?_modify,ab,jkl]
  came:=(ho m.cb (fun e=>n7 e.symm)).trans ((hk m.cb (lt_of_block h.came) n4).trans h.came)
  fresh:=(ho m.fb (fun e=>n8 e.symm)).trans ((hk m.fb (lt_of_block h.fresh) n6).trans h.fresh)
  todo:=jae hv (fun g o hg2 ho2=>(ho g (fun e=>by
   rcases hg g hg2 with h1|h1
   . exact n2 (by rw[h1,e])
   . have:=lt_of_block h.blk;omega)).trans ho2)
  seen:=jae h.seen (fun g o hg2 ho2=>(ho g (fun e=>n1 (by rw[hg2,e]))).trans ((hk g (lt_of_block ho2) (fun e=>h.st g hg2 e)).trans ho2))
  tno:=fun g hg2 hs=>by
   rcases hg g hg2 with h1|h1
   . exact h.tno g h1 hs
   . have:=hS g hs;omega
  st:=fun g hg2 hg3=>by
   rcases hg g hg3 with h1|h1
   . exact h.st g hg2 h1
   . have:=(h.seen.lt g hg2).2;omega
  steps:=h.steps.keep (by simpa using hz) aa
  rows:=fun r hr=>(h.rows r hr).keep (by simpa using hz) aa }
end
end Go.Proofs.YtkbgmcmcpbegjaaGreatDoor
namespace Go.Proofs.YtkbgmcmcpbegjaaGreatDoor
open Go.RowKit Go.Shelf
theorem jen{w:World}{B n k:Nat}{v:Value}{xs:List Value}{t e:TypeId}{i0:TypeInfo}{z:Value}{bytes:Nat}(ht:Tryz.prog.underlying t=some (.slice e))(hi:Tryz.prog.info? e=some i0)(hz0:i0.zero=some z)(hz1:i0.size=k)(hz2:i0.bytes=bytes)(hz3:z.cells.size=k)(hk:0<k)
 (hown:w.ownsRow B e k v n xs) (ao:Option Addr) (us:List Value) (m cap:Nat) (hm:us.length=m*k) (hnone:ao=none->m=0/\cap=0) (hc:∀ad,ao=some ad->∀j u,us[j]?=some u->w.cell? (ad.add j)=some u) (h1:∀u∈us,u.oneCell'=true)
 (h63:n+m<=maxLen) (hb:(n+m)*bytes<=140737488355328) (hB:B<=w.heap.size) (ty:TypeId):
 ∃v' w',(Builtin.append_ #[t,t] ty #[v,.slice ao m cap]).run Tryz.prog w=.ok v' w'/\w'.ownsRow B e k v' (n+m) (xs++us)/\w.grownBy w' v.ownBlock:=by
 cases ao with
 |some ad=>
  obtain⟨v',w',hr,h2,h3,_,_⟩:=run_append_own_at (P:=Tryz.prog) w B t ty e i0 z k bytes ht hi hz0 hz1 hz2 hz3 hk v n xs hown ad m cap us hm (hc ad rfl) h1 h63 hb hB;exact⟨v',w',hr,h2,h3⟩
 |none=>
  obtain⟨rfl,rfl⟩:=hnone rfl;have e0:us=[]:=yP.1 (by omega);subst e0;have aa:=run_append_owned_none (P:=Tryz.prog) w B t ty e i0 k ht hi v n xs hown;exact⟨v,w,aa,by simpa using hown,World.grownBy.refl _ _⟩
theorem jah{w:World}{ops:Array Oper}{rest:List Oper}{o:Oper}{a:Act}{Q:Exit->Act->World->Prop}(hgd:o.guard=none)(sl x:Operand){t:TypeId}
 (ho:o.op=.call { callee:=.builtin .append,args:=#[sl,x],argTypes:=#[t,t] })
 {B n k:Nat} {v:Value} {xs:List Value} {e:TypeId} {i0:TypeInfo} {z:Value} {bytes:Nat} (ht:Tryz.prog.underlying t=some (.slice e)) (hi:Tryz.prog.info? e=some i0) (hz0:i0.zero=some z) (hz1:i0.size=k) (hz2:i0.bytes=bytes) (hz3:z.cells.size=k) (hk:0<k)
 (hs:a.eval sl=v) (hown:w.ownsRow B e k v n xs) (ao:Option Addr) (us:List Value) (m cap:Nat) (hx:a.eval x=.slice ao m cap) (hm:us.length=m*k) (hnone:ao=none->m=0/\cap=0) (hc:∀ad,ao=some ad->∀j u,us[j]?=some u->w.cell? (ad.add j)=some u) (h1:∀u∈us,u.oneCell'=true)
 (h63:n+m<=maxLen) (hb:(n+m)*bytes<=140737488355328) (hB:B<=w.heap.size)
 (h:∀v' w',w'.ownsRow B e k v' (n+m) (xs++us)->w.grownBy w' v.ownBlock->wpList Tryz.prog ops Q rest (a.put o.dst v') w'):wpList Tryz.prog ops Q (o::rest) a w:=by
 refine wpList_plain hgd fun K hK=>?_
 obtain⟨v',w',hr,h2,h3⟩:=jen ht hi hz0 hz1 hz2 hz3 hk hown ao us m cap hm hnone hc h1 h63 hb hB o.type;unfold Oper.wp execOp;simp only[ho,resolve,invoke,builtin,Sem.run_bind,Sem.run_pure,Result.andThen_ok,List.map_toArray,List.map_cons,List.map_nil,hs,hx,hr];exact hK _ _ (h v' w' h2 h3)
structure Src {α:Type} (enc:α->List Value) (k:Nat) (w:World) (v:Value) (L:List α):Prop where
 sl:SlS enc k (fun _=>True) w v L
 no:∀n cap,v=.slice none n cap->n=0/\cap=0
section
variable {α:Type} {enc:α->List Value} {k:Nat}
theorem Src.below{w w':World}{v:Value}{L:List α}(h:Src enc k w v L)(hb:Below w.heap.size w w'):Src enc k w' v L:=⟨h.sl.below hb,h.no⟩
theorem Src.own(hk:∀x,(enc x).length=k){w:World}{B n:Nat}{e:TypeId}{v:Value}{L:List α}(h:w.ownsRow B e k v n (L.flatMap enc))(hn:n=L.length):Src enc k w v L:=by
 refine⟨(jaD hk h hn).sub (fun _ _ _=>trivial),fun m cap e=>?_⟩;rcases h.2 with⟨h1,_⟩|⟨g,c,cur,h1,_⟩
 . rw[h1]at e;injection e with _ e2 e3;exact⟨e2.symm,e3.symm⟩
 . rw[h1]at e;injection e with e1;cases e1
theorem addA(g i j:Nat):(⟨g,i,none⟩:Addr).add j=⟨g,i+j,none⟩:=by
 unfold Addr.add;split<;>simp_all
theorem Src.cells(hk:∀x,(enc x).length=k)(hk0:0<k){w:World}{ao:Option Addr}{n cap:Nat}{L:List α}(h:Src enc k w (.slice ao n cap) L):∀ad,ao=some ad->∀j u,(L.flatMap enc)[j]?=some u->w.cell? (ad.add j)=some u:=by
 intro ad he j u hu;have hj:j<(L.flatMap enc).length:=(zE.1 hu).1;rw[jaz hk]at hj;have hq:j/k<L.length:=Nat.div_lt_of_lt_mul (by rw[Nat.mul_comm];exact hj);have hx:=zB hq;have hc:=Nat.mod_lt j hk0;have hs:=Nat.div_add_mod' j k;obtain⟨g,ab,e1,_,_,aa⟩:=h.sl.get hx;rw[he]at e1;injection e1 with e1;subst e1;rw[addA,<- hs,show ab+(j/k*k+j%k)=ab+j/k*k+j%k by omega];refine aa _ u ?_;rw[<- jdr hk L _ _ _ hx hc,hs];exact hu
end
theorem jb4(x:Int):(csZ x).length=1:=rfl
section
variable {α:Type} {enc:α->List Value} {k:Nat}
theorem jjw{S:Nat->Prop}{w:World}{ao:Option Addr}{n cap cap2 i:Nat}{L:List α}(h:SlS enc k S w (.slice ao n cap) L)(hi:i<=L.length):SlS enc k S w (.slice ao i cap2) (L.take i):=by
 obtain⟨a,c,e,h⟩:=h;injection e with e1 e2 e3;subst e1;refine⟨ao,cap2,by rw[zX];congr 1;omega,?_⟩;rcases h with rfl|⟨g,aa,e1,hs,hl,hc⟩
 . left;simp
 . refine .inr ⟨g,aa,e1,hs,hl,fun j x hx c u hu=>hc j x ?_ c u hu⟩;rw[List.getElem?_take]at hx;split at hx
   . exact hx
   . cases hx
theorem jlX{S:Nat->Prop}{w:World}{g off n cap cap2 i:Nat}{L:List α}(h:SlS enc k S w (.slice (some ⟨g,off,none⟩) n cap) L)(hn:n=L.length):SlS enc k S w (.slice (some ⟨g,off+i*k,none⟩) (n-i) cap2) (L.drop i):=by
 obtain⟨a,c,e,h⟩:=h;injection e with e1 e2 e3;subst e1;refine⟨_,cap2,by rw[yS,hn],?_⟩;rcases h with rfl|⟨g',off',e1,hs,hl,hc⟩
 . left;simp
 . injection e1 with e1;injection e1 with e1 e4;subst e1 e4;refine .inr ⟨g,_,rfl,hs,hl,fun j x hx c u hu=>?_⟩;rw[List.getElem?_drop]at hx;have:=hc (i+j) x hx c u hu;rw[Nat.add_mul]at this;rw[show off+i*k+j*k+c=off+(i*k+j*k)+c by omega];exact this
theorem jkT{S:Nat->Prop}{w:World}(ao:Option Addr)(cap:Nat):SlS enc k S w (.slice ao 0 cap) []:=⟨ao,cap,rfl,.inl rfl⟩
end
end Go.Proofs.YtkbgmcmcpbegjaaGreatDoor
