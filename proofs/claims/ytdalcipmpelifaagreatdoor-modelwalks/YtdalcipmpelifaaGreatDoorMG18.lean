/- XMath2, XMath3. -/
import Derived.Test.YtdalcipmpelifaaGreatDoorMG17
import Derived.Test.YtdalcipmpelifaaGreatDoorMG6
set_option maxRecDepth 100000
namespace Go.Proofs.YtdalcipmpelifaaGreatDoor
open Go.RowKit
noncomputable def todoC (c:Ch) (a b:Nat) (Q:Nat->Nat->Prop) (T:List Nat):List Nat:=if ((atC c b).filter (leadB1 c a Q)).length=(atC c b).length then T else T++[b]
theorem todo_sub{c:Ch}{a b:Nat}{Q:Nat->Nat->Prop}{T:List Nat}{k:Nat}(h:k∈T):k∈todoC c a b Q T:=by
 unfold todoC;split
 . exact h
 . exact yI _ h
theorem HC.strike{c:Ch}{a b x y:Nat}{Q S:Nat->Nat->Prop}{T:List Nat}(hb:b<c.length)(h:HC c x y S):x∈todoC c a b Q T\/HC (strikeC c a b Q) x y S:=by
 by_cases e:x=b
 . subst e;by_cases h2:((atC c x).filter (leadB1 c a Q)).length=(atC c x).length
   . exact .inr (by rw[strike_same hb h2];exact h)
   . left;unfold todoC;rw[if_neg h2];simp
 . exact .inr (h.strike_other hb e)
theorem NwA.there{ls:List Lk}{c0 c:Ch}{T:List Nat}{a i:Nat}{l:Lk}(h:NwA ls c0 T a i c)(hl:ls[i]?=some l)(hne:l.fr≠l.to)(hf:l.fr=a)(hb:l.to<c.length):NwA ls c0 (todoC c a l.to l.R T) a (i+1) (strikeC c a l.to l.R):=by
 subst hf;refine⟨by rw[strikeC,List.length_set];exact h.len,strike_flt hb h.flt,strike_allT (zC hl) hb h.all,fun j k hk=>?_⟩;obtain⟨h1,h2⟩:=h.arc j k hk;constructor
 . rcases h1 with h1|⟨h1,h3⟩|h1
   . exact .inl (todo_sub h1)
   . by_cases e:j=i
     . subst e;rw[hl]at hk;injection hk with hk;subst hk;exact .inr (.inr (HC.strike_self hb hne))
     . exact .inr (.inl ⟨h1,by omega⟩)
   . exact(h1.strike hb).elim .inl (fun h=>.inr (.inr h))
 . rcases h2 with h2|⟨h2,h3⟩|h2
   . exact .inl (todo_sub h2)
   . by_cases e:j=i
     . subst e;rw[hl]at hk;injection hk with hk;subst hk;exact absurd h2.symm hne
     . exact .inr (.inl ⟨h2,by omega⟩)
   . exact(h2.strike hb).elim .inl (fun h=>.inr (.inr h))
theorem NwA.back{ls:List Lk}{c0 c:Ch}{T:List Nat}{a i:Nat}{l:Lk}(h:NwA ls c0 T a i c)(hl:ls[i]?=some l)(hne:l.fr≠l.to)(hf:l.to=a)(hb:l.fr<c.length):NwA ls c0 (todoC c a l.fr (fun v u=>l.R u v) T) a (i+1) (strikeC c a l.fr (fun v u=>l.R u v)):=by
 subst hf;refine⟨by rw[strikeC,List.length_set];exact h.len,strike_flt hb h.flt,strike_allB (zC hl) hb h.all,fun j k hk=>?_⟩;obtain⟨h1,h2⟩:=h.arc j k hk;constructor
 . rcases h1 with h1|⟨h1,h3⟩|h1
   . exact .inl (todo_sub h1)
   . by_cases e:j=i
     . subst e;rw[hl]at hk;injection hk with hk;subst hk;exact absurd h1 hne
     . exact .inr (.inl ⟨h1,by omega⟩)
   . exact(h1.strike hb).elim .inl (fun h=>.inr (.inr h))
 . rcases h2 with h2|⟨h2,h3⟩|h2
   . exact .inl (todo_sub h2)
   . by_cases e:j=i
     . subst e;rw[hl]at hk;injection hk with hk;subst hk;exact .inr (.inr (HC.strike_self hb (fun e=>hne e.symm)))
     . exact .inr (.inl ⟨h2,by omega⟩)
   . exact(h2.strike hb).elim .inl (fun h=>.inr (.inr h))
theorem NwA.pass{ls:List Lk}{c0 c:Ch}{T:List Nat}{a i:Nat}{l:Lk}(h:NwA ls c0 T a i c)(hl:ls[i]?=some l)(hf:l.fr≠a)(ht:l.to≠a):NwA ls c0 T a (i+1) c:=
 ⟨h.len,h.flt,h.all,fun j k hk=>by
  obtain⟨h1,h2⟩:=h.arc j k hk;have key:∀x,x=a->i<=j->(x=k.fr\/x=k.to)->i+1<=j:=fun x hx hij hxk=>by
   by_cases e:j=i
   . subst e;rw[hl]at hk;injection hk with hk;subst hk;rcases hxk with h3|h3
     . exact absurd (h3.symm.trans hx) hf
     . exact absurd (h3.symm.trans hx) ht
   . omega
  constructor
  . rcases h1 with h1|⟨h1,h3⟩|h1
    . exact .inl h1
    . exact .inr (.inl ⟨h1,key _ h1 h3 (.inl rfl)⟩)
    . exact .inr (.inr h1)
  . rcases h2 with h2|⟨h2,h3⟩|h2
    . exact .inl h2
    . exact .inr (.inl ⟨h2,key _ h2 h3 (.inr rfl)⟩)
    . exact .inr (.inr h2)⟩
def muC(c:Ch)(T:List Nat):Nat:=2*(c.map List.length).sum+T.length
theorem mu_strike{c:Ch}{a b:Nat}{Q:Nat->Nat->Prop}{T:List Nat}(hb:b<c.length):muC (strikeC c a b Q) (todoC c a b Q T)<=muC c T:=by
 have h1:=sum_set (c.map List.length) b ((atC c b).filter (leadB1 c a Q)).length (by simpa using hb);have h2:(c.map List.length).getD b 0=(atC c b).length:=by
  unfold atC;rw[List.getD,List.getD,zI,zB hb];rfl
 have h3:=yD (leadB1 c a Q) (atC c b);unfold muC todoC strikeC;rw[List.map_set];rw[h2]at h1;split
 . omega
 . rw[zG];simp only[List.length_singleton];omega
def SolC(ls:List Lk)(n:Nat)(c:Ch)(s:Nat->Nat):Prop:=(∀k,k<n->s k∈atC c k)/\∀l∈ls,l.R (s l.fr) (s l.to)
theorem loc_all{ls:List Lk}{n:Nat}(hl:∀l∈ls,l.fr<n/\l.to<n)(c:Ch):LocSol ls c (List.range n)↔∃s,SolC ls n c s:=by
 constructor
 . rintro⟨s,h1,h2⟩;exact⟨s,fun k hk=>h1 k (yA.2 hk),fun l h=>h2 l h (yA.2 (hl l h).1) (yA.2 (hl l h).2)⟩
 . rintro⟨s,h1,h2⟩;exact⟨s,fun k hk=>h1 k (yA.1 hk),fun l h _ _=>h2 l h⟩
theorem sol_choose{ls:List Lk}{n:Nat}(hl:∀l∈ls,l.fr<n/\l.to<n){c:Ch}(hc:c.length=n){u v:Nat}(hu:u<n)(s:Nat->Nat):SolC ls n (chooseC ls c u v) s/\v∈atC c u↔SolC ls n c s/\s u=v:=by
 constructor
 . rintro⟨⟨h1,h2⟩,hv⟩;have hsv:s u=v:=by
    have:=narrow_sub (h1 u hu);rw[atC_set c _ u (by omega),if_pos rfl]at this;exact zJ.1 this
   refine⟨⟨fun k hk=>?_,h2⟩,hsv⟩;have:=narrow_sub (h1 k hk);rw[atC_set c _ k (by omega)]at this;split at this
   . rename_i e;subst e;rw[hsv];exact hv
   . exact this
 . rintro⟨⟨h1,h2⟩,rfl⟩;refine⟨⟨fun k hk=>?_,h2⟩,h1 u hu⟩;refine narrow_all (D:=fun j x=>j<n/\x=s j) (fun l hl2=>⟨fun v hv=>⟨s l.fr,⟨(hl l hl2).1,rfl⟩,by rw[hv.2];exact h2 l hl2⟩,fun u hu=>⟨s l.to,⟨(hl l hl2).2,rfl⟩,by rw[hu.2];exact h2 l hl2⟩⟩) (fun j x hx=>?_) k (s k) ⟨hk,rfl⟩;rw[hx.2,atC_set c _ j (by omega)];split
   . rename_i e;subst e;simp
   . exact h1 j hx.1
noncomputable def locB (ls:List Lk) (c:Ch) (X:List Nat):Bool:=@decide (LocSol ls c X) (Classical.propDecidable _)
theorem locB_iff{ls:List Lk}{c:Ch}{X:List Nat}:locB ls c X=true↔LocSol ls c X:=@decide_eq_true_iff _ (Classical.propDecidable _)
noncomputable def fillL (ls:List Lk) (n:Nat):List Nat->Ch->List Nat->List (List Nat)
 |[],c,row=>if locB ls c (List.range n)=true then [row]else []
 |u::us,c,row=>if locB ls c (List.range n)=true then (atC c u).flatMap (fun v=>fillL ls n us (chooseC ls c u v) (row++[v]))else []
theorem mem_fill{ls:List Lk}{n:Nat}(hl:∀l∈ls,l.fr<n/\l.to<n):∀(us:List Nat) (c:Ch) (row r:List Nat),(∀u∈us,u<n)->c.length=n->(r∈fillL ls n us c row↔∃s,SolC ls n c s/\r=row++us.map s)
 |[],c,row,r,_,hc=>by
  unfold fillL;split
  . rename_i h;obtain⟨s,hs⟩:=(loc_all hl c).1 (locB_iff.1 h);constructor
    . intro hr;exact⟨s,hs,by rw[zJ.1 hr];simp⟩
    . rintro⟨s,_,e⟩;rw[e];simp
  . rename_i h;constructor
    . intro hr;simp at hr
    . rintro⟨s,hs,_⟩;exact absurd (locB_iff.2 ((loc_all hl c).2 ⟨s,hs⟩)) h
 |u::us,c,row,r,hu,hc=>by
  have hun:=hu u (zL ..);have ih:=fun v row=>mem_fill hl us (chooseC ls c u v) row r (fun x hx=>hu x (zP _ hx)) (by rw[chooseC,narrow_len,List.length_set];exact hc)
  unfold fillL;split
  . rw[List.mem_flatMap];constructor
    . rintro⟨v,hv,hr⟩;obtain⟨s,hs,e⟩:=(ih v _).1 hr;obtain⟨h1,h2⟩:=(sol_choose hl hc hun s).1 ⟨hs,hv⟩;exact⟨s,h1,by rw[e,List.map_cons,h2];simp⟩
    . rintro⟨s,hs,e⟩;obtain⟨h1,h2⟩:=(sol_choose hl hc hun s).2 ⟨hs,rfl⟩;exact⟨s u,h2,(ih _ _).2 ⟨s,h1,by rw[e];simp⟩⟩
  . rename_i h;constructor
    . intro hr;simp at hr
    . rintro⟨s,hs,_⟩;exact absurd (locB_iff.2 ((loc_all hl c).2 ⟨s,hs⟩)) h
def lessN:List Nat->List Nat->Bool
 |[],[]=>false
 |[],_::_=>true
 |_::_,[]=>false
 |a::l,b::r=>if a=b then lessN l r else decide (a<b)
theorem lessN_app:∀(p l r:List Nat),lessN (p++l) (p++r)=lessN l r
 |[],_,_=>rfl
 |a::p,l,r=>by
  rw[List.cons_append,List.cons_append,lessN,if_pos rfl];exact lessN_app p l r
theorem fill_pre{ls:List Lk}{n:Nat}:∀(us:List Nat) (c:Ch) (row r:List Nat),r∈fillL ls n us c row->∃t,r=row++t/\t.length=us.length
 |[],c,row,r,h=>by
  unfold fillL at h;split at h
  . exact⟨[],by rw[zJ.1 h];simp,rfl⟩
  . simp at h
 |u::us,c,row,r,h=>by
  unfold fillL at h;split at h
  . obtain⟨v,_,hr⟩:=List.mem_flatMap.1 h;obtain⟨t,e,hlen⟩:=fill_pre us _ _ r hr;exact⟨v::t,by rw[e];simp,by simp[hlen]⟩
  . simp at h
theorem fill_rise{ls:List Lk}{n:Nat}:∀(us:List Nat) (c:Ch) (row:List Nat),(∀k,(atC c k).Pairwise (·<·))->(∀u∈us,u<c.length)->(fillL ls n us c row).Pairwise (fun a b=>lessN a b=true)
 |[],c,row,_,_=>by
  unfold fillL;split<;>simp
 |u::us,c,row,h,hu=>by
  have hun:=hu u (zL ..);unfold fillL;split
  . rw[List.pairwise_flatMap];refine⟨fun v hv=>fill_rise us _ _ (fun k=>?_) (fun x hx=>by rw[chooseC,narrow_len,List.length_set];exact hu x (zP _ hx)),?_⟩
    . rw[chooseC,narrow_at];refine List.Pairwise.filter _ ?_;rw[atC_set c _ k hun];split
      . simp
      . exact h k
    . refine(h u).imp (fun {a b} hab x hx y hy=>?_);obtain⟨t1,e1,_⟩:=fill_pre us _ _ x hx;obtain⟨t2,e2,_⟩:=fill_pre us _ _ y hy;rw[e1,e2,List.append_assoc,List.append_assoc,lessN_app,List.singleton_append,List.singleton_append,lessN,if_neg (by omega)];exact yC hab
  . simp
theorem less_names{V:List Wd}(hV:RiseL less V):∀(a b:List Nat),(∀x∈a,x<V.length)->(∀x∈b,x<V.length)->lessN a b=true->lessR (a.map fun i=>V.getD i []) (b.map fun i=>V.getD i [])=true
 |[],[],_,_,h=>by simp[lessN]at h
 |[],b::r,_,_,_=>rfl
 |a::l,[],_,_,h=>by simp[lessN]at h
 |a::l,b::r,ha,hb,h=>by
  have hget:∀i,i<V.length->V[i]?=some (V.getD i []):=fun i hi=>by
   rw[List.getD,zB hi];rfl
  rw[lessN]at h;rw[List.map_cons,List.map_cons,lessR];split at h
  . rename_i e;subst e;rw[if_pos rfl];exact less_names hV l r (fun x hx=>ha x (zP _ hx)) (fun x hx=>hb x (zP _ hx)) h
  . have h1:=hV.lt_at ordW (hget a (ha a (zL ..))) (hget b (hb b (zL ..))) (of_decide_eq_true h);rw[if_neg (ordW.ne h1)];exact h1
end Go.Proofs.YtdalcipmpelifaaGreatDoor
namespace Go.Proofs.YtdalcipmpelifaaGreatDoor
structure GI (lnk:Nat->Nat->Bool) (X:List Nat) (Gs:List (List Nat)) (O:List Nat):Prop where
 perm:(Gs.flatten++O).Perm X
 gg:Gs.Pairwise (fun G H=>∀x∈G,∀y∈H,lnk x y=false)
 go:∀G∈Gs,∀x∈G,∀y∈O,lnk x y=false
 ne:∀G∈Gs,G≠[]
structure GM (lnk:Nat->Nat->Bool) (X:List Nat) (Gs:List (List Nat)) (G:List Nat) (i:Nat) (O:List Nat):Prop where
 perm:(Gs.flatten++(G++O)).Perm X
 gg:Gs.Pairwise (fun G H=>∀x∈G,∀y∈H,lnk x y=false)
 go:∀H∈Gs,∀x∈H,∀y∈G++O,lnk x y=false
 ne:∀G∈Gs,G≠[]
 gi:∀(k x:Nat),k<i->G[k]?=some x->∀y∈O,lnk x y=false
 nz:G≠[]
theorem GI.start(lnk:Nat->Nat->Bool)(X:List Nat):GI lnk X [] X:=⟨by simp,List.Pairwise.nil,fun _ h=>by simp at h,fun _ h=>by simp at h⟩
theorem GI.pop{lnk:Nat->Nat->Bool}{X:List Nat}{Gs:List (List Nat)}{a:Nat}{O:List Nat}(h:GI lnk X Gs (a::O)):GM lnk X Gs [a] 0 O:=
 ⟨h.perm,h.gg,h.go,h.ne,fun _ _ hk=>absurd hk (Nat.not_lt_zero _),by simp⟩
theorem perm_parts(p:Nat->Bool)(l:List Nat):(l.filter p++l.filter fun x=> !p x).Perm l:=List.filter_append_perm p l
theorem GM.step{lnk:Nat->Nat->Bool}{X:List Nat}{Gs:List (List Nat)}{G:List Nat}{i a:Nat}{O:List Nat}(h:GM lnk X Gs G i O)(ha:G[i]?=some a):GM lnk X Gs (G++O.filter (lnk a)) (i+1) (O.filter fun y=> !lnk a y):=by
 have hil:=(zE.1 ha).1;refine⟨?_,h.gg,fun H hH x hx y hy=>?_,h.ne,fun k x hk hx y hy=>?_,by simp[h.nz]⟩
 . refine List.Perm.trans ?_ h.perm;refine List.Perm.append_left _ ?_;rw[List.append_assoc];exact List.Perm.append_left _ (perm_parts _ _)
 . refine h.go H hH x hx y ?_;rw[List.append_assoc]at hy;rcases zN.1 hy with hy|hy
   . exact yI _ hy
   . rcases zN.1 hy with hy|hy
     . exact List.mem_append_right _ (zV.1 hy).1
     . exact List.mem_append_right _ (zV.1 hy).1
 . rw[yH (by omega)]at hx;obtain⟨hy1,hy2⟩:=zV.1 hy;by_cases e:k=i
   . subst e;rw[ha]at hx;injection hx with hx;subst hx;simpa using hy2
   . exact h.gi k x (by omega) hx y hy1
theorem GM.done{lnk:Nat->Nat->Bool}{X:List Nat}{Gs:List (List Nat)}{G:List Nat}{i:Nat}{O:List Nat}(h:GM lnk X Gs G i O)(hi:G.length<=i):GI lnk X (Gs++[G]) O:=by
 refine⟨?_,?_,fun H hH x hx y hy=>?_,fun H hH=>?_⟩
 . have h1:(Gs++[G]).flatten++O=Gs.flatten++(G++O):=by simp
   rw[h1];exact h.perm
 . rw[List.pairwise_append];refine⟨h.gg,List.pairwise_singleton _ _,fun H hH K hK x hx y hy=>?_⟩;rw[zJ.1 hK]at hy;exact h.go H hH x hx y (yI _ hy)
 . rcases zN.1 hH with hH|hH
   . exact h.go H hH x hx y (List.mem_append_right _ hy)
   . rw[zJ.1 hH]at hx;obtain⟨k,hk⟩:=List.getElem?_of_mem hx;have:=(zE.1 hk).1;exact h.gi k x (by omega) hk y hy
 . rcases zN.1 hH with hH|hH
   . exact h.ne H hH
   . rw[zJ.1 hH];exact h.nz
theorem GM.len{lnk:Nat->Nat->Bool}{X:List Nat}{Gs:List (List Nat)}{G:List Nat}{i:Nat}{O:List Nat}(h:GM lnk X Gs G i O):G.length+O.length<=X.length:=by
 have:=h.perm.length_eq;simp only[zG]at this;omega
theorem GI.len{lnk:Nat->Nat->Bool}{X:List Nat}{Gs:List (List Nat)}{O:List Nat}(h:GI lnk X Gs O):O.length<=X.length/\∀G∈Gs,G.length<=X.length:=by
 have h1:=h.perm.length_eq;rw[zG]at h1;refine⟨by omega,fun G hG=>?_⟩;have h2:G.Sublist Gs.flatten:=List.sublist_flatten_of_mem hG;have:=h2.length_le;omega
theorem GI.count{lnk:Nat->Nat->Bool}{X:List Nat}{Gs:List (List Nat)}{O:List Nat}(h:GI lnk X Gs O):Gs.length+O.length<=X.length:=by
 have h1:=h.perm.length_eq;rw[zG]at h1;have h2:∀Ks:List (List Nat),(∀G∈Ks,G≠[])->Ks.length<=Ks.flatten.length:=by
  intro Ks;induction Ks with
  |nil=>intro _;simp
  |cons K Ks ih=>
   intro hK;have h3:=ih (fun G hG=>hK G (zP _ hG));have h4:0<K.length:=List.length_pos_iff.2 (hK K (zL ..));rw[List.flatten_cons,zG,yE];omega
 have:=h2 Gs h.ne;omega
theorem GI.nodup{lnk:Nat->Nat->Bool}{X:List Nat}{Gs:List (List Nat)}{O:List Nat}(h:GI lnk X Gs O)(hX:X.Nodup){G:List Nat}(hG:G∈Gs):G.Nodup:=by
 have h1:(Gs.flatten++O).Nodup:=h.perm.nodup_iff.2 hX;have h2:=(List.nodup_append.1 h1).1;exact h2.sublist (List.sublist_flatten_of_mem hG)
theorem GI.mem{lnk:Nat->Nat->Bool}{X:List Nat}{Gs:List (List Nat)}(h:GI lnk X Gs [])(k:Nat):(∃G∈Gs,k∈G)↔k∈X:=by
 rw[<- h.perm.mem_iff,List.append_nil,List.mem_flatten]
theorem GI.parted{lnk:Nat->Nat->Bool}{ls:List Lk}{c:Ch}{X:List Nat}{Gs:List (List Nat)}(h:GI lnk (X.filter fun k=> !decide ((atC c k).length=1)) Gs [])(hs:∀x y,lnk x y=lnk y x)(hl:∀l∈ls,lnk l.fr l.to=true):Parted ls c X Gs:=by
 refine⟨fun k=>?_,fun l hlm G hG H hH=>?_⟩
 . rw[h.mem,zV];simp
 . have key:∀x y,lnk x y=true->∀G∈Gs,∀H∈Gs,x∈G->y∈H->y∈G:=fun x y hxy G hG H hH hx hy=>by
    obtain⟨i,hi⟩:=List.getElem?_of_mem hG;obtain⟨j,hj⟩:=List.getElem?_of_mem hH;obtain⟨hi1,hi2⟩:=zE.1 hi;obtain⟨hj1,hj2⟩:=zE.1 hj;have hp:=List.pairwise_iff_getElem.1 h.gg;rcases Nat.lt_trichotomy i j with e|e|e
    . have:=hp i j hi1 hj1 e x (by rw[hi2];exact hx) y (by rw[hj2];exact hy);rw[hxy]at this;cases this
    . subst e;rw[hi]at hj;injection hj with hj;rw[hj];exact hy
    . have:=hp j i hj1 hi1 e y (by rw[hj2];exact hy) x (by rw[hi2];exact hx);rw[hs,hxy]at this;cases this
   exact⟨fun hf ht=>key _ _ (hl l hlm) G hG H hH hf ht,fun ht hf=>key _ _ (by rw[hs];exact hl l hlm) G hG H hH ht hf⟩
end Go.Proofs.YtdalcipmpelifaaGreatDoor
