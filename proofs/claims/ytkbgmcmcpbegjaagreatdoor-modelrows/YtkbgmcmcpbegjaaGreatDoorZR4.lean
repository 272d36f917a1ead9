/- XMath, QState, QPlaces, QReqS. -/
import Derived.Test.YtkbgmcmcpbegjaaGreatDoorZR3
set_option maxRecDepth 100000
set_option maxHeartbeats 4000000
namespace Go.Proofs.YtkbgmcmcpbegjaaGreatDoor
open Go.RowKit
structure Lk where
 fr:Nat
 to:Nat
 R:Nat->Nat->Prop
abbrev Ch:=List (List Nat)
def atC(c:Ch)(k:Nat):List Nat:=c.getD k []
theorem jbi(c:Ch){b:Nat}(l:List Nat)(k:Nat)(hb:b<c.length):atC (c.set b l) k=if b=k then l else atC c k:=by
 unfold atC;simp only[List.getD,List.getElem?_set];by_cases e:b=k
 . subst e;simp[hb]
 . rw[if_neg e,if_neg e]
def HC(c:Ch)(a b:Nat)(Q:Nat->Nat->Prop):Prop:=∀v∈atC c b,∃u∈atC c a,Q u v
def AC(ls:List Lk)(c:Ch):Prop:=∀l∈ls,HC c l.fr l.to l.R/\HC c l.to l.fr (fun v u=>l.R u v)
def ACP(ls:List Lk)(D:Nat->Nat->Prop):Prop:=∀l∈ls,(∀v,D l.to v->∃u,D l.fr u/\l.R u v)/\∀u,D l.fr u->∃v,D l.to v/\l.R u v
def InC(D:Nat->Nat->Prop)(c:Ch):Prop:=∀k v,D k v->v∈atC c k
def jkf(ls:List Lk)(c:Ch)(k v:Nat):Prop:=∃D,ACP ls D/\InC D c/\D k v
noncomputable def jkn (ls:List Lk) (c:Ch) (k v:Nat):Bool:=@decide (jkf ls c k v) (Classical.propDecidable _)
theorem jeC{ls:List Lk}{c:Ch}{k v:Nat}:jkn ls c k v=true↔jkf ls c k v:=@decide_eq_true_iff _ (Classical.propDecidable _)
noncomputable def jaH (ls:List Lk) (c:Ch):Ch:=(List.range c.length).map fun k=>(atC c k).filter (jkn ls c k)
theorem jaI(ls:List Lk)(c:Ch):(jaH ls c).length=c.length:=by simp[jaH]
theorem jbC(ls:List Lk)(c:Ch)(k:Nat):atC (jaH ls c) k=(atC c k).filter (jkn ls c k):=by
 unfold jaH atC;rw[List.getD,zI];by_cases h:k<c.length
 . rw[yO h];rfl
 . rw[yE (by simp;omega),List.getD,yE (by omega)];rfl
theorem jbT{ls:List Lk}{c:Ch}{k v:Nat}:v∈atC (jaH ls c) k↔jkf ls c k v:=by
 rw[jbC,zY,jeC];refine⟨fun h=>h.2,fun h=>⟨?_,h⟩⟩;obtain⟨D,_,h2,h3⟩:=h;exact h2 k v h3
theorem jbS{ls:List Lk}{c:Ch}{k v:Nat}(h:v∈atC (jaH ls c) k):v∈atC c k:=by
 rw[jbC,zY]at h;exact h.1
theorem jdb(ls:List Lk)(c:Ch):AC ls (jaH ls c):=fun l hl=>by
 constructor
 . intro v hv;obtain⟨D,h1,h2,h3⟩:=jbT.1 hv;obtain⟨u,hu,hr⟩:=(h1 l hl).1 v h3;exact⟨u,jbT.2 ⟨D,h1,h2,hu⟩,hr⟩
 . intro u hu;obtain⟨D,h1,h2,h3⟩:=jbT.1 hu;obtain⟨v,hv,hr⟩:=(h1 l hl).2 u h3;exact⟨v,jbT.2 ⟨D,h1,h2,hv⟩,hr⟩
theorem jdv{ls:List Lk}{c:Ch}{D:Nat->Nat->Prop}(h1:ACP ls D)(h2:InC D c):InC D (jaH ls c):=fun _ _ h=>jbT.2 ⟨D,h1,h2,h⟩
structure Nw (ls:List Lk) (c0:Ch) (T:List Nat) (c:Ch):Prop where
 len:c.length=c0.length
 flt:∀k,∃p:Nat->Bool,atC c k=(atC c0 k).filter p
 all:∀D,ACP ls D->InC D c0->InC D c
 arc:∀l∈ls,(l.fr∈T\/HC c l.fr l.to l.R)/\(l.to∈T\/HC c l.to l.fr (fun v u=>l.R u v))
theorem Nw.start{ls:List Lk}{c0:Ch}{T:List Nat}(h:∀l∈ls,(l.fr∈T\/HC c0 l.fr l.to l.R)/\(l.to∈T\/HC c0 l.to l.fr (fun v u=>l.R u v))):Nw ls c0 T c0:=
 ⟨rfl,fun _=>⟨fun _=>true,(List.filter_eq_self.2 (fun _ _=>rfl)).symm⟩,fun _ _ h=>h,h⟩
theorem Nw.done{ls:List Lk}{c0 c:Ch}(h:Nw ls c0 [] c):c=jaH ls c0:=by
 have ab:AC ls c:=fun l hl=>by
  obtain⟨h1,h2⟩:=h.arc l hl;exact⟨h1.resolve_left (by simp),h2.resolve_left (by simp)⟩
 have aa:∀k v,v∈atC c k↔jkf ls c0 k v:=fun k v=>by
  constructor
  . intro hv;refine⟨fun j x=>x∈atC c j,fun l hl=>?_,fun j x hx=>?_,hv⟩
    . exact⟨fun v hv=>(ab l hl).1 v hv,fun u hu=>(ab l hl).2 u hu⟩
    . obtain⟨p,hp⟩:=h.flt j;have hx:x∈atC c j:=hx;rw[hp,zY]at hx;exact hx.1
  . rintro⟨D,h1,h2,h3⟩;exact h.all D h1 h2 k v h3
 have ac:∀k,atC c k=atC (jaH ls c0) k:=fun k=>by
  obtain⟨p,hp⟩:=h.flt k;rw[jbC,hp];refine List.filter_congr fun v hv=>?_
  have h1:=aa k v;rw[hp,zY]at h1;cases h2:p v with
  |true=>exact(jeC.2 (h1.1 ⟨hv,h2⟩)).symm
  |false=>
   cases h3:jkn ls c0 k v with
   |false=>rfl
   |true=>
    have:=(h1.2 (jeC.1 h3)).2;rw[h2]at this;cases this
 apply List.ext_getElem?;intro k;by_cases hk:k<c0.length
 . have h1:=ac k;unfold atC at h1;rw[List.getD,List.getD,zB (by rw[h.len];exact hk),zB (by rw[jaI];exact hk)]at h1;rw[zB (by rw[h.len];exact hk),zB (by rw[jaI];exact hk)];simpa using h1
 . rw[yE (by rw[h.len];omega),yE (by rw[jaI];omega)]
noncomputable def jbr (c:Ch) (a:Nat) (Q:Nat->Nat->Prop) (v:Nat):Bool:=@decide (∃u∈atC c a,Q u v) (Classical.propDecidable _)
theorem jcN{c:Ch}{a v:Nat}{Q:Nat->Nat->Prop}:jbr c a Q v=true↔∃u∈atC c a,Q u v:=@decide_eq_true_iff _ (Classical.propDecidable _)
noncomputable def jaC (c:Ch) (a b:Nat) (Q:Nat->Nat->Prop):Ch:=c.set b ((atC c b).filter (jbr c a Q))
theorem jbw{c:Ch}{a b:Nat}{Q:Nat->Nat->Prop}(hb:b<c.length)(k:Nat):atC (jaC c a b Q) k=if b=k then (atC c b).filter (jbr c a Q)else atC c k:=jbi c _ k hb
structure NwA (ls:List Lk) (c0:Ch) (T:List Nat) (a:Nat) (i:Nat) (c:Ch):Prop where
 len:c.length=c0.length
 flt:∀k,∃p:Nat->Bool,atC c k=(atC c0 k).filter p
 all:∀D,ACP ls D->InC D c0->InC D c
 arc:∀j l,ls[j]?=some l->(l.fr∈T\/(l.fr=a/\i<=j)\/HC c l.fr l.to l.R)/\(l.to∈T\/(l.to=a/\i<=j)\/HC c l.to l.fr (fun v u=>l.R u v))
theorem Nw.pop{ls:List Lk}{c0:Ch}{a:Nat}{T:List Nat}{c:Ch}(h:Nw ls c0 (a::T) c):NwA ls c0 T a 0 c:=
 ⟨h.len,h.flt,h.all,fun j l hl=>by
  obtain⟨h1,h2⟩:=h.arc l (zC hl);constructor
  . rcases h1 with h1|h1
    . rcases yB.1 h1 with h1|h1
      . exact .inr (.inl ⟨h1,zO _⟩)
      . exact .inl h1
    . exact .inr (.inr h1)
  . rcases h2 with h2|h2
    . rcases yB.1 h2 with h2|h2
      . exact .inr (.inl ⟨h2,zO _⟩)
      . exact .inl h2
    . exact .inr (.inr h2)⟩
theorem NwA.end_{ls:List Lk}{c0:Ch}{a:Nat}{T:List Nat}{c:Ch}(h:NwA ls c0 T a ls.length c):Nw ls c0 T c:=
 ⟨h.len,h.flt,h.all,fun l hl=>by
  obtain⟨j,hj⟩:=List.getElem?_of_mem hl;have hjl:=(zE.1 hj).1;obtain⟨h1,h2⟩:=h.arc j l hj;constructor
  . rcases h1 with h1|h1|h1
    . exact .inl h1
    . omega
    . exact .inr h1
  . rcases h2 with h2|h2|h2
    . exact .inl h2
    . omega
    . exact .inr h2⟩
theorem HC.strike_other{c:Ch}{a b x y:Nat}{Q S:Nat->Nat->Prop}(hb:b<c.length)(h:HC c x y S)(hx:x≠b):HC (jaC c a b Q) x y S:=fun v hv=>by
 have hv2:v∈atC c y:=by
  rw[jbw hb]at hv;split at hv
  . rename_i e;subst e;exact(zY.1 hv).1
  . exact hv
 obtain⟨u,hu,hr⟩:=h v hv2;refine⟨u,?_,hr⟩;rw[jbw hb,if_neg (fun e=>hx e.symm)];exact hu
theorem HC.strike_self{c:Ch}{a b:Nat}{Q:Nat->Nat->Prop}(hb:b<c.length)(hab:a≠b):HC (jaC c a b Q) a b Q:=fun v hv=>by
 rw[jbw hb,if_pos rfl,zY,jcN]at hv;obtain⟨u,hu,hr⟩:=hv.2;refine⟨u,?_,hr⟩;rw[jbw hb,if_neg (fun e=>hab e.symm)];exact hu
theorem jhi{c:Ch}{a b:Nat}{Q:Nat->Nat->Prop}(hb:b<c.length)(h:((atC c b).filter (jbr c a Q)).length=(atC c b).length):jaC c a b Q=c:=by
 have h1:(atC c b).filter (jbr c a Q)=atC c b:=List.filter_eq_self.2 (List.length_filter_eq_length_iff.1 h);unfold jaC;rw[h1];apply List.ext_getElem?;intro k;rw[List.getElem?_set];by_cases e:b=k
 . subst e;rw[if_pos rfl,if_pos hb];unfold atC;rw[List.getD,zB hb];rfl
 . rw[if_neg e]
theorem je1{c0 c:Ch}{a b:Nat}{Q:Nat->Nat->Prop}(hb:b<c.length)(h:∀k,∃p:Nat->Bool,atC c k=(atC c0 k).filter p):∀k,∃p:Nat->Bool,atC (jaC c a b Q) k=(atC c0 k).filter p:=fun k=>by
 obtain⟨p,hp⟩:=h k;rw[jbw hb];by_cases e:b=k
 . subst e;exact⟨fun v=>jbr c a Q v&&p v,by rw[if_pos rfl,hp,List.filter_filter]⟩
 . exact⟨p,by rw[if_neg e];exact hp⟩
theorem jht{ls:List Lk}{c0 c:Ch}{l:Lk}(hl:l∈ls)(hb:l.to<c.length)(h:∀D,ACP ls D->InC D c0->InC D c):∀D,ACP ls D->InC D c0->InC D (jaC c l.fr l.to l.R):=fun D h1 h2 k v hv=>by
 rw[jbw hb];have h3:=h D h1 h2;by_cases e:l.to=k
 . subst e;rw[if_pos rfl,zY,jcN];obtain⟨u,hu,hr⟩:=(h1 l hl).1 v hv;exact⟨h3 _ v hv,u,h3 _ u hu,hr⟩
 . rw[if_neg e];exact h3 k v hv
theorem jhA{ls:List Lk}{c0 c:Ch}{l:Lk}(hl:l∈ls)(hb:l.fr<c.length)(h:∀D,ACP ls D->InC D c0->InC D c):∀D,ACP ls D->InC D c0->InC D (jaC c l.to l.fr (fun v u=>l.R u v)):=fun D h1 h2 k v hv=>by
 rw[jbw hb];have h3:=h D h1 h2;by_cases e:l.fr=k
 . subst e;rw[if_pos rfl,zY,jcN];obtain⟨u,hu,hr⟩:=(h1 l hl).2 v hv;exact⟨h3 _ v hv,u,h3 _ u hu,hr⟩
 . rw[if_neg e];exact h3 k v hv
def jb1(ls:List Lk)(c:Ch)(X:List Nat):Prop:=∃s:Nat->Nat,(∀k∈X,s k∈atC c k)/\∀l∈ls,l.fr∈X->l.to∈X->l.R (s l.fr) (s l.to)
def Iso(ls:List Lk)(c:Ch)(X:List Nat):Prop:=∀l∈ls,(l.fr∈X->l.to∉X->(atC c l.to).length<=1)/\(l.to∈X->l.fr∉X->(atC c l.fr).length<=1)
noncomputable def jas (ls:List Lk) (c:Ch) (k v:Nat):Ch:=jaH ls (c.set k [v])
theorem jer{l:List Nat}(h:l.length<=1){x y:Nat}(hx:x∈l)(hy:y∈l):x=y:=by
 match l,h with
 |[],_=>simp at hx
 |[a],_=>rw[zK.1 hx,zK.1 hy]
theorem jik{ls:List Lk}(hne:∀l∈ls,l.fr≠l.to){c:Ch}(hac:AC ls c){g:Nat}{rest:List Nat}(hnd:(g::rest).Nodup)(hg:g<c.length)(hi:Iso ls c (g::rest)):jb1 ls c (g::rest)↔∃v∈atC c g,jb1 ls (jas ls c g v) rest:=by
 have hgr:g∉rest:=(List.nodup_cons.1 hnd).1;constructor
 . rintro⟨s,h1,h2⟩;refine⟨s g,h1 g (zN ..),s,fun k hk=>?_,fun l hl hf ht=>h2 l hl (zR _ hf) (zR _ ht)⟩;have hD:ACP ls (fun k x=>(k∈g::rest/\x=s k)\/(k∉g::rest/\x∈atC c k)):=fun l hl=>by
    obtain⟨a1,a2⟩:=hac l hl;obtain⟨i1,i2⟩:=hi l hl;constructor
    . intro v hv;by_cases hf:l.fr∈g::rest
      . refine⟨s l.fr,.inl ⟨hf,rfl⟩,?_⟩;rcases hv with⟨ht,rfl⟩|⟨ht,hv⟩
        . exact h2 l hl hf ht
        . obtain⟨v',ae,hr⟩:=a2 (s l.fr) (h1 _ hf);rw[jer (i1 hf ht) hv ae];exact hr
      . rcases hv with⟨ht,rfl⟩|⟨ht,hv⟩
        . obtain⟨u,hu,hr⟩:=a1 (s l.to) (h1 _ ht);exact⟨u,.inr ⟨hf,hu⟩,hr⟩
        . obtain⟨u,hu,hr⟩:=a1 v hv;exact⟨u,.inr ⟨hf,hu⟩,hr⟩
    . intro u hu;by_cases ht:l.to∈g::rest
      . refine⟨s l.to,.inl ⟨ht,rfl⟩,?_⟩;rcases hu with⟨hf,rfl⟩|⟨hf,hu⟩
        . exact h2 l hl hf ht
        . obtain⟨u',ah,hr⟩:=a1 (s l.to) (h1 _ ht);rw[jer (i2 ht hf) hu ah];exact hr
      . rcases hu with⟨hf,rfl⟩|⟨hf,hu⟩
        . obtain⟨v,hv,hr⟩:=a2 (s l.fr) (h1 _ hf);exact⟨v,.inr ⟨ht,hv⟩,hr⟩
        . obtain⟨v,hv,hr⟩:=a2 u hu;exact⟨v,.inr ⟨ht,hv⟩,hr⟩
   have ag:InC (fun k x=>(k∈g::rest/\x=s k)\/(k∉g::rest/\x∈atC c k)) (c.set g [s g]):=fun j x hx=>by
    rw[jbi c _ j hg];by_cases e:g=j
    . subst e;rw[if_pos rfl];rcases hx with⟨_,rfl⟩|⟨h,_⟩
      . simp
      . exact absurd (zN ..) h
    . rw[if_neg e];rcases hx with⟨hj,rfl⟩|⟨_,hx⟩
      . exact h1 j hj
      . exact hx
   exact jdv hD ag k (s k) (.inl ⟨zR _ hk,rfl⟩)
 . rintro⟨v,hv,s,h1,h2⟩;have aa:=jdb ls (c.set g [v]);have ab:∀k x,x∈atC (jas ls c g v) k->k≠g->x∈atC c k:=fun k x hx hk=>by
    have:=jbS hx;rw[jbi c _ k hg,if_neg (fun e=>hk e.symm)]at this;exact this
   have ad:∀x,x∈atC (jas ls c g v) g->x=v:=fun x hx=>by
    have:=jbS hx;rw[jbi c _ g hg,if_pos rfl]at this;exact zK.1 this
   refine⟨fun k=>if k=g then v else s k,fun k hk=>?_,fun l hl hf ht=>?_⟩
   . by_cases e:k=g
     . subst e;simp only[if_pos];exact hv
     . simp only[if_neg e];rcases yB.1 hk with hk|hk
       . exact absurd hk e
       . exact ab k _ (h1 k hk) e
   . obtain⟨a1,a2⟩:=aa l hl;by_cases ef:l.fr=g
     . have et:l.to≠g:=fun e=>hne l hl (ef.trans e.symm)
       have af:l.to∈rest:=(yB.1 ht).resolve_left et;simp only[if_pos ef,if_neg et];obtain⟨u,hu,hr⟩:=a1 (s l.to) (h1 _ af);rw[ef]at hu;rw[ad u hu]at hr;exact hr
     . have ac:l.fr∈rest:=(yB.1 hf).resolve_left ef;by_cases et:l.to=g
       . simp only[if_neg ef,if_pos et];obtain⟨u,hu,hr⟩:=a2 (s l.fr) (h1 _ ac);rw[et]at hu;rw[ad u hu]at hr;exact hr
       . simp only[if_neg ef,if_neg et];exact h2 l hl ac ((yB.1 ht).resolve_left et)
theorem jjS{l:List Nat}(p:Nat->Bool)(h:l.length<=1):(l.filter p).length<=1:=zT (yH _ _) h
theorem jiu{ls:List Lk}{c:Ch}{g v:Nat}{rest:List Nat}(hg:g<c.length)(hi:Iso ls c (g::rest)):Iso ls (jas ls c g v) rest:=fun l hl=>by
 obtain⟨h1,h2⟩:=hi l hl;have hat:∀k,k≠g->(atC c k).length<=1->(atC (jas ls c g v) k).length<=1:=fun k hk h=>by
  rw[jas,jbC,jbi c _ k hg,if_neg (fun e=>hk e.symm)];exact jjS _ h
 have hgl:(atC (jas ls c g v) g).length<=1:=by
  rw[jas,jbC,jbi c _ g hg,if_pos rfl];exact jjS _ (by simp)
 constructor
 . intro hf ht;by_cases e:l.to=g
   . rw[e];exact hgl
   . exact hat _ e (h1 (zR _ hf) (fun h=>(yB.1 h).elim e ht))
 . intro ht hf;by_cases e:l.fr=g
   . rw[e];exact hgl
   . exact hat _ e (h2 (zR _ ht) (fun h=>(yB.1 h).elim e hf))
structure jgl (ls:List Lk) (c:Ch) (X:List Nat) (Gs:List (List Nat)):Prop where
 mem:∀k,(∃G∈Gs,k∈G)↔k∈X/\(atC c k).length≠1
 link:∀l∈ls,∀G∈Gs,∀H∈Gs,(l.fr∈G->l.to∈H->l.to∈G)/\(l.to∈G->l.fr∈H->l.fr∈G)
theorem jgl.iso{ls:List Lk}{c:Ch}{X:List Nat}{Gs:List (List Nat)}(h:jgl ls c X Gs)(hi:Iso ls c X){G:List Nat}(hG:G∈Gs):Iso ls c G:=fun l hl=>by
 obtain⟨h1,h2⟩:=hi l hl;constructor
 . intro hf ht;have hfX:=((h.mem l.fr).1 ⟨G,hG,hf⟩).1;by_cases htX:l.to∈X
   . by_cases e:(atC c l.to).length=1
     . omega
     . obtain⟨H,hH,htH⟩:=(h.mem l.to).2 ⟨htX,e⟩;exact absurd ((h.link l hl G hG H hH).1 hf htH) ht
   . exact h1 hfX htX
 . intro ht hf;have htX:=((h.mem l.to).1 ⟨G,hG,ht⟩).1;by_cases hfX:l.fr∈X
   . by_cases e:(atC c l.fr).length=1
     . omega
     . obtain⟨H,hH,hfH⟩:=(h.mem l.fr).2 ⟨hfX,e⟩;exact absurd ((h.link l hl G hG H hH).2 ht hfH) hf
   . exact h2 htX hfX
theorem jjy{ls:List Lk}{c:Ch}(hac:AC ls c){X:List Nat}{Gs:List (List Nat)}(h:jgl ls c X Gs):jb1 ls c X↔∀G∈Gs,jb1 ls c G:=by
 constructor
 . rintro⟨s,h1,h2⟩ G hG;have af:∀k∈G,k∈X:=fun k hk=>((h.mem k).1 ⟨G,hG,hk⟩).1
   exact⟨s,fun k hk=>h1 k (af k hk),fun l hl hf ht=>h2 l hl (af _ hf) (af _ ht)⟩
 . intro hG;have ao:∀k,∃x,k∈X->x∈atC c k/\∀G∈Gs,k∈G->True:=fun k=>by
    by_cases hk:k∈X
    . by_cases e:(atC c k).length=1
      . obtain⟨x,hx⟩:=List.length_eq_one_iff.1 e;exact⟨x,fun _=>⟨by rw[hx];simp,fun _ _ _=>trivial⟩⟩
      . obtain⟨G,ae,am⟩:=(h.mem k).2 ⟨hk,e⟩;obtain⟨s,h1,_⟩:=hG G ae;exact⟨s k,fun _=>⟨h1 k am,fun _ _ _=>trivial⟩⟩
    . exact⟨0,fun h=>absurd h hk⟩
   -- of each group a solution of its own;where two groups share a slot they are linked alike: the first group that has it
   have ab:∀G,∃s:Nat->Nat,G∈Gs->(∀k∈G,s k∈atC c k)/\∀l∈ls,l.fr∈G->l.to∈G->l.R (s l.fr) (s l.to):=fun G=>by
    by_cases ae:G∈Gs
    . obtain⟨s,h1,h2⟩:=hG G ae;exact⟨s,fun _=>⟨h1,h2⟩⟩
    . exact⟨fun _=>0,fun h=>absurd h ae⟩
   obtain⟨ag,ab⟩:=Classical.axiomOfChoice ab;obtain⟨ak,ac⟩:=Classical.axiomOfChoice ao;let grp:Nat->Option (List Nat):=fun k=>Gs.find? (fun G=>decide (k∈G))
   have aa:∀k G,grp k=some G->G∈Gs/\k∈G:=fun k G e=>⟨List.mem_of_find?_eq_some e,of_decide_eq_true (List.find?_some (p:=fun G=>decide (k∈G)) e)⟩
   have ai:∀k,grp k=none->∀G∈Gs,k∉G:=fun k e G ae hk=>by
    have:=List.find?_eq_none.1 e G ae;exact this (zU hk)
   have aj:∀l∈ls,∀G H,grp l.fr=some G->grp l.to=some H->G=H:=fun l hl G H e1 e2=>by
    obtain⟨ap,hf⟩:=aa _ _ e1;obtain⟨an,ht⟩:=aa _ _ e2
    -- both slots lie in just the same groups
    have al:∀K∈Gs,(l.fr∈K↔l.to∈K):=fun K hK=>⟨fun h1=>(h.link l hl K hK H an).1 h1 ht,fun h1=>(h.link l hl K hK G ap).2 h1 hf⟩
    have ah:∀Ks:List (List Nat),(∀K∈Ks,K∈Gs)->Ks.find? (fun G=>decide (l.fr∈G))=Ks.find? (fun G=>decide (l.to∈G)):=by
     intro Ks;induction Ks with
     |nil=>intro _;rfl
     |cons K Ks ih=>
      intro hK;have:=al K (hK K (zN ..));rw[List.find?_cons,List.find?_cons,ih (fun K' h'=>hK K' (zR _ h'))];by_cases h1:l.fr∈K
      . rw[zU h1,zU (this.1 h1)]
      . rw[decide_eq_false h1,decide_eq_false (fun h2=>h1 (this.2 h2))]
    have h3:=ah Gs (fun _ h=>h);have h4:grp l.fr=grp l.to:=h3;rw[e1,e2]at h4;injection h4
   refine⟨fun k=>match grp k with|some G=>ag G k|none=>ak k,fun k hk=>?_,fun l hl hf ht=>?_⟩
   . show (match grp k with|some G=>ag G k|none=>ak k)∈atC c k;cases e:grp k with
     |none=>exact(ac k hk).1
     |some G=>exact(ab G (aa k G e).1).1 k (aa k G e).2
   . obtain⟨a1,a2⟩:=hac l hl;show l.R (match grp l.fr with|some G=>ag G l.fr|none=>ak l.fr) (match grp l.to with|some G=>ag G l.to|none=>ak l.to);have ad:∀k,k∈X->grp k=none->(atC c k).length<=1:=fun k hk e=>by
      by_cases h1:(atC c k).length=1
      . omega
      . obtain⟨G,ae,am⟩:=(h.mem k).2 ⟨hk,h1⟩;exact absurd am (ai k e G ae)
     cases e1:grp l.fr with
     |none=>
      cases e2:grp l.to with
      |none=>
       obtain⟨u,hu,hr⟩:=a1 (ak l.to) (ac l.to ht).1;rw[jer (ad l.fr hf e1) (ac l.fr hf).1 hu];exact hr
      |some H=>
       obtain⟨u,hu,hr⟩:=a1 (ag H l.to) ((ab H (aa _ _ e2).1).1 _ (aa _ _ e2).2);rw[jer (ad l.fr hf e1) (ac l.fr hf).1 hu];exact hr
     |some G=>
      cases e2:grp l.to with
      |none=>
       obtain⟨v,hv,hr⟩:=a2 (ag G l.fr) ((ab G (aa _ _ e1).1).1 _ (aa _ _ e1).2);rw[jer (ad l.to ht e2) (ac l.to ht).1 hv];exact hr
      |some H=>
       have e3:=aj l hl G H e1 e2;subst e3;exact(ab G (aa _ _ e1).1).2 l hl (aa _ _ e1).2 (aa _ _ e2).2
abbrev csN(x:Vt):List Value:=[.int .i64 x.kind,.string ⟨x.word.toArray⟩,x.val]
abbrev encN(x:Vt):Value:=.agg #[.int .i64 x.kind,.string ⟨x.word.toArray⟩,x.val]
theorem jjh(x:Vt):(csN x).length=3:=rfl
abbrev NodS:=SlS csN 3
def VOk(S:Nat->Prop)(w:World):Vt->Prop
 |⟨_,wd,v,l⟩=>NodS S w v l/\wd.length<=9223372036854775807/\l.length<=9223372036854775807/\∀x,x∈l->VOk S w x
theorem jbV{S:Nat->Prop}{w:World}{k:Int}{wd:List UInt8}{v:Value}{l:List Vt}:VOk S w ⟨k,wd,v,l⟩↔NodS S w v l/\wd.length<=9223372036854775807/\l.length<=9223372036854775807/\∀x,x∈l->VOk S w x:=by rw[VOk]
theorem VOk.parts{S:Nat->Prop}{w:World}{t:Vt}(h:VOk S w t):NodS S w t.val t.kids/\t.word.length<=9223372036854775807/\t.kids.length<=9223372036854775807/\∀x,x∈t.kids->VOk S w x:=by
 obtain⟨k,wd,v,l⟩:=t;exact jbV.1 h
theorem VOk.keep{S T:Nat->Prop}{w w':World}(hz:w.heap.size<=w'.heap.size)(hk:∀b,S b->b<w.heap.size->T b/\w'.heap[b]?=w.heap[b]?):∀t:Vt,VOk S w t->VOk T w' t:=
 Vt.ind (fun _ _ _ _ ih h=>by
  obtain⟨h1,h2,h3,h4⟩:=jbV.1 h;exact jbV.2 ⟨h1.keep hz hk,h2,h3,fun x hx=>ih x hx (h4 x hx)⟩)
theorem VOk.below{S:Nat->Prop}{w w':World}{t:Vt}(h:VOk S w t)(hb:Below w.heap.size w w'):VOk S w' t:=VOk.keep hb.size (fun b hs hl=>⟨hs,hb.block b hl⟩) t h
theorem VOk.fr{S:Nat->Prop}{w w':World}{t:Vt}(h:VOk S w t)(hf:Fr S w w'):VOk S w' t:=VOk.keep hf.size (fun b hs _=>⟨hs,hf.block b hs⟩) t h
theorem VOk.sub{S T:Nat->Prop}{w:World}{t:Vt}(h:VOk S w t)(hs:∀b,S b->b<w.heap.size->T b):VOk T w t:=VOk.keep (zD _) (fun b hb hl=>⟨hs b hb hl,rfl⟩) t h
theorem getN{w:World}{g o:Nat}{t:Vt}(h:∀(c:Nat) u,(csN t)[c]?=some u->w.cell? ⟨g,o+c,none⟩=some u):w.cell? ⟨g,o,none⟩=some (.int .i64 t.kind)/\w.cell? ⟨g,o+1,none⟩=some (.string ⟨t.word.toArray⟩)/\w.cell? ⟨g,o+2,none⟩=some t.val:=
 ⟨h 0 _ rfl,h 1 _ rfl,h 2 _ rfl⟩
theorem jmm:(Tryz.prog.info? 25).map (fun i=>(i.zero,i.size,i.bytes))=some (some (.agg #[.int .i64 0,.string ⟨#[]⟩,.slice none 0 0]),3,48):=by kernel_rfl
abbrev csT(s:List UInt8):List Value:=[.string ⟨s.toArray⟩]
abbrev TxtS:=SlS csT 1
def CapS(v:Value)(n:Nat):Prop:=∃ao cap,v=.slice ao n cap/\n<=cap
theorem jdG(s:List UInt8)(w:World):Calls Tryz.prog 128 #[.string ⟨s.toArray⟩] w fun e w'=>e=.returned (.bool (isW s))/\w'=w:=by
 have:=jmh ⟨s.toArray⟩ w;simpa using this
theorem jbd{l:List UInt8}(h:l≠[]):l.isEmpty=false:=by cases l with
 |nil=>exact absurd rfl h
 |cons=>rfl
theorem jdz(k:Int):k=1\/k=2\/k=3\/k=4\/k=5\/k=6\/(k≠1/\k≠2/\k≠3/\k≠4/\k≠5/\k≠6):=by omega
theorem jaj{a b:Int}(h:a≠b):¬a=b/\(a==b)=false:=⟨h,beq_eq_false_iff_ne.2 h⟩
theorem jg4{S:Nat->Prop}{w:World}{t:Vt}(h:VOk S w t):
 Calls Tryz.prog 157 #[encN t] w fun e w'=>e=.returned (.bool (jam t.kind t.word t.kids.length))/\Below w.heap.size w w':=by
 obtain⟨h1,_,ac,_⟩:=h.parts;obtain⟨ao,cap,hv⟩:=h1.slice;obtain⟨k,wd,v,l⟩:=t;dsimp only at h1 ac hv ⊢;subst hv;have HI:=zA (jdG wd);obtain⟨m,hm⟩:=eX (isW wd);rw[<- hm]at HI;have HM:=zA hm;obtain⟨n,hn⟩:=eX l.length;rw[<- hn]at ac ⊢;obtain⟨aa,ab⟩:=eX (jam k wd n);rw[<- ab];have HA:=zA ab;have HB:Hid (∀a:Obj,Below w.heap.size w (w.alloc a)):=zA (fun a=>(zF _ _).alloc (zD _) _);clear h h1 hm hn ab;rcases jdz k with rfl|rfl|rfl|rfl|rfl|rfl|⟨k1,k2,k3,k4,k5,k6⟩
 . by_cases h0:n=0
   . subst h0;have HF:Hid (aa=m):=zA (by rw[HA.out,HM.out];simp[jam]);go_enter Tryz.func157,Tryz.ntmps157;go_wp2_with fail;refine(HI.out _).mono ?_;rintro e w1 ⟨rfl,hw⟩;subst hw;go_wp2;go_ret;exact⟨by rw[HF.out];rfl,HB.out _⟩
   . obtain⟨e1,e2⟩:=jaj (a:=(n:Int)) (b:=0) (by omega);have HF:Hid (aa=false):=zA (by rw[HA.out];simp[jam,h0]);clear h0;go_enter Tryz.func157,Tryz.ntmps157;go_wp2;go_ret;exact⟨by rw[HF.out];rfl,HB.out _⟩
 case inr.inr.inr.inr.inr.inr=>
  obtain⟨a1,b1⟩:=jaj k1;obtain⟨a2,b2⟩:=jaj k2;obtain⟨a3,b3⟩:=jaj k3;obtain⟨a4,b4⟩:=jaj k4;obtain⟨a5,b5⟩:=jaj k5;obtain⟨a6,b6⟩:=jaj k6;have HF:Hid (aa=false):=zA (by rw[HA.out];simp[jam,a1,a2,a3,a4,a5,a6]);clear k1 k2 k3 k4 k5 k6;go_enter Tryz.func157,Tryz.ntmps157;go_wp2;go_ret;exact⟨by rw[HF.out];rfl,HB.out _⟩
 case inr.inl=>
  by_cases h2:2<=n
  . have e1:(2:Int)<=(n:Int):=by omega
    by_cases hw:wd=[]
    . subst hw;have HF:Hid (aa=true):=zA (by rw[HA.out];simp[jam,h2]);go_enter Tryz.func157,Tryz.ntmps157;go_wp2;go_ret;exact⟨by rw[HF.out];rfl,HB.out _⟩
    . have e2:=jbd hw;have e3:(wd==[])=false:=by simpa using hw
      have HF:Hid (aa=false):=zA (by rw[HA.out];simp[jam,hw]);go_enter Tryz.func157,Tryz.ntmps157;go_wp2;go_ret;exact⟨by rw[HF.out];rfl,HB.out _⟩
  . have e1:¬(2:Int)<=(n:Int):=by omega
    have HF:Hid (aa=false):=zA (by rw[HA.out];simp[jam,h2]);clear h2;go_enter Tryz.func157,Tryz.ntmps157;go_wp2;go_ret;exact⟨by rw[HF.out];rfl,HB.out _⟩
 case inr.inr.inl=>
  by_cases h2:2<=n
  . have e1:(2:Int)<=(n:Int):=by omega
    by_cases hw:wd=[]
    . subst hw;have HF:Hid (aa=true):=zA (by rw[HA.out];simp[jam,h2]);go_enter Tryz.func157,Tryz.ntmps157;go_wp2;go_ret;exact⟨by rw[HF.out];rfl,HB.out _⟩
    . have e2:=jbd hw;have e3:(wd==[])=false:=by simpa using hw
      have HF:Hid (aa=false):=zA (by rw[HA.out];simp[jam,hw]);go_enter Tryz.func157,Tryz.ntmps157;go_wp2;go_ret;exact⟨by rw[HF.out];rfl,HB.out _⟩
  . have e1:¬(2:Int)<=(n:Int):=by omega
    have HF:Hid (aa=false):=zA (by rw[HA.out];simp[jam,h2]);clear h2;go_enter Tryz.func157,Tryz.ntmps157;go_wp2;go_ret;exact⟨by rw[HF.out];rfl,HB.out _⟩
 all_goals (
  by_cases h2:n=1
  . subst h2;by_cases hw:wd=[]
    . subst hw;have HF:Hid (aa=true):=zA (by rw[HA.out];simp[jam]);go_enter Tryz.func157,Tryz.ntmps157;go_wp2;go_ret;exact⟨by rw[HF.out];rfl,HB.out _⟩
    . have e2:=jbd hw;have e3:(wd==[])=false:=by simpa using hw
      have HF:Hid (aa=false):=zA (by rw[HA.out];simp[jam,hw]);go_enter Tryz.func157,Tryz.ntmps157;go_wp2;go_ret;exact⟨by rw[HF.out];rfl,HB.out _⟩
  . obtain⟨e1,e2⟩:=jaj (a:=(n:Int)) (b:=1) (by omega);have HF:Hid (aa=false):=zA (by rw[HA.out];simp[jam,h2]);clear h2;go_enter Tryz.func157,Tryz.ntmps157;go_wp2;go_ret;exact⟨by rw[HF.out];rfl,HB.out _⟩)
theorem jf4{f:Pt->Nat}{l:List Vt}{i:Nat}{x:Vt}(h:l[i]?=some x):((l.map Vt.pt).take (i+1)).map f=((l.map Vt.pt).take i).map f++[f x.pt]:=by
 rw[zS,zI,h];simp
theorem jhK{f:Pt->Nat}(l:List Pt)(i:Nat):((l.take i).map f).sum<=(l.map f).sum:=by
 induction l generalizing i with
 |nil=>simp
 |cons y l ih=>
  cases i with
  |zero=>simp
  |succ i=>
   have:=ih i;simp only[List.take_succ_cons,List.map_cons,List.sum_cons];omega
theorem jiF{S:Nat->Prop}:∀(t:Vt) (d:Nat) (dp:Int) (w:World),d<=12->dp+d=13->VOk S w t->
 Calls Tryz.prog 152 #[encN t,.int .i64 dp] w fun e w'=>e=.returned (.int .i64 (plP d t.pt:Int))/\Below w.heap.size w w':=by
 refine Vt.ind (fun k wd v l ih=>?_);intro d dp w af hd aw;have ag:=zA (fun u (hu:Below w.heap.size w u)=>jg4 (aw.below hu));obtain⟨h1,h2,h3,h4⟩:=jbV.1 aw;obtain⟨ao,ai,hv⟩:=h1.slice;subst hv;have H1:=zA h1;have H4:=zA h4;have IH:=zA ih;have HB:Hid (∀a:Obj,Below w.heap.size w (w.alloc a)):=zA (fun a=>(zF _ _).alloc (zD _) _);rw[Vt.pt_mk];dsimp only at ag;obtain⟨n,hn⟩:=eX l.length;rw[<- hn]at h3 H1 ag ⊢;have HN:=zA hn;clear h1 h4 ih aw hn;cases d with
 |zero=>
  obtain rfl:dp=13:=by omega
  clear hd af;go_enter Tryz.func152,Tryz.ntmps152;go_wp2;go_ret;exact⟨rfl,HB.out _⟩
 |succ d=>
  have hdI:¬(12:Int)<dp:=by omega
  have hdp1:1<=dp:=by omega
  have hdp2:dp<=12:=by omega
  have HD:=zA hd;have au:=zA af;clear hd af;obtain⟨aj,ae⟩:=eX (plP (d+1) ⟨k,wd,l.map Vt.pt⟩);rw[<- ae];have HA:=zA ae;obtain⟨m,hm⟩:=eX (jam k wd n);rw[<- hm]at ag;have HM:Hid (jam k wd (l.map Vt.pt).length=m):=zA (by rw[zH,<- HN.out,hm]);clear ae hm;cases m with
  |false=>
   have HR:Hid (aj=25):=zA (by rw[HA.out,plP,HM.out];rfl);go_enter Tryz.func152,Tryz.ntmps152;go_wp2_with fail;refine(ag.out _ (HB.out _)).mono ?_;rintro e w1 ⟨rfl,ad⟩;go_wp2;go_ret;exact⟨by rw[HR.out];rfl,(HB.out _).trans (ad.mono (by simp))⟩
  |true=>
   by_cases hk:k=1
   . subst hk;have HR:Hid (aj=1):=zA (by rw[HA.out,plP,HM.out];rfl);obtain⟨wb,aa⟩:=eX (w.alloc (.cells #[.int .i64 1,.string ⟨wd.toArray⟩,.slice ao n ai] 25));have HC:Hid (∀w1:World,Below wb.heap.size wb w1->w1.cell? ⟨w.heap.size,0,none⟩=some (.int .i64 1)):=zA (fun w1 hb=>by
      have h:=hb.block w.heap.size (by rw[aa];simp);rw[aa,heap_alloc_new]at h;simp[World.cell?,h])
     have ab:=zA (HB.out (.cells #[.int .i64 1,.string ⟨wd.toArray⟩,.slice ao n ai] 25));rw[<- aa]at ab;have ap:=zA aa;have ar:=zA (ag.out _ ab.out);go_enter Tryz.func152,Tryz.ntmps152;go_wp2_with fail;rw[<- ap.out];refine ar.out.mono ?_;rintro e w1 ⟨rfl,ad⟩;have c1:=HC.out w1 ad;go_wp2;go_ret;exact⟨by rw[HR.out];rfl,ab.out.trans (ad.mono ab.out.size)⟩
   . obtain⟨k1,k2⟩:=jaj hk;have HR:Hid (aj=min 25 ((l.map Vt.pt).map (plP d)).sum):=zA (by rw[HA.out,plP,HM.out];simp[hk]);obtain⟨wb,aa⟩:=eX (w.alloc (.cells #[.int .i64 k,.string ⟨wd.toArray⟩,.slice ao n ai] 25));have HC:Hid (∀w1:World,Below wb.heap.size wb w1->w1.cell? ⟨w.heap.size,0,none⟩=some (.int .i64 k)/\w1.cell? ⟨w.heap.size,2,none⟩=some (.slice ao n ai)):=zA (fun w1 hb=>by
      have h:=hb.block w.heap.size (by rw[aa];simp);rw[aa,heap_alloc_new]at h;exact⟨by simp[World.cell?,h],by simp[World.cell?,h]⟩)
     have ab:=zA (HB.out (.cells #[.int .i64 k,.string ⟨wd.toArray⟩,.slice ao n ai] 25));rw[<- aa]at ab;have ap:=zA aa;have ar:=zA (ag.out _ ab.out);clear hk aa;go_enter Tryz.func152,Tryz.ntmps152;go_wp2_with fail;rw[<- ap.out];refine ar.out.mono ?_;rintro e w1 ⟨rfl,ad⟩;obtain⟨c1,c2⟩:=HC.out w1 ad;have aF:=zA (ab.out.trans (ad.mono ab.out.size));clear ad;go_wp2_with fail;go_loopw [5,21] (fun s c wr=>∃i z:Nat,i<=n/\c=.int .i64 i/\s=.int .i64 z/\z<=24/\z=(((l.map Vt.pt).take i).map (plP d)).sum/\Below w.heap.size w wr) (fun _ c _=>n-(intOf c).toNat)
     case atStart=>exact⟨0,0,zO _,rfl,rfl,by omega,by simp,aF.out⟩
     case round=>
      obtain⟨i,z,hi,rfl,rfl,hz,ax,aA⟩:=hrel;have HZ:=zA ax;have ah:=zA aA;clear ax aA;by_cases hlt:i<n
      . have an:(i:Int)<(n:Int):=by omega
        obtain⟨x,hx⟩:∃x,l[i]?=some x:=⟨_,zB (by rw[<- HN.out];exact hlt)⟩
        obtain⟨g,off,rfl,_,_,ac⟩:=(H1.out.below ah.out).get hx;obtain⟨q0,q1,q2⟩:=getN ac;have al:=zC hx;have HX:=zA hx;have aq:=zA (fun u (hu:Below w.heap.size w u)=>IH.out x al d (dp+1) u (by have:=au.out;omega) (by have:=HD.out;omega) ((H4.out x al).below hu));obtain⟨p,hp⟩:=eX (plP d x.pt);rw[<- hp]at aq;have hp25:p<=25:=by rw[hp];exact jl4 _ _
        have HP:=zA hp;obtain⟨wx,aD⟩:=eX wr;subst aD;have ak:Hid (∀a:Obj,Below w.heap.size w (wx.alloc a)):=zA (fun a=>ah.out.alloc ah.out.size _);have az:Hid (z+p=(((l.map Vt.pt).take (i+1)).map (plP d)).sum):=zA (by rw[jf4 HX.out,List.sum_append,<- HZ.out,<- HP.out];simp);obtain⟨xa,xc,av⟩:=(H4.out x al).parts.1.slice;obtain⟨xn,ay⟩:=eX x.kids.length;rw[<- ay]at av;obtain⟨xk,xw,xv,xl⟩:=x;dsimp only at q0 q1 q2 av;subst av;clear ay hx ac hp al;by_cases hbig:25<=z+p
        . have aB:(25:Int)<=(z:Int)+(p:Int):=by omega
          have HE:Hid (aj=25):=zA (by
           rw[HR.out];have:=jhK (f:=plP d) (l.map Vt.pt) (i+1);rw[<- az.out]at this;omega)
          clear hbig;go_wp2_with fail;refine(aq.out _ (ak.out _)).mono ?_;rintro e w2 ⟨rfl,am⟩;go_wp2;go_ret;exact⟨by rw[HE.out];rfl,(ak.out _).trans (am.mono (by have:=ah.out.size;simp;omega))⟩
        . have aB:¬(25:Int)<=(z:Int)+(p:Int):=by omega
          go_wp2_with fail;refine(aq.out _ (ak.out _)).mono ?_;rintro e w2 ⟨rfl,am⟩;have aE:Hid (Below w.heap.size w w2):=zA ((ak.out _).trans (am.mono (by have:=ah.out.size;simp;omega)));clear am;go_wp2;go_roundw
          case rel=>exact⟨i+1,z+p,by omega,by go_num,by go_num,by omega,az.out,aE.out⟩
          case measure=>simp[intOf];omega
      . have aC:i=n:=by omega
        have an:¬(i:Int)<(n:Int):=by omega
        have HE:Hid (aj=z):=zA (by
         rw[HR.out];have:=HZ.out;rw[zJ (by rw[zH,<- HN.out];omega)]at this;omega)
        clear aC;go_wp2;go_ret;exact⟨by rw[HE.out];rfl,ah.out⟩
theorem jfR{S:Nat->Prop}{w:World}{t:Vt}(h:VOk S w t):
 Calls Tryz.prog 143 #[encN t] w fun e w'=>e=.returned (.bool (mayP t.pt))/\Below w.heap.size w w':=by
 have HC:=zA (fun u (hu:Below w.heap.size w u)=>jiF t 12 1 u (zD _) rfl (h.below hu));have HB:Hid (∀a:Obj,Below w.heap.size w (w.alloc a)):=zA (fun a=>(zF _ _).alloc (zD _) _);obtain⟨ao,cap,hv⟩:=h.parts.1.slice;obtain⟨ac,aa⟩:=eX (mayP t.pt);rw[<- aa];have HA:Hid (ac=decide (plP 12 t.pt<25)):=zA (by rw[aa,jlo]);obtain⟨p,hp⟩:=eX (plP 12 t.pt);rw[<- hp]at HC HA;obtain⟨k,wd,v,l⟩:=t;dsimp only at hv HC;subst hv;clear aa h hp;by_cases hlt:p<25
 . have hI:(p:Int)<25:=by omega
   have HE:Hid (ac=true):=zA (by rw[HA.out];simpa using hlt);go_enter Tryz.func143,Tryz.ntmps143;go_wp2_with fail;refine(HC.out _ (HB.out _)).mono ?_;rintro e w2 ⟨rfl,ab⟩;go_wp2;go_ret;exact⟨by rw[HE.out];rfl,(HB.out _).trans (ab.mono (by simp))⟩
 . have hI:¬(p:Int)<25:=by omega
   have HE:Hid (ac=false):=zA (by rw[HA.out];simpa using hlt);go_enter Tryz.func143,Tryz.ntmps143;go_wp2_with fail;refine(HC.out _ (HB.out _)).mono ?_;rintro e w2 ⟨rfl,ab⟩;go_wp2;go_ret;exact⟨by rw[HE.out];simp;omega,(HB.out _).trans (ab.mono (by simp))⟩
abbrev Tm:=Bool×List UInt8
abbrev Am:=Tm×Vt×Tm
abbrev csA(a:Am):List Value:=[.bool a.1.1,.string ⟨a.1.2.toArray⟩,.int .i64 a.2.1.kind,.string ⟨a.2.1.word.toArray⟩,a.2.1.val,.bool a.2.2.1,.string ⟨a.2.2.2.toArray⟩]
theorem jj2(x:Am):(csA x).length=7:=rfl
abbrev AtsS:=SlS csA 7
abbrev Cg:=Bool×List UInt8×List UInt8×List UInt8
abbrev csC(c:Cg):List Value:=[.bool c.1,.string ⟨c.2.1.toArray⟩,.string ⟨c.2.2.1.toArray⟩,.string ⟨c.2.2.2.toArray⟩]
abbrev CgsS:=SlS csC 4
def jlU(a:Am):Prop:=a.1.2.length<=140737488351232/\a.2.2.2.length<=140737488351232
def jmo(c:Cg):Prop:=c.2.1.length<=140737488351232/\c.2.2.1.length<=140737488351232/\c.2.2.2.length<=140737488351232
structure Qm where
 vv:Value
 vars:List (List UInt8)
 av:Value
 atoms:List Am
structure Rm where
 kind:Int
 q:Qm
 cv:Value
 chgs:List Cg
abbrev encQ(q:Qm):Value:=.agg #[q.vv,q.av]
abbrev encR(r:Rm):Value:=.agg #[.int .i64 r.kind,r.q.vv,r.q.av,r.cv]
structure QOk (S:Nat->Prop) (w:World) (q:Qm):Prop where
 vs:TxtS S w q.vv q.vars
 vb:∀s∈q.vars,s.length<=140737488351232
 vl:q.vars.length<=9223372036854775807
 vcap:CapS q.vv q.vars.length
 ats:AtsS S w q.av q.atoms
 ok:∀a∈q.atoms,VOk S w a.2.1
 fine:∀a∈q.atoms,jlU a
 al:q.atoms.length<=9223372036854775807
structure ROk (S:Nat->Prop) (w:World) (r:Rm):Prop where
 q:QOk S w r.q
 cs:CgsS S w r.cv r.chgs
 fine:∀c∈r.chgs,jmo c
 cl:r.chgs.length<=9223372036854775807
theorem QOk.keep{S T:Nat->Prop}{w w':World}{q:Qm}(h:QOk S w q)(hz:w.heap.size<=w'.heap.size)(hk:∀b,S b->b<w.heap.size->T b/\w'.heap[b]?=w.heap[b]?):QOk T w' q:=
 ⟨h.vs.keep hz hk,h.vb,h.vl,h.vcap,h.ats.keep hz hk,fun a ha=>VOk.keep hz hk _ (h.ok a ha),h.fine,h.al⟩
theorem QOk.below{S:Nat->Prop}{w w':World}{q:Qm}(h:QOk S w q)(hb:Below w.heap.size w w'):QOk S w' q:=h.keep hb.size (fun b hs hl=>⟨hs,hb.block b hl⟩)
theorem QOk.fr{S:Nat->Prop}{w w':World}{q:Qm}(h:QOk S w q)(hf:Fr S w w'):QOk S w' q:=h.keep hf.size (fun b hs _=>⟨hs,hf.block b hs⟩)
theorem ROk.keep{S T:Nat->Prop}{w w':World}{r:Rm}(h:ROk S w r)(hz:w.heap.size<=w'.heap.size)(hk:∀b,S b->b<w.heap.size->T b/\w'.heap[b]?=w.heap[b]?):ROk T w' r:=
 ⟨h.q.keep hz hk,h.cs.keep hz hk,h.fine,h.cl⟩
theorem ROk.below{S:Nat->Prop}{w w':World}{r:Rm}(h:ROk S w r)(hb:Below w.heap.size w w'):ROk S w' r:=h.keep hb.size (fun b hs hl=>⟨hs,hb.block b hl⟩)
theorem ROk.fr{S:Nat->Prop}{w w':World}{r:Rm}(h:ROk S w r)(hf:Fr S w w'):ROk S w' r:=h.keep hf.size (fun b hs _=>⟨hs,hf.block b hs⟩)
theorem getA{w:World}{g o:Nat}{a:Am}(h:∀(c:Nat) u,(csA a)[c]?=some u->w.cell? ⟨g,o+c,none⟩=some u):
 w.cell? ⟨g,o,none⟩=some (.bool a.1.1)/\w.cell? ⟨g,o+1,none⟩=some (.string ⟨a.1.2.toArray⟩)/\w.cell? ⟨g,o+2,none⟩=some (.int .i64 a.2.1.kind)/\w.cell? ⟨g,o+3,none⟩=some (.string ⟨a.2.1.word.toArray⟩)/\w.cell? ⟨g,o+4,none⟩=some a.2.1.val/\
 w.cell? ⟨g,o+5,none⟩=some (.bool a.2.2.1)/\w.cell? ⟨g,o+6,none⟩=some (.string ⟨a.2.2.2.toArray⟩):=
 ⟨h 0 _ rfl,h 1 _ rfl,h 2 _ rfl,h 3 _ rfl,h 4 _ rfl,h 5 _ rfl,h 6 _ rfl⟩
theorem getC{w:World}{g o:Nat}{c:Cg}(h:∀(i:Nat) u,(csC c)[i]?=some u->w.cell? ⟨g,o+i,none⟩=some u):
 w.cell? ⟨g,o,none⟩=some (.bool c.1)/\w.cell? ⟨g,o+1,none⟩=some (.string ⟨c.2.1.toArray⟩)/\w.cell? ⟨g,o+2,none⟩=some (.string ⟨c.2.2.1.toArray⟩)/\w.cell? ⟨g,o+3,none⟩=some (.string ⟨c.2.2.2.toArray⟩):=
 ⟨h 0 _ rfl,h 1 _ rfl,h 2 _ rfl,h 3 _ rfl⟩
theorem jav{w wr:World}{o:Obj}(h:Below (w.alloc o).heap.size (w.alloc o) wr):wr.heap[w.heap.size]?=some o:=by
 rw[h.block w.heap.size (by simp),heap_alloc_new]
theorem jaa{w wr:World}{o:Obj}(h:Below (w.alloc o).heap.size (w.alloc o) wr):Below w.heap.size w wr:=
 ((zF _ _).alloc (zD _) o).trans (h.mono (by simp))
abbrev Pa:=Tm×Pt×Tm
def addN(l:List (List UInt8))(t:Tm):List (List UInt8):=if t.1=true/\t.2∉l then l++[t.2]else l
def jai(l:List Pa):List (List UInt8):=l.foldl (fun n a=>addN (addN n a.1) a.2.2) []
def Am.pa(a:Am):Pa:=(a.1,a.2.1.pt,a.2.2)
def whyQ(vars:List (List UInt8))(l:List Pa):Nat:=
 if ∃a∈l,mayP a.2.1=false then 100
 else if 6<vars.length\/6<l.length\/6<(jai l).length then 2
 else if ¬vars.Nodup then 1
 else if ∃v∈vars,v∉jai l then 91
 else 0
theorem jeO(l:List Pa)(a:Pa):jai (l++[a])=addN (addN (jai l) a.1) a.2.2:=by simp[jai]
theorem jcM(l:List (List UInt8))(t:Tm):(addN l t).length<=l.length+1:=by
 unfold addN;split<;>simp
theorem jkD{l:List (List UInt8)}{t:Tm}{s:List UInt8}(h:s∈l):s∈addN l t:=by
 unfold addN;split
 . exact yL _ h
 . exact h
end Go.Proofs.YtkbgmcmcpbegjaaGreatDoor
