/- XMath. -/
import Derived.Test.YtdalcipmpelifaaGreatDoorMG9
set_option maxRecDepth 100000
namespace Go.Proofs.YtdalcipmpelifaaGreatDoor
open Go.RowKit
structure Lk where
 fr:Nat
 to:Nat
 R:Nat->Nat->Prop
abbrev Ch:=List (List Nat)
def atC(c:Ch)(k:Nat):List Nat:=c.getD k []
theorem atC_set(c:Ch){b:Nat}(l:List Nat)(k:Nat)(hb:b<c.length):atC (c.set b l) k=if b=k then l else atC c k:=by
 unfold atC;simp only[List.getD,List.getElem?_set];by_cases e:b=k
 . subst e;simp[hb]
 . rw[if_neg e,if_neg e]
def HC(c:Ch)(a b:Nat)(Q:Nat->Nat->Prop):Prop:=∀v∈atC c b,∃u∈atC c a,Q u v
def AC(ls:List Lk)(c:Ch):Prop:=∀l∈ls,HC c l.fr l.to l.R/\HC c l.to l.fr (fun v u=>l.R u v)
def ACP(ls:List Lk)(D:Nat->Nat->Prop):Prop:=∀l∈ls,(∀v,D l.to v->∃u,D l.fr u/\l.R u v)/\∀u,D l.fr u->∃v,D l.to v/\l.R u v
def InC(D:Nat->Nat->Prop)(c:Ch):Prop:=∀k v,D k v->v∈atC c k
def KeepP(ls:List Lk)(c:Ch)(k v:Nat):Prop:=∃D,ACP ls D/\InC D c/\D k v
noncomputable def keepB (ls:List Lk) (c:Ch) (k v:Nat):Bool:=@decide (KeepP ls c k v) (Classical.propDecidable _)
theorem keepB_iff{ls:List Lk}{c:Ch}{k v:Nat}:keepB ls c k v=true↔KeepP ls c k v:=@decide_eq_true_iff _ (Classical.propDecidable _)
noncomputable def narrowC (ls:List Lk) (c:Ch):Ch:=(List.range c.length).map fun k=>(atC c k).filter (keepB ls c k)
theorem narrow_len(ls:List Lk)(c:Ch):(narrowC ls c).length=c.length:=by simp[narrowC]
theorem narrow_at(ls:List Lk)(c:Ch)(k:Nat):atC (narrowC ls c) k=(atC c k).filter (keepB ls c k):=by
 unfold narrowC atC;rw[List.getD,zI];by_cases h:k<c.length
 . rw[yO h];rfl
 . rw[yB (by simp;omega),List.getD,yB (by omega)];rfl
theorem mem_narrow{ls:List Lk}{c:Ch}{k v:Nat}:v∈atC (narrowC ls c) k↔KeepP ls c k v:=by
 rw[narrow_at,zV,keepB_iff];refine⟨fun h=>h.2,fun h=>⟨?_,h⟩⟩;obtain⟨D,_,h2,h3⟩:=h;exact h2 k v h3
theorem narrow_sub{ls:List Lk}{c:Ch}{k v:Nat}(h:v∈atC (narrowC ls c) k):v∈atC c k:=by
 rw[narrow_at,zV]at h;exact h.1
theorem narrow_ac(ls:List Lk)(c:Ch):AC ls (narrowC ls c):=fun l hl=>by
 constructor
 . intro v hv;obtain⟨D,h1,h2,h3⟩:=mem_narrow.1 hv;obtain⟨u,hu,hr⟩:=(h1 l hl).1 v h3;exact⟨u,mem_narrow.2 ⟨D,h1,h2,hu⟩,hr⟩
 . intro u hu;obtain⟨D,h1,h2,h3⟩:=mem_narrow.1 hu;obtain⟨v,hv,hr⟩:=(h1 l hl).2 u h3;exact⟨v,mem_narrow.2 ⟨D,h1,h2,hv⟩,hr⟩
theorem narrow_all{ls:List Lk}{c:Ch}{D:Nat->Nat->Prop}(h1:ACP ls D)(h2:InC D c):InC D (narrowC ls c):=fun _ _ h=>mem_narrow.2 ⟨D,h1,h2,h⟩
structure Nw (ls:List Lk) (c0:Ch) (T:List Nat) (c:Ch):Prop where
 len:c.length=c0.length
 flt:∀k,∃p:Nat->Bool,atC c k=(atC c0 k).filter p
 all:∀D,ACP ls D->InC D c0->InC D c
 arc:∀l∈ls,(l.fr∈T\/HC c l.fr l.to l.R)/\(l.to∈T\/HC c l.to l.fr (fun v u=>l.R u v))
theorem Nw.start{ls:List Lk}{c0:Ch}{T:List Nat}(h:∀l∈ls,(l.fr∈T\/HC c0 l.fr l.to l.R)/\(l.to∈T\/HC c0 l.to l.fr (fun v u=>l.R u v))):Nw ls c0 T c0:=
 ⟨rfl,fun _=>⟨fun _=>true,(List.filter_eq_self.2 (fun _ _=>rfl)).symm⟩,fun _ _ h=>h,h⟩
theorem Nw.done{ls:List Lk}{c0 c:Ch}(h:Nw ls c0 [] c):c=narrowC ls c0:=by
 have hac:AC ls c:=fun l hl=>by
  obtain⟨h1,h2⟩:=h.arc l hl;exact⟨h1.resolve_left (by simp),h2.resolve_left (by simp)⟩
 have hmem:∀k v,v∈atC c k↔KeepP ls c0 k v:=fun k v=>by
  constructor
  . intro hv;refine⟨fun j x=>x∈atC c j,fun l hl=>?_,fun j x hx=>?_,hv⟩
    . exact⟨fun v hv=>(hac l hl).1 v hv,fun u hu=>(hac l hl).2 u hu⟩
    . obtain⟨p,hp⟩:=h.flt j;have hx:x∈atC c j:=hx;rw[hp,zV]at hx;exact hx.1
  . rintro⟨D,h1,h2,h3⟩;exact h.all D h1 h2 k v h3
 have hat:∀k,atC c k=atC (narrowC ls c0) k:=fun k=>by
  obtain⟨p,hp⟩:=h.flt k;rw[narrow_at,hp];refine List.filter_congr fun v hv=>?_
  have h1:=hmem k v;rw[hp,zV]at h1;cases h2:p v with
  |true=>exact(keepB_iff.2 (h1.1 ⟨hv,h2⟩)).symm
  |false=>
   cases h3:keepB ls c0 k v with
   |false=>rfl
   |true=>
    have:=(h1.2 (keepB_iff.1 h3)).2;rw[h2]at this;cases this
 apply List.ext_getElem?;intro k;by_cases hk:k<c0.length
 . have h1:=hat k;unfold atC at h1;rw[List.getD,List.getD,zB (by rw[h.len];exact hk),zB (by rw[narrow_len];exact hk)]at h1;rw[zB (by rw[h.len];exact hk),zB (by rw[narrow_len];exact hk)];simpa using h1
 . rw[yB (by rw[h.len];omega),yB (by rw[narrow_len];omega)]
noncomputable def leadB1 (c:Ch) (a:Nat) (Q:Nat->Nat->Prop) (v:Nat):Bool:=@decide (∃u∈atC c a,Q u v) (Classical.propDecidable _)
theorem leadB1_iff{c:Ch}{a v:Nat}{Q:Nat->Nat->Prop}:leadB1 c a Q v=true↔∃u∈atC c a,Q u v:=@decide_eq_true_iff _ (Classical.propDecidable _)
noncomputable def strikeC (c:Ch) (a b:Nat) (Q:Nat->Nat->Prop):Ch:=c.set b ((atC c b).filter (leadB1 c a Q))
theorem strike_at{c:Ch}{a b:Nat}{Q:Nat->Nat->Prop}(hb:b<c.length)(k:Nat):atC (strikeC c a b Q) k=if b=k then (atC c b).filter (leadB1 c a Q)else atC c k:=atC_set c _ k hb
structure NwA (ls:List Lk) (c0:Ch) (T:List Nat) (a:Nat) (i:Nat) (c:Ch):Prop where
 len:c.length=c0.length
 flt:∀k,∃p:Nat->Bool,atC c k=(atC c0 k).filter p
 all:∀D,ACP ls D->InC D c0->InC D c
 arc:∀j l,ls[j]?=some l->(l.fr∈T\/(l.fr=a/\i<=j)\/HC c l.fr l.to l.R)/\(l.to∈T\/(l.to=a/\i<=j)\/HC c l.to l.fr (fun v u=>l.R u v))
theorem Nw.pop{ls:List Lk}{c0:Ch}{a:Nat}{T:List Nat}{c:Ch}(h:Nw ls c0 (a::T) c):NwA ls c0 T a 0 c:=
 ⟨h.len,h.flt,h.all,fun j l hl=>by
  obtain⟨h1,h2⟩:=h.arc l (zC hl);constructor
  . rcases h1 with h1|h1
    . rcases zX.1 h1 with h1|h1
      . exact .inr (.inl ⟨h1,zS _⟩)
      . exact .inl h1
    . exact .inr (.inr h1)
  . rcases h2 with h2|h2
    . rcases zX.1 h2 with h2|h2
      . exact .inr (.inl ⟨h2,zS _⟩)
      . exact .inl h2
    . exact .inr (.inr h2)⟩
theorem NwA.end_{ls:List Lk}{c0:Ch}{a:Nat}{T:List Nat}{c:Ch}(h:NwA ls c0 T a ls.length c):Nw ls c0 T c:=
 ⟨h.len,h.flt,h.all,fun l hl=>by
  obtain⟨j,hj⟩:=List.getElem?_of_mem hl;have hjl:=(zE.1 hj).1;obtain⟨h1,h2⟩:=h.arc j l hj;constructor
  . rcases h1 with h1|h1|h1
    . exact .inl h1
    . omega
    . exact .inr h1
  . rcases h2 with h2|h2|h2
    . exact .inl h2
    . omega
    . exact .inr h2⟩
theorem HC.strike_other{c:Ch}{a b x y:Nat}{Q S:Nat->Nat->Prop}(hb:b<c.length)(h:HC c x y S)(hx:x≠b):HC (strikeC c a b Q) x y S:=fun v hv=>by
 have hv2:v∈atC c y:=by
  rw[strike_at hb]at hv;split at hv
  . rename_i e;subst e;exact(zV.1 hv).1
  . exact hv
 obtain⟨u,hu,hr⟩:=h v hv2;refine⟨u,?_,hr⟩;rw[strike_at hb,if_neg (fun e=>hx e.symm)];exact hu
theorem HC.strike_self{c:Ch}{a b:Nat}{Q:Nat->Nat->Prop}(hb:b<c.length)(hab:a≠b):HC (strikeC c a b Q) a b Q:=fun v hv=>by
 rw[strike_at hb,if_pos rfl,zV,leadB1_iff]at hv;obtain⟨u,hu,hr⟩:=hv.2;refine⟨u,?_,hr⟩;rw[strike_at hb,if_neg (fun e=>hab e.symm)];exact hu
theorem strike_same{c:Ch}{a b:Nat}{Q:Nat->Nat->Prop}(hb:b<c.length)(h:((atC c b).filter (leadB1 c a Q)).length=(atC c b).length):strikeC c a b Q=c:=by
 have h1:(atC c b).filter (leadB1 c a Q)=atC c b:=List.filter_eq_self.2 (List.length_filter_eq_length_iff.1 h);unfold strikeC;rw[h1];apply List.ext_getElem?;intro k;rw[List.getElem?_set];by_cases e:b=k
 . subst e;rw[if_pos rfl,if_pos hb];unfold atC;rw[List.getD,zB hb];rfl
 . rw[if_neg e]
theorem strike_flt{c0 c:Ch}{a b:Nat}{Q:Nat->Nat->Prop}(hb:b<c.length)(h:∀k,∃p:Nat->Bool,atC c k=(atC c0 k).filter p):∀k,∃p:Nat->Bool,atC (strikeC c a b Q) k=(atC c0 k).filter p:=fun k=>by
 obtain⟨p,hp⟩:=h k;rw[strike_at hb];by_cases e:b=k
 . subst e;exact⟨fun v=>leadB1 c a Q v&&p v,by rw[if_pos rfl,hp,List.filter_filter]⟩
 . exact⟨p,by rw[if_neg e];exact hp⟩
theorem strike_allT{ls:List Lk}{c0 c:Ch}{l:Lk}(hl:l∈ls)(hb:l.to<c.length)(h:∀D,ACP ls D->InC D c0->InC D c):∀D,ACP ls D->InC D c0->InC D (strikeC c l.fr l.to l.R):=fun D h1 h2 k v hv=>by
 rw[strike_at hb];have h3:=h D h1 h2;by_cases e:l.to=k
 . subst e;rw[if_pos rfl,zV,leadB1_iff];obtain⟨u,hu,hr⟩:=(h1 l hl).1 v hv;exact⟨h3 _ v hv,u,h3 _ u hu,hr⟩
 . rw[if_neg e];exact h3 k v hv
theorem strike_allB{ls:List Lk}{c0 c:Ch}{l:Lk}(hl:l∈ls)(hb:l.fr<c.length)(h:∀D,ACP ls D->InC D c0->InC D c):∀D,ACP ls D->InC D c0->InC D (strikeC c l.to l.fr (fun v u=>l.R u v)):=fun D h1 h2 k v hv=>by
 rw[strike_at hb];have h3:=h D h1 h2;by_cases e:l.fr=k
 . subst e;rw[if_pos rfl,zV,leadB1_iff];obtain⟨u,hu,hr⟩:=(h1 l hl).2 v hv;exact⟨h3 _ v hv,u,h3 _ u hu,hr⟩
 . rw[if_neg e];exact h3 k v hv
def LocSol(ls:List Lk)(c:Ch)(X:List Nat):Prop:=∃s:Nat->Nat,(∀k∈X,s k∈atC c k)/\∀l∈ls,l.fr∈X->l.to∈X->l.R (s l.fr) (s l.to)
def Iso(ls:List Lk)(c:Ch)(X:List Nat):Prop:=∀l∈ls,(l.fr∈X->l.to∉X->(atC c l.to).length<=1)/\(l.to∈X->l.fr∉X->(atC c l.fr).length<=1)
noncomputable def chooseC (ls:List Lk) (c:Ch) (k v:Nat):Ch:=narrowC ls (c.set k [v])
theorem len_one{l:List Nat}(h:l.length<=1){x y:Nat}(hx:x∈l)(hy:y∈l):x=y:=by
 match l,h with
 |[],_=>simp at hx
 |[a],_=>rw[zJ.1 hx,zJ.1 hy]
theorem loc_choose{ls:List Lk}(hne:∀l∈ls,l.fr≠l.to){c:Ch}(hac:AC ls c){g:Nat}{rest:List Nat}(hnd:(g::rest).Nodup)(hg:g<c.length)(hi:Iso ls c (g::rest)):LocSol ls c (g::rest)↔∃v∈atC c g,LocSol ls (chooseC ls c g v) rest:=by
 have hgr:g∉rest:=(List.nodup_cons.1 hnd).1;constructor
 . rintro⟨s,h1,h2⟩;refine⟨s g,h1 g (zL ..),s,fun k hk=>?_,fun l hl hf ht=>h2 l hl (zP _ hf) (zP _ ht)⟩;have hD:ACP ls (fun k x=>(k∈g::rest/\x=s k)\/(k∉g::rest/\x∈atC c k)):=fun l hl=>by
    obtain⟨a1,a2⟩:=hac l hl;obtain⟨i1,i2⟩:=hi l hl;constructor
    . intro v hv;by_cases hf:l.fr∈g::rest
      . refine⟨s l.fr,.inl ⟨hf,rfl⟩,?_⟩;rcases hv with⟨ht,rfl⟩|⟨ht,hv⟩
        . exact h2 l hl hf ht
        . obtain⟨v',hv',hr⟩:=a2 (s l.fr) (h1 _ hf);rw[len_one (i1 hf ht) hv hv'];exact hr
      . rcases hv with⟨ht,rfl⟩|⟨ht,hv⟩
        . obtain⟨u,hu,hr⟩:=a1 (s l.to) (h1 _ ht);exact⟨u,.inr ⟨hf,hu⟩,hr⟩
        . obtain⟨u,hu,hr⟩:=a1 v hv;exact⟨u,.inr ⟨hf,hu⟩,hr⟩
    . intro u hu;by_cases ht:l.to∈g::rest
      . refine⟨s l.to,.inl ⟨ht,rfl⟩,?_⟩;rcases hu with⟨hf,rfl⟩|⟨hf,hu⟩
        . exact h2 l hl hf ht
        . obtain⟨u',hu',hr⟩:=a1 (s l.to) (h1 _ ht);rw[len_one (i2 ht hf) hu hu'];exact hr
      . rcases hu with⟨hf,rfl⟩|⟨hf,hu⟩
        . obtain⟨v,hv,hr⟩:=a2 (s l.fr) (h1 _ hf);exact⟨v,.inr ⟨ht,hv⟩,hr⟩
        . obtain⟨v,hv,hr⟩:=a2 u hu;exact⟨v,.inr ⟨ht,hv⟩,hr⟩
   have hin:InC (fun k x=>(k∈g::rest/\x=s k)\/(k∉g::rest/\x∈atC c k)) (c.set g [s g]):=fun j x hx=>by
    rw[atC_set c _ j hg];by_cases e:g=j
    . subst e;rw[if_pos rfl];rcases hx with⟨_,rfl⟩|⟨h,_⟩
      . simp
      . exact absurd (zL ..) h
    . rw[if_neg e];rcases hx with⟨hj,rfl⟩|⟨_,hx⟩
      . exact h1 j hj
      . exact hx
   exact narrow_all hD hin k (s k) (.inl ⟨zP _ hk,rfl⟩)
 . rintro⟨v,hv,s,h1,h2⟩;have hac2:=narrow_ac ls (c.set g [v]);have hsub:∀k x,x∈atC (chooseC ls c g v) k->k≠g->x∈atC c k:=fun k x hx hk=>by
    have:=narrow_sub hx;rw[atC_set c _ k hg,if_neg (fun e=>hk e.symm)]at this;exact this
   have hgv:∀x,x∈atC (chooseC ls c g v) g->x=v:=fun x hx=>by
    have:=narrow_sub hx;rw[atC_set c _ g hg,if_pos rfl]at this;exact zJ.1 this
   refine⟨fun k=>if k=g then v else s k,fun k hk=>?_,fun l hl hf ht=>?_⟩
   . by_cases e:k=g
     . subst e;simp only[if_pos];exact hv
     . simp only[if_neg e];rcases zX.1 hk with hk|hk
       . exact absurd hk e
       . exact hsub k _ (h1 k hk) e
   . obtain⟨a1,a2⟩:=hac2 l hl;by_cases ef:l.fr=g
     . have et:l.to≠g:=fun e=>hne l hl (ef.trans e.symm)
       have ht2:l.to∈rest:=(zX.1 ht).resolve_left et;simp only[if_pos ef,if_neg et];obtain⟨u,hu,hr⟩:=a1 (s l.to) (h1 _ ht2);rw[ef]at hu;rw[hgv u hu]at hr;exact hr
     . have hf2:l.fr∈rest:=(zX.1 hf).resolve_left ef;by_cases et:l.to=g
       . simp only[if_neg ef,if_pos et];obtain⟨u,hu,hr⟩:=a2 (s l.fr) (h1 _ hf2);rw[et]at hu;rw[hgv u hu]at hr;exact hr
       . simp only[if_neg ef,if_neg et];exact h2 l hl hf2 ((zX.1 ht).resolve_left et)
theorem filt_le{l:List Nat}(p:Nat->Bool)(h:l.length<=1):(l.filter p).length<=1:=zQ (yD _ _) h
theorem iso_choose{ls:List Lk}{c:Ch}{g v:Nat}{rest:List Nat}(hg:g<c.length)(hi:Iso ls c (g::rest)):Iso ls (chooseC ls c g v) rest:=fun l hl=>by
 obtain⟨h1,h2⟩:=hi l hl;have hat:∀k,k≠g->(atC c k).length<=1->(atC (chooseC ls c g v) k).length<=1:=fun k hk h=>by
  rw[chooseC,narrow_at,atC_set c _ k hg,if_neg (fun e=>hk e.symm)];exact filt_le _ h
 have hgl:(atC (chooseC ls c g v) g).length<=1:=by
  rw[chooseC,narrow_at,atC_set c _ g hg,if_pos rfl];exact filt_le _ (by simp)
 constructor
 . intro hf ht;by_cases e:l.to=g
   . rw[e];exact hgl
   . exact hat _ e (h1 (zP _ hf) (fun h=>(zX.1 h).elim e ht))
 . intro ht hf;by_cases e:l.fr=g
   . rw[e];exact hgl
   . exact hat _ e (h2 (zP _ ht) (fun h=>(zX.1 h).elim e hf))
structure Parted (ls:List Lk) (c:Ch) (X:List Nat) (Gs:List (List Nat)):Prop where
 mem:∀k,(∃G∈Gs,k∈G)↔k∈X/\(atC c k).length≠1
 link:∀l∈ls,∀G∈Gs,∀H∈Gs,(l.fr∈G->l.to∈H->l.to∈G)/\(l.to∈G->l.fr∈H->l.fr∈G)
theorem Parted.iso{ls:List Lk}{c:Ch}{X:List Nat}{Gs:List (List Nat)}(h:Parted ls c X Gs)(hi:Iso ls c X){G:List Nat}(hG:G∈Gs):Iso ls c G:=fun l hl=>by
 obtain⟨h1,h2⟩:=hi l hl;constructor
 . intro hf ht;have hfX:=((h.mem l.fr).1 ⟨G,hG,hf⟩).1;by_cases htX:l.to∈X
   . by_cases e:(atC c l.to).length=1
     . omega
     . obtain⟨H,hH,htH⟩:=(h.mem l.to).2 ⟨htX,e⟩;exact absurd ((h.link l hl G hG H hH).1 hf htH) ht
   . exact h1 hfX htX
 . intro ht hf;have htX:=((h.mem l.to).1 ⟨G,hG,ht⟩).1;by_cases hfX:l.fr∈X
   . by_cases e:(atC c l.fr).length=1
     . omega
     . obtain⟨H,hH,hfH⟩:=(h.mem l.fr).2 ⟨hfX,e⟩;exact absurd ((h.link l hl G hG H hH).2 ht hfH) hf
   . exact h2 htX hfX
theorem loc_parts{ls:List Lk}{c:Ch}(hac:AC ls c){X:List Nat}{Gs:List (List Nat)}(h:Parted ls c X Gs):LocSol ls c X↔∀G∈Gs,LocSol ls c G:=by
 constructor
 . rintro⟨s,h1,h2⟩ G hG;have hsub:∀k∈G,k∈X:=fun k hk=>((h.mem k).1 ⟨G,hG,hk⟩).1
   exact⟨s,fun k hk=>h1 k (hsub k hk),fun l hl hf ht=>h2 l hl (hsub _ hf) (hsub _ ht)⟩
 . intro hG;have hch:∀k,∃x,k∈X->x∈atC c k/\∀G∈Gs,k∈G->True:=fun k=>by
    by_cases hk:k∈X
    . by_cases e:(atC c k).length=1
      . obtain⟨x,hx⟩:=List.length_eq_one_iff.1 e;exact⟨x,fun _=>⟨by rw[hx];simp,fun _ _ _=>trivial⟩⟩
      . obtain⟨G,hGm,hkG⟩:=(h.mem k).2 ⟨hk,e⟩;obtain⟨s,h1,_⟩:=hG G hGm;exact⟨s k,fun _=>⟨h1 k hkG,fun _ _ _=>trivial⟩⟩
    . exact⟨0,fun h=>absurd h hk⟩
   -- of each group a solution of its own;where two groups share a slot they are linked alike: the first group that has it
   have hsol:∀G,∃s:Nat->Nat,G∈Gs->(∀k∈G,s k∈atC c k)/\∀l∈ls,l.fr∈G->l.to∈G->l.R (s l.fr) (s l.to):=fun G=>by
    by_cases hGm:G∈Gs
    . obtain⟨s,h1,h2⟩:=hG G hGm;exact⟨s,fun _=>⟨h1,h2⟩⟩
    . exact⟨fun _=>0,fun h=>absurd h hGm⟩
   obtain⟨sol,hsol⟩:=Classical.axiomOfChoice hsol;obtain⟨one,hone⟩:=Classical.axiomOfChoice hch;let grp:Nat->Option (List Nat):=fun k=>Gs.find? (fun G=>decide (k∈G))
   have hgrp:∀k G,grp k=some G->G∈Gs/\k∈G:=fun k G e=>⟨List.mem_of_find?_eq_some e,of_decide_eq_true (List.find?_some (p:=fun G=>decide (k∈G)) e)⟩
   have hnone:∀k,grp k=none->∀G∈Gs,k∉G:=fun k e G hGm hk=>by
    have:=List.find?_eq_none.1 e G hGm;exact this (yC hk)
   have hsame:∀l∈ls,∀G H,grp l.fr=some G->grp l.to=some H->G=H:=fun l hl G H e1 e2=>by
    obtain⟨hG1,hf⟩:=hgrp _ _ e1;obtain⟨hH1,ht⟩:=hgrp _ _ e2
    -- both slots lie in just the same groups
    have hiff:∀K∈Gs,(l.fr∈K↔l.to∈K):=fun K hK=>⟨fun h1=>(h.link l hl K hK H hH1).1 h1 ht,fun h1=>(h.link l hl K hK G hG1).2 h1 hf⟩
    have hfind:∀Ks:List (List Nat),(∀K∈Ks,K∈Gs)->Ks.find? (fun G=>decide (l.fr∈G))=Ks.find? (fun G=>decide (l.to∈G)):=by
     intro Ks;induction Ks with
     |nil=>intro _;rfl
     |cons K Ks ih=>
      intro hK;have:=hiff K (hK K (zL ..));rw[List.find?_cons,List.find?_cons,ih (fun K' h'=>hK K' (zP _ h'))];by_cases h1:l.fr∈K
      . rw[yC h1,yC (this.1 h1)]
      . rw[decide_eq_false h1,decide_eq_false (fun h2=>h1 (this.2 h2))]
    have h3:=hfind Gs (fun _ h=>h);have h4:grp l.fr=grp l.to:=h3;rw[e1,e2]at h4;injection h4
   refine⟨fun k=>match grp k with|some G=>sol G k|none=>one k,fun k hk=>?_,fun l hl hf ht=>?_⟩
   . show (match grp k with|some G=>sol G k|none=>one k)∈atC c k;cases e:grp k with
     |none=>exact(hone k hk).1
     |some G=>exact(hsol G (hgrp k G e).1).1 k (hgrp k G e).2
   . obtain⟨a1,a2⟩:=hac l hl;show l.R (match grp l.fr with|some G=>sol G l.fr|none=>one l.fr) (match grp l.to with|some G=>sol G l.to|none=>one l.to);have hsing:∀k,k∈X->grp k=none->(atC c k).length<=1:=fun k hk e=>by
      by_cases h1:(atC c k).length=1
      . omega
      . obtain⟨G,hGm,hkG⟩:=(h.mem k).2 ⟨hk,h1⟩;exact absurd hkG (hnone k e G hGm)
     cases e1:grp l.fr with
     |none=>
      cases e2:grp l.to with
      |none=>
       obtain⟨u,hu,hr⟩:=a1 (one l.to) (hone l.to ht).1;rw[len_one (hsing l.fr hf e1) (hone l.fr hf).1 hu];exact hr
      |some H=>
       obtain⟨u,hu,hr⟩:=a1 (sol H l.to) ((hsol H (hgrp _ _ e2).1).1 _ (hgrp _ _ e2).2);rw[len_one (hsing l.fr hf e1) (hone l.fr hf).1 hu];exact hr
     |some G=>
      cases e2:grp l.to with
      |none=>
       obtain⟨v,hv,hr⟩:=a2 (sol G l.fr) ((hsol G (hgrp _ _ e1).1).1 _ (hgrp _ _ e1).2);rw[len_one (hsing l.to ht e2) (hone l.to ht).1 hv];exact hr
      |some H=>
       have e3:=hsame l hl G H e1 e2;subst e3;exact(hsol G (hgrp _ _ e1).1).2 l hl (hgrp _ _ e1).2 (hgrp _ _ e2).2
end Go.Proofs.YtdalcipmpelifaaGreatDoor
