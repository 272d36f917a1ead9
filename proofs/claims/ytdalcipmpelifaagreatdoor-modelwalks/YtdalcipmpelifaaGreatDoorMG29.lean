/- XMath4, XTurnP. -/
import Derived.Test.YtdalcipmpelifaaGreatDoorMG18
import Derived.Test.YtdalcipmpelifaaGreatDoorMG26
import Derived.Test.YtdalcipmpelifaaGreatDoorMG19
import Derived.Laws.MakeOwn
set_option maxRecDepth 100000
namespace Go.Proofs.YtdalcipmpelifaaGreatDoor
open Go.RowKit
def turnP:Pt->Pt
 |⟨k,w,kids⟩=>⟨k,w,if k=2 then (kids.map turnP).reverse else kids.map turnP⟩
theorem turnP_mk(k:Int)(w:List UInt8)(kids:List Pt):turnP ⟨k,w,kids⟩=⟨k,w,if k=2 then (kids.map turnP).reverse else kids.map turnP⟩:=by rw[turnP]
theorem turn_len(k:Int)(kids:List Pt):(if k=2 then (kids.map turnP).reverse else kids.map turnP).length=kids.length:=by
 split<;>simp
theorem turn_mem(k:Int)(kids:List Pt)(y:Pt):y∈(if k=2 then (kids.map turnP).reverse else kids.map turnP)↔∃x∈kids,y=turnP x:=by
 split<;>simp[eq_comm]
theorem shaped_turn:∀(d:Nat) (t:Pt),shapedP d t=true->shapedP d (turnP t)=true
 |0,_,h=>by simp[shapedP]at h
 |d+1,⟨k,w,kids⟩,h=>by
  rw[turnP_mk,shapedP,turn_len];rw[shapedP]at h;simp only[Bool.and_eq_true,yJ]at h ⊢;refine⟨h.1,fun y hy=>?_⟩;obtain⟨x,hx,rfl⟩:=(turn_mem k kids y).1 hy;exact shaped_turn d x (h.2 x hx)
theorem leaves_turn:∀t,leaves (turnP t)=leaves t:=by
 intro t;induction t using Pt.ind with
 |h k w kids ih=>
  rw[turnP_mk,leaves_mk,leaves_mk];have e:(kids.map turnP).map leaves=kids.map leaves:=by
   rw[List.map_map];exact yQ fun x hx=>ih x hx
  by_cases h1:k=1
  . rw[if_pos h1,if_pos h1]
  . rw[if_neg h1,if_neg h1];by_cases h2:k=2
    . rw[if_pos h2,List.map_reverse,List.sum_reverse,e]
    . rw[if_neg h2,e]
theorem may_turn{t:Pt}(h:mayP t=true):mayP (turnP t)=true:=by
 simp only[mayP,Bool.and_eq_true,decide_eq_true_eq]at h ⊢;rw[leaves_turn];exact⟨shaped_turn 12 t h.1,h.2⟩
theorem seqL_snoc(f:List Wd->Prop):∀(fs:List (List Wd->Prop)) (l:List Wd),seqL (fs++[f]) l↔∃a b,l=a++b/\seqL fs a/\f b
 |[],l=>by
  constructor
  . rintro⟨a,b,e,h1,h2⟩;have h2:b=[]:=h2;exact⟨[],a,by rw[e,h2];simp,rfl,h1⟩
  . rintro⟨a,b,e,h1,h2⟩;have h1:a=[]:=h1;exact⟨b,[],by rw[e,h1];simp,h2,rfl⟩
 |g::fs,l=>by
  constructor
  . rintro⟨a,b,e,h1,h2⟩;obtain⟨c,d,e2,h3,h4⟩:=(seqL_snoc f fs b).1 h2;exact⟨a++c,d,by rw[e,e2,List.append_assoc],⟨a,c,rfl,h1,h3⟩,h4⟩
  . rintro⟨a,b,e,⟨c,d,e2,h1,h2⟩,h4⟩;exact⟨c,d++b,by rw[e,e2,List.append_assoc],h1,(seqL_snoc f fs _).2 ⟨d,b,rfl,h2,h4⟩⟩
def RevL(f g:List Wd->Prop):Prop:=∀l,g l↔f l.reverse
theorem seqL_rev:∀(fs gs:List (List Wd->Prop)),fs.length=gs.length->(∀(i:Nat) f g,fs[i]?=some f->gs[i]?=some g->RevL f g)->∀l,seqL gs.reverse l↔seqL fs l.reverse
 |[],[],_,_,l=>by simp[seqL]
 |[],g::gs,h,_,_=>by simp at h
 |f::fs,[],h,_,_=>by simp at h
 |f::fs,g::gs,h,hr,l=>by
  have ih:=seqL_rev fs gs (by simpa using h) (fun i a b ha hb=>hr (i+1) a b (by simpa using ha) (by simpa using hb));have h0:=hr 0 f g rfl rfl;rw[List.reverse_cons,seqL_snoc];constructor
  . rintro⟨a,b,e,h1,h2⟩;exact⟨b.reverse,a.reverse,by rw[e,List.reverse_append],(h0 b).1 h2,(ih a).1 h1⟩
  . rintro⟨a,b,e,h1,h2⟩;refine⟨b.reverse,a.reverse,?_,(ih _).2 (by rw[List.reverse_reverse];exact h2),(h0 _).2 (by rw[List.reverse_reverse];exact h1)⟩;rw[<- List.reverse_append,<- e,List.reverse_reverse]
theorem starL_rev{f g:List Wd->Prop}(h:RevL f g):RevL (starL f) (starL g):=fun l=>by
 constructor
 . rintro⟨ls,e,h1⟩;refine⟨(ls.map List.reverse).reverse,?_,fun x hx=>?_⟩
   . rw[e,List.reverse_flatten]
   . obtain⟨y,hy,rfl⟩:=zR.1 (List.mem_reverse.1 hx);exact(h y).1 (h1 y hy)
 . rintro⟨ls,e,h1⟩;refine⟨(ls.map List.reverse).reverse,?_,fun x hx=>?_⟩
   . rw[<- List.reverse_flatten,<- e,List.reverse_reverse]
   . obtain⟨y,hy,rfl⟩:=zR.1 (List.mem_reverse.1 hx);exact(h _).2 (by rw[List.reverse_reverse];exact h1 y hy)
theorem starL_snoc{f:List Wd->Prop}{l:List Wd}:plusL f l↔∃a b,l=a++b/\starL f a/\f b:=by
 constructor
 . rintro⟨a,b,e,h1,ls,e2,h2⟩;obtain⟨ms,hms⟩:∃ms,ms=a::ls:=⟨_,rfl⟩
   have hall:∀x∈ms,f x:=fun x hx=>by
    rw[hms]at hx;rcases zX.1 hx with rfl|hx
    . exact h1
    . exact h2 x hx
   have hne:ms≠[]:=by rw[hms];simp
   refine⟨ms.dropLast.flatten,ms.getLast hne,?_,⟨ms.dropLast,rfl,fun x hx=>hall x (List.dropLast_subset ms hx)⟩,hall _ (List.getLast_mem hne)⟩;have h3:ms.dropLast++[ms.getLast hne]=ms:=List.dropLast_concat_getLast hne;have h4:ms.flatten=l:=by rw[hms,List.flatten_cons,e,e2]
   rw[<- h4];conv=>lhs;rw[<- h3]
   simp
 . rintro⟨a,b,e,⟨ls,e2,h2⟩,h1⟩;cases ls with
   |nil=>
    refine⟨b,[],?_,h1,[],rfl,fun x hx=>by simp at hx⟩;rw[e,e2];simp
   |cons c ls=>
    refine⟨c,(ls++[b]).flatten,?_,h2 c (zL ..),ls++[b],rfl,fun x hx=>?_⟩
    . rw[e,e2];simp
    . rcases zN.1 hx with hx|hx
      . exact h2 x (zP _ hx)
      . rw[zJ.1 hx];exact h1
theorem plusL_rev{f g:List Wd->Prop}(h:RevL f g):RevL (plusL f) (plusL g):=fun l=>by
 rw[starL_snoc];constructor
 . rintro⟨a,b,e,h1,h2⟩;exact⟨b.reverse,a.reverse,by rw[e,List.reverse_append],(h b).1 h2,(starL_rev h a).1 h1⟩
 . rintro⟨a,b,e,h1,h2⟩;refine⟨b.reverse,a.reverse,?_,(starL_rev h _).2 (by rw[List.reverse_reverse];exact h2),(h _).2 (by rw[List.reverse_reverse];exact h1)⟩;rw[<- List.reverse_append,<- e,List.reverse_reverse]
theorem altL_rev{kids:List Pt}(ih:∀x∈kids,RevL (willL x) (willL (turnP x))):RevL (altL (kids.map willL)) (altL ((kids.map turnP).map willL)):=fun l=>by
 constructor
 . rintro⟨f,hf,h⟩;obtain⟨y,hy,rfl⟩:=zR.1 hf;obtain⟨x,hx,rfl⟩:=zR.1 hy;exact⟨willL x,zU hx,(ih x hx l).1 h⟩
 . rintro⟨f,hf,h⟩;obtain⟨x,hx,rfl⟩:=zR.1 hf;exact⟨willL (turnP x),zU (zU hx),(ih x hx l).2 h⟩
theorem will_turn:∀t,RevL (willL t) (willL (turnP t)):=by
 intro t;induction t using Pt.ind with
 |h k w kids ih=>
  intro l;have ha:=altL_rev ih;rw[turnP_mk,willL_mk,willL_mk];unfold kindL;by_cases h1:k=1
  . rw[if_pos h1,if_pos h1];constructor
    . rintro rfl;rfl
    . intro h;rw[<- List.reverse_reverse l,h];rfl
  . rw[if_neg h1,if_neg h1];by_cases h2:k=2
    . rw[if_pos h2,if_pos h2,if_pos h2,List.map_reverse];refine seqL_rev _ _ (by simp) (fun i f g hf hg=>?_) l;rw[zI]at hf hg;rw[zI]at hg;cases hx:kids[i]? with
      |none=>rw[hx]at hf;simp at hf
      |some x=>
       rw[hx]at hf hg;simp at hf hg;subst hf hg;exact ih x (zC hx)
    . rw[if_neg h2,if_neg h2,if_neg h2];split
      . exact starL_rev ha l
      . split
        . exact plusL_rev ha l
        . split
          . have h3:(l=[]↔l.reverse=[]):=by simp
            rw[h3,ha l]
          . exact ha l
theorem goE_turn{E:List Eg}:∀(l:List Wd) (x y:Nat),goE (E.map turnE) x l y↔goE E y l.reverse x:=by
 have key:∀(E:List Eg) (l:List Wd) (x y:Nat),goE E x l y->goE (E.map turnE) y l.reverse x:=by
  intro E l;induction l with
  |nil=>intro x y h;exact Eq.symm h
  |cons p l ih=>
   rintro x y ⟨z,hz,h⟩;rw[List.reverse_cons];exact goE_snoc _ _ _ _ _ (ih z y h) (zR.2 ⟨(x,p,z),hz,rfl⟩)
 have hE:(E.map turnE).map turnE=E:=by
  rw[List.map_map];conv=>rhs;rw[<- List.map_id E]
  exact yQ fun e _=>rfl
 intro l x y;constructor
 . intro h;have:=key (E.map turnE) l x y h;rw[hE]at this;exact this
 . intro h;have:=key E l.reverse y x h;rw[List.reverse_reverse]at this;exact this
theorem search_back{kp:Nat->Prop}{fs:List Fa}{p:Pt}(hp:mayP p=true){x y:Nat}{X Y:Wd}(hx:(vertsL fs)[x]?=some X)(hy:(vertsL fs)[y]?=some Y):(sdOf kp (vertsL fs).length ((fs.map (egOf (vertsL fs))).map turnE) (autoOf (turnP p))).leads [y] x↔leadP fs p X Y:=by
 obtain⟨hm,hw⟩:=auto_will (may_turn hp);rw[leads_iff hm (fun e he=>by
  obtain⟨e',he',rfl⟩:=zR.1 he;have:=edge_in fs e' he';exact⟨this.2,this.1⟩)]
 have hf:∀f∈fs,f.1∈vertsL fs/\f.2.2∈vertsL fs:=fun f hf=>⟨mem_verts.2 ⟨f,hf,.inl rfl⟩,mem_verts.2 ⟨f,hf,.inr rfl⟩⟩
 unfold leadP leadF;constructor
 . rintro⟨l,hg,ha⟩;exact⟨zC hx,l.reverse,(will_turn p l).1 ((hw l).1 ha),(goE_go (verts_nodup fs) hf _ x y X Y hx hy).1 ((goE_turn l y x).1 hg)⟩
 . rintro⟨_,l,ha,hg⟩;refine⟨l.reverse,(goE_turn _ y x).2 (by rw[List.reverse_reverse];exact(goE_go (verts_nodup fs) hf _ x y X Y hx hy).2 hg),(hw _).2 ((will_turn p _).2 ?_)⟩;rw[List.reverse_reverse];exact ha
theorem sol_narrow{ls:List Lk}{m:Nat}(hl:∀l∈ls,l.fr<m/\l.to<m){c:Ch}{s:Nat->Nat}:SolC ls m (narrowC ls c) s↔SolC ls m c s:=by
 constructor
 . rintro⟨h1,h2⟩;exact⟨fun k hk=>narrow_sub (h1 k hk),h2⟩
 . rintro⟨h1,h2⟩;refine⟨fun k hk=>?_,h2⟩;refine narrow_all (D:=fun j x=>j<m/\x=s j) (fun l hl2=>⟨fun v hv=>⟨s l.fr,⟨(hl l hl2).1,rfl⟩,by rw[hv.2];exact h2 l hl2⟩,fun u hu=>⟨s l.to,⟨(hl l hl2).2,rfl⟩,by rw[hu.2];exact h2 l hl2⟩⟩) (fun j x hx=>?_) k (s k) ⟨hk,rfl⟩;rw[hx.2];exact h1 j hx.1
noncomputable def ringB (l:Lk) (v:Nat):Bool:=@decide (l.R v v) (Classical.propDecidable _)
theorem ringB_iff{l:Lk}{v:Nat}:ringB l v=true↔l.R v v:=@decide_eq_true_iff _ (Classical.propDecidable _)
noncomputable def ringC (c:Ch) (l:Lk):Ch:=c.set l.fr ((atC c l.fr).filter (ringB l))
theorem ring_len(c:Ch)(l:Lk):(ringC c l).length=c.length:=by simp[ringC]
theorem rings_len(rs:List Lk):∀(c:Ch),(rs.foldl ringC c).length=c.length:=by
 induction rs with
 |nil=>intro c;rfl
 |cons r rs ih=>intro c;rw[yN,ih,ring_len]
theorem sol_ring{ls:List Lk}{m:Nat}{c:Ch}(hc:c.length=m){r:Lk}(hr:r.fr<m){s:Nat->Nat}:SolC ls m (ringC c r) s↔SolC ls m c s/\r.R (s r.fr) (s r.fr):=by
 have hat:∀k,atC (ringC c r) k=if r.fr=k then (atC c r.fr).filter (ringB r)else atC c k:=fun k=>atC_set c _ k (by omega)
 constructor
 . rintro⟨h1,h2⟩;refine⟨⟨fun k hk=>?_,h2⟩,?_⟩
   . have:=h1 k hk;rw[hat]at this;split at this
     . rename_i e;subst e;exact(zV.1 this).1
     . exact this
   . have:=h1 r.fr hr;rw[hat,if_pos rfl]at this;exact ringB_iff.1 (zV.1 this).2
 . rintro⟨⟨h1,h2⟩,h3⟩;refine⟨fun k hk=>?_,h2⟩;rw[hat];split
   . rename_i e;subst e;exact zV.2 ⟨h1 _ hk,ringB_iff.2 h3⟩
   . exact h1 k hk
theorem sol_rings{ls:List Lk}{m:Nat}{s:Nat->Nat}:∀(rs:List Lk) (c:Ch),c.length=m->(∀r∈rs,r.fr<m)->(SolC ls m (rs.foldl ringC c) s↔SolC ls m c s/\∀r∈rs,r.R (s r.fr) (s r.fr))
 |[],c,_,_=>by simp
 |r::rs,c,hc,hr=>by
  rw[yN,sol_rings rs (ringC c r) (by rw[ring_len];exact hc) (fun x hx=>hr x (zP _ hx)),sol_ring hc (hr r (zL ..))];simp only[List.forall_mem_cons];constructor
  . rintro⟨⟨h1,h2⟩,h3⟩;exact⟨h1,h2,h3⟩
  . rintro⟨h1,h2,h3⟩;exact⟨⟨h1,h2⟩,h3⟩
theorem ring_rise{c:Ch}(h:∀k,(atC c k).Pairwise (·<·))(r:Lk)(hr:r.fr<c.length):∀k,(atC (ringC c r) k).Pairwise (·<·):=fun k=>by
 rw[ringC,atC_set c _ k hr];split
 . exact(h _).filter _
 . exact h k
theorem narrow_rise{ls:List Lk}{c:Ch}(h:∀k,(atC c k).Pairwise (·<·)):∀k,(atC (narrowC ls c) k).Pairwise (·<·):=fun k=>by
 rw[narrow_at];exact(h k).filter _
theorem rings_rise:∀(rs:List Lk) (c:Ch),(∀r∈rs,r.fr<c.length)->(∀k,(atC c k).Pairwise (·<·))->∀k,(atC (rs.foldl ringC c) k).Pairwise (·<·)
 |[],_,_,h=>h
 |r::rs,c,hr,h=>by
  rw[yN];exact rings_rise rs _ (fun x hx=>by rw[ring_len];exact hr x (zP _ hx)) (ring_rise h r (hr r (zL ..)))
noncomputable def rowsN (ls rs:List Lk) (m:Nat) (us:List Nat) (c:Ch):List (List Nat):=fillL ls m us (narrowC ls (rs.foldl ringC (narrowC ls c))) []
theorem mem_rowsN{ls rs:List Lk}{m:Nat}{us:List Nat}{c:Ch}(hl:∀l∈ls,l.fr<m/\l.to<m)(hr:∀r∈rs,r.fr<m)(hu:∀u∈us,u<m)(hc:c.length=m)(r:List Nat):r∈rowsN ls rs m us c↔∃s,SolC ls m c s/\(∀r∈rs,r.R (s r.fr) (s r.fr))/\r=us.map s:=by
 have h2:(narrowC ls c).length=m:=by rw[narrow_len];exact hc
 rw[rowsN,mem_fill hl us _ _ _ hu (by rw[narrow_len,rings_len];exact h2)];constructor
 . rintro⟨s,h,e⟩;rw[sol_narrow hl,sol_rings rs _ h2 hr,sol_narrow hl]at h;exact⟨s,h.1,h.2,by simpa using e⟩
 . rintro⟨s,h,h1,e⟩;refine⟨s,?_,by simpa using e⟩;rw[sol_narrow hl,sol_rings rs _ h2 hr,sol_narrow hl];exact⟨h,h1⟩
theorem rowsN_rise{ls rs:List Lk}{m:Nat}{us:List Nat}{c:Ch}(hr:∀r∈rs,r.fr<m)(hu:∀u∈us,u<m)(hc:c.length=m)(hp:∀k,(atC c k).Pairwise (·<·)):(rowsN ls rs m us c).Pairwise (fun a b=>lessN a b=true):=by
 refine fill_rise us _ _ (narrow_rise (rings_rise rs _ (fun r h=>by rw[narrow_len];have:=hr r h;omega) (narrow_rise hp))) (fun u h=>?_);rw[narrow_len,rings_len,narrow_len];have:=hu u h;omega
def firstT(V:List Wd)(t:Tm):List Nat:=if t.1=true then List.range V.length else if t.2∈V then [V.idxOf t.2]else []
def lkOf(fs:List Fa)(ts:List Tm)(a:Pa):Lk:=⟨ts.idxOf a.1,ts.idxOf a.2.2,fun u v=>leadP fs a.2.1 ((vertsL fs).getD u []) ((vertsL fs).getD v [])⟩
def isRing(ts:List Tm)(a:Pa):Bool:=decide (ts.idxOf a.1=ts.idxOf a.2.2)
theorem firstT_lt(V:List Wd)(t:Tm):∀u∈firstT V t,u<V.length:=fun u hu=>by
 unfold firstT at hu;split at hu
 . exact yA.1 hu
 . split at hu
   . rename_i h;rw[zJ.1 hu];exact zZ h
   . simp at hu
theorem firstT_len(V:List Wd)(t:Tm):(firstT V t).length<=V.length+1:=by
 unfold firstT;split
 . simp
 . split<;>simp
theorem firstT_rise(V:List Wd)(t:Tm):(firstT V t).Pairwise (·<·):=by
 unfold firstT;split
 . exact List.pairwise_lt_range
 . split<;>simp
theorem getD_idx{V:List Wd}{x:Wd}(h:x∈V):V.getD (V.idxOf x) []=x:=by
 have:=zZ h;rw[List.getD,zB this];simp
theorem rowsN_spec(fs:List Fa){vars:List Wd}{ats:List Pa}{ts:List Tm}(hts:ts.Nodup)(hmem:∀t,t∈ts↔∃a∈ats,t=a.1\/t=a.2.2)(hv:∀v∈vars,v∈namesP ats):
 RiseL lessR ((rowsN ((ats.filter fun a=> !isRing ts a).map (lkOf fs ts)) ((ats.filter (isRing ts)).map (lkOf fs ts)) ts.length (vars.map fun v=>ts.idxOf ((true,v):Tm)) (ts.map (firstT (vertsL fs)))).map fun r=>r.map fun i=>(vertsL fs).getD i [])/\
 ∀r,r∈((rowsN ((ats.filter fun a=> !isRing ts a).map (lkOf fs ts)) ((ats.filter (isRing ts)).map (lkOf fs ts)) ts.length (vars.map fun v=>ts.idxOf ((true,v):Tm)) (ts.map (firstT (vertsL fs)))).map fun r=>r.map fun i=>(vertsL fs).getD i [])↔RowP fs vars ats r:=by
 obtain⟨V,hV⟩:∃V,V=vertsL fs:=⟨_,rfl⟩
 have hidx:∀a∈ats,ts.idxOf a.1<ts.length/\ts.idxOf a.2.2<ts.length:=fun a ha=>⟨zZ ((hmem _).2 ⟨a,ha,.inl rfl⟩),zZ ((hmem _).2 ⟨a,ha,.inr rfl⟩)⟩
 have hl:∀l∈(ats.filter fun a=> !isRing ts a).map (lkOf fs ts),l.fr<ts.length/\l.to<ts.length:=fun l hl=>by
  obtain⟨a,ha,rfl⟩:=zR.1 hl;exact hidx a (zV.1 ha).1
 have hr:∀l∈(ats.filter (isRing ts)).map (lkOf fs ts),l.fr<ts.length:=fun l hl=>by
  obtain⟨a,ha,rfl⟩:=zR.1 hl;exact(hidx a (zV.1 ha).1).1
 have hvt:∀v∈vars,((true,v):Tm)∈ts:=fun v h=>by
  obtain⟨a,ha,⟨h1,e⟩|⟨h1,e⟩⟩:=mem_namesP_iff.1 (hv v h)
  . exact(hmem _).2 ⟨a,ha,.inl (by rw[e,<- h1])⟩
  . exact(hmem _).2 ⟨a,ha,.inr (by rw[e,<- h1])⟩
 have hu:∀u∈vars.map (fun v=>ts.idxOf ((true,v):Tm)),u<ts.length:=fun u h=>by
  obtain⟨v,hv2,rfl⟩:=zR.1 h;exact zZ (hvt v hv2)
 have hcl:(ts.map (firstT V)).length=ts.length:=by simp
 have hat:∀k t,ts[k]?=some t->atC (ts.map (firstT V)) k=firstT V t:=fun k t h=>by
  unfold atC;rw[List.getD,zI,h];rfl
 have hp:∀k,(atC (ts.map (firstT V)) k).Pairwise (·<·):=fun k=>by
  by_cases hk:k<ts.length
  . rw[hat k _ (zB hk)];exact firstT_rise V _
  . unfold atC;rw[List.getD,yB (by simpa using hk)];simp
 have hti:∀t∈ts,ts[ts.idxOf t]?=some t:=fun t ht=>by
  rw[zB (zZ ht)];simp
 rw[<- hV];have hmemN:=mem_rowsN (c:=ts.map (firstT V)) hl hr hu hcl;have hsol:∀s,SolC ((ats.filter fun a=> !isRing ts a).map (lkOf fs ts)) ts.length (ts.map (firstT V)) s->(∀r∈(ats.filter (isRing ts)).map (lkOf fs ts),r.R (s r.fr) (s r.fr))->∀a∈ats,leadP fs a.2.1 (V.getD (s (ts.idxOf a.1)) []) (V.getD (s (ts.idxOf a.2.2)) []):=fun s h1 h2 a ha=>by
  cases hri:isRing ts a with
  |true=>
   have h3:=h2 _ (zU (zV.2 ⟨ha,hri⟩));have h4:ts.idxOf a.1=ts.idxOf a.2.2:=of_decide_eq_true hri;rw[hV,<- h4];exact h3
  |false=>
   rw[hV];exact h1.2 _ (zU (zV.2 ⟨ha,by rw[hri];rfl⟩))
 constructor
 . have h1:=rowsN_rise (ls:=(ats.filter fun a=> !isRing ts a).map (lkOf fs ts)) hr hu hcl hp;have hlt:∀r∈rowsN ((ats.filter fun a=> !isRing ts a).map (lkOf fs ts)) ((ats.filter (isRing ts)).map (lkOf fs ts)) ts.length (vars.map fun v=>ts.idxOf ((true,v):Tm)) (ts.map (firstT V)),∀x∈r,x<V.length:=fun r hr2 x hx=>by
    obtain⟨s,hs,_,e⟩:=(hmemN r).1 hr2;rw[e]at hx;obtain⟨u,hu2,rfl⟩:=zR.1 hx;have h3:=hs.1 u (hu u hu2);rw[hat u _ (zB (hu u hu2))]at h3;exact firstT_lt V _ _ h3
   unfold RiseL;rw[List.pairwise_map];refine List.Pairwise.imp_of_mem (fun {a b} ha hb hab=>?_) h1;rw[hV];exact less_names (verts_rise fs) a b (by rw[<- hV];exact hlt a ha) (by rw[<- hV];exact hlt b hb) hab
 . intro r;rw[zR];constructor
   . rintro⟨r0,hr0,rfl⟩;obtain⟨s,h1,h2,rfl⟩:=(hmemN r0).1 hr0;have h3:=hsol s h1 h2;refine⟨fun v=>V.getD (s (ts.idxOf ((true,v):Tm))) [],fun a ha=>?_,by rw[List.map_map,List.map_map];rfl⟩;have htv:∀t∈ts,tv (fun v=>V.getD (s (ts.idxOf ((true,v):Tm))) []) t=V.getD (s (ts.idxOf t)) []:=fun t ht=>by
      obtain⟨b,x⟩:=t;cases b with
      |true=>rfl
      |false=>
       have h4:=h1.1 (ts.idxOf ((false,x):Tm)) (zZ ht);rw[hat _ _ (hti _ ht)]at h4;unfold firstT at h4;rw[if_neg (by simp)]at h4;split at h4
       . rename_i hx;rw[zJ.1 h4,getD_idx hx];rfl
       . simp at h4
     rw[htv _ ((hmem _).2 ⟨a,ha,.inl rfl⟩),htv _ ((hmem _).2 ⟨a,ha,.inr rfl⟩)];exact h3 a ha
   . rintro⟨g,hg,e⟩;obtain⟨s,hs⟩:∃s:Nat->Nat,s=fun k=>V.idxOf (tv g (ts.getD k (false,[]))):=⟨_,rfl⟩
     have hst:∀t∈ts,s (ts.idxOf t)=V.idxOf (tv g t):=fun t ht=>by
      rw[hs];dsimp only;rw[List.getD,hti t ht];rfl
     have htv:∀t∈ts,tv g t∈V:=fun t ht=>by
      obtain⟨a,ha,rfl|rfl⟩:=(hmem t).1 ht
      . rw[hV];exact(hg a ha).1
      . rw[hV];exact lead_vert (hg a ha)
     have hget:∀t∈ts,V.getD (s (ts.idxOf t)) []=tv g t:=fun t ht=>by
      rw[hst t ht];exact getD_idx (htv t ht)
     have hlead:∀a∈ats,(lkOf fs ts a).R (s (lkOf fs ts a).fr) (s (lkOf fs ts a).to):=fun a ha=>by
      show leadP fs a.2.1 ((vertsL fs).getD (s (ts.idxOf a.1)) []) ((vertsL fs).getD (s (ts.idxOf a.2.2)) []);rw[<- hV,hget _ ((hmem _).2 ⟨a,ha,.inl rfl⟩),hget _ ((hmem _).2 ⟨a,ha,.inr rfl⟩)];exact hg a ha
     refine⟨vars.map fun v=>s (ts.idxOf ((true,v):Tm)),(hmemN _).2 ⟨s,⟨fun k hk=>?_,fun l hl2=>?_⟩,fun l hl2=>?_,by rw[List.map_map];rfl⟩,?_⟩
     . have hk2:ts[k]?=some ts[k]:=zB hk;have hidk:ts.idxOf ts[k]=k:=by
        have:=hti ts[k] (List.getElem_mem hk);exact(List.getElem?_inj (zZ (List.getElem_mem hk)) hts).1 (by rw[this,hk2])
       rw[hat k _ hk2];have h5:=hst ts[k] (List.getElem_mem hk);rw[hidk]at h5;rw[h5];have h6:=htv ts[k] (List.getElem_mem hk);unfold firstT;obtain⟨t,ht⟩:∃t,t=ts[k]:=⟨_,rfl⟩
       rw[<- ht]at h6 ⊢;obtain⟨b,x⟩:=t;cases b with
       |true=>
        rw[if_pos rfl];exact yA.2 (zZ h6)
       |false=>
        have h7:tv g (false,x)=x:=rfl;rw[h7]at h6 ⊢;rw[if_neg (by simp),if_pos h6];exact zJ.2 rfl
     . obtain⟨a,ha,rfl⟩:=zR.1 hl2;exact hlead a (zV.1 ha).1
     . obtain⟨a,ha,rfl⟩:=zR.1 hl2;have h8:=hlead a (zV.1 ha).1;have h9:(lkOf fs ts a).fr=(lkOf fs ts a).to:=of_decide_eq_true (zV.1 ha).2;rw[<- h9]at h8;exact h8
     . rw[e,List.map_map];refine yQ fun v hv2=>?_
       exact hget _ (hvt v hv2)
end Go.Proofs.YtdalcipmpelifaaGreatDoor
namespace Go.Proofs.YtdalcipmpelifaaGreatDoor
open Go.RowKit Go.Shelf
theorem wpList_make_many(w:World){ops:Array Oper}{rest:List Oper}{o:Oper}{a:Act}{Q:Exit->Act->World->Prop}
 (hg:o.guard=none) (l c:Operand) (t:TypeId) (hop:o.op=Op.makeSlice t l c)
 (e:TypeId) (i:TypeInfo) (z:Value) (ht:Tryz.prog.underlying t=some (.slice e)) (hi:Tryz.prog.info? e=some i) (hz:i.zero=some z) (k:Nat) (hsize:i.size=k) (zs:Array Value) (hz1:z.cells=zs)
 (kl kc:IntKind) (n:Nat) (hl:a.eval l=.int kl (n:Int)) (hc:a.eval c=.int kc (n:Int)) (hbytes:i.bytes*n<=281474976710656) (h63:n<=9223372036854775807)
 (hK:wpList Tryz.prog ops Q rest (a.put o.dst (.slice (some ⟨w.heap.size,0,none⟩) n n)) (w.alloc (.cells (madeCells zs (n*k)) e))):
 wpList Tryz.prog ops Q (o::rest) a w:=by
 refine wpList_plain hg fun K hK'=>?_
 have hb':(i.bytes:Int)*(n:Int)<=281474976710656:=by
  have h:((i.bytes*n:Nat):Int)<=281474976710656:=by omega
  rwa[Int.natCast_mul]at h
 have hrun:=run_make (P:=Tryz.prog) w t e i z ht hi hz kl kc n n (by omega) (Int.le_refl _) hb' (by omega);simp only[Int.toNat_natCast,hsize,hz1]at hrun;unfold Oper.wp;simp[execOp,hop,hl,hc,hrun,Result.andThen];exact hK' _ _ hK
def KF(w:World)(kb n:Nat)(f:Nat->Vt):Prop:=
 ∃cur:Array Value,w.heap[kb]?=some (.cells cur 25 (0,0))/\cur.size=n*3/\∀p,p<n->cur[p*3]?=some (.int .i64 (f p).kind)/\cur[p*3+1]?=some (.string ⟨(f p).word.toArray⟩)/\cur[p*3+2]?=some (f p).val
theorem KF.lt{w:World}{kb n:Nat}{f:Nat->Vt}(h:KF w kb n f):kb<w.heap.size:=by
 obtain⟨cur,h1,_⟩:=h;exact lt_of_block h1
theorem KF.get{w:World}{kb n:Nat}{f:Nat->Vt}(h:KF w kb n f){p:Nat}(hp:p<n):(w.cell? ⟨kb,p*3,none⟩=some (.int .i64 (f p).kind)/\w.cell? ⟨kb,p*3+1,none⟩=some (.string ⟨(f p).word.toArray⟩)/\w.cell? ⟨kb,p*3+2,none⟩=some (f p).val)/\w.frozen? ⟨kb,p*3,none⟩=false/\w.frozen? ⟨kb,p*3+1,none⟩=false/\w.frozen? ⟨kb,p*3+2,none⟩=false:=by
 obtain⟨cur,h1,_,h3⟩:=h;obtain⟨a1,a2,a3⟩:=h3 p hp;exact⟨⟨by simp only[World.cell?,h1];exact a1,by simp only[World.cell?,h1];exact a2,by simp only[World.cell?,h1];exact a3⟩,by simp[World.frozen?,h1],by simp[World.frozen?,h1],by simp[World.frozen?,h1]⟩
theorem KF.keep{w w':World}{kb n:Nat}{f:Nat->Vt}(h:KF w kb n f)(hk:w'.heap[kb]?=w.heap[kb]?):KF w' kb n f:=by
 obtain⟨cur,h1,h2⟩:=h;exact⟨cur,hk.trans h1,h2⟩
def set3K(w:World)(b o:Nat)(c0 c1 c2:Value):World:=((w.setCell ⟨b,o,none⟩ c0).setCell ⟨b,o+1,none⟩ c1).setCell ⟨b,o+2,none⟩ c2
theorem set3K_size(w:World)(b o:Nat)(c0 c1 c2:Value):(set3K w b o c0 c1 c2).heap.size=w.heap.size:=by simp[set3K]
theorem set3K_other(w:World)(b o:Nat)(c0 c1 c2:Value){k:Nat}(hk:k≠b):(set3K w b o c0 c1 c2).heap[k]?=w.heap[k]?:=by
 unfold set3K;rw[zM _ ⟨b,o+2,none⟩ _ _ hk,zM _ ⟨b,o+1,none⟩ _ _ hk,zM _ ⟨b,o,none⟩ _ _ hk]
theorem set3K_at{w:World}{b o:Nat}{c0 c1 c2:Value}{cur:Array Value}{t:TypeId}(h:w.heap[b]?=some (.cells cur t (0,0))):(set3K w b o c0 c1 c2).heap[b]?=some (.cells (((cur.setIfInBounds o c0).setIfInBounds (o+1) c1).setIfInBounds (o+2) c2) t (0,0)):=by
 simp[set3K,World.setCell,Array.getElem?_modify,h]
theorem below_set3K{B:Nat}{w w':World}(h:Below B w w'){b:Nat}(hb:B<=b)(o:Nat)(c0 c1 c2:Value):Below B w (set3K w' b o c0 c1 c2):=by
 refine⟨h.os,h.tape,h.output,by rw[set3K_size];exact h.size,fun k hk=>?_⟩;rw[set3K_other _ _ _ _ _ _ (by omega)];exact h.block k hk
theorem KF.set{w:World}{kb n:Nat}{f:Nat->Vt}(h:KF w kb n f)(i:Nat)(hi:i<n)(x:Vt):KF (set3K w kb (i*3) (.int .i64 x.kind) (.string ⟨x.word.toArray⟩) x.val) kb n (fun p=>if p=i then x else f p):=by
 obtain⟨cur,h1,h2,h3⟩:=h;refine⟨_,set3K_at h1,by simp[h2],fun p hp=>?_⟩;simp only[Array.getElem?_setIfInBounds,Array.size_setIfInBounds];by_cases e:p=i
 . subst e;simp only[if_pos];refine⟨?_,?_,?_⟩
   . rw[if_neg (by omega),if_neg (by omega),if_pos (by omega)]
   . rw[if_neg (by omega),if_pos (by omega)]
   . rw[if_pos (by omega)]
 . rw[if_neg e];refine⟨?_,?_,?_⟩
   . rw[if_neg (by omega),if_neg (by omega),if_neg (by omega)];exact(h3 p hp).1
   . rw[if_neg (by omega),if_neg (by omega),if_neg (by omega)];exact(h3 p hp).2.1
   . rw[if_neg (by omega),if_neg (by omega),if_neg (by omega)];exact(h3 p hp).2.2
abbrev vt0:Vt:=⟨0,[],.slice none 0 0,[]⟩
theorem KF.made(w:World)(n:Nat):KF (w.alloc (.cells (madeCells #[.int .i64 0,.string ⟨#[]⟩,.slice none 0 0] (n*3)) 25)) w.heap.size n (fun _=>vt0):=by
 refine⟨_,heap_alloc_new _ _,size_madeCells _ _,fun p hp=>?_⟩;have h0:∀j,j<n*3->(madeCells #[.int .i64 0,.string ⟨#[]⟩,.slice none 0 0] (n*3))[j]?=some (#[Value.int .i64 0,.string ⟨#[]⟩,.slice none 0 0][j%3]!):=fun j hj=>by
  unfold madeCells;rw[Array.getElem?_map,Array.getElem?_range,if_pos hj];rfl
 refine⟨?_,?_,?_⟩
 . rw[h0 _ (by omega),show p*3%3=0 by omega];rfl
 . rw[h0 _ (by omega),show (p*3+1)%3=1 by omega];rfl
 . rw[h0 _ (by omega),show (p*3+2)%3=2 by omega];rfl
theorem KF.sl{w:World}{kb n:Nat}{f:Nat->Vt}(h:KF w kb n f):NodS (fun k=>k=kb) w (.slice (some ⟨kb,0,none⟩) n n) ((List.range n).map f):=by
 refine⟨_,n,by simp,.inr ⟨kb,0,rfl,rfl,h.lt,fun j x hx c u hu=>?_⟩⟩;rw[zI]at hx;have hj:j<n:=by
  by_cases hj:j<n
  . exact hj
  . rw[yB (by simp;omega)]at hx;simp at hx
 rw[yO hj]at hx;simp at hx;subst hx;obtain⟨⟨a1,a2,a3⟩,_⟩:=h.get hj
 match c,hu with
 |0,hu=>simp at hu;subst hu;simpa using a1
 |1,hu=>simp at hu;subst hu;simpa using a2
 |2,hu=>simp at hu;subst hu;simpa using a3
 |c+3,hu=>simp at hu
def revF(f:Nat->Vt)(n i:Nat)(p:Nat):Vt:=if p<i\/n-i<=p then f (n-1-p)else f p
theorem revF_zero(f:Nat->Vt)(n:Nat):∀p,p<n->revF f n 0 p=f p:=fun p hp=>by
 unfold revF;rw[if_neg (by omega)]
theorem KF.congr{w:World}{kb n:Nat}{f g:Nat->Vt}(h:KF w kb n f)(hfg:∀p,p<n->g p=f p):KF w kb n g:=by
 obtain⟨cur,h1,h2,h3⟩:=h;exact⟨cur,h1,h2,fun p hp=>by rw[hfg p hp];exact h3 p hp⟩
set_option maxHeartbeats 8000000 in
theorem revP_any{w:World}{kb n:Nat}{f:Nat->Vt}(h:KF w kb n f)(hn:n<=1000)(hv:∀p,p<n->∃a k c,(f p).val=.slice a k c):
 Calls Tryz.prog 71 #[.slice (some ⟨kb,0,none⟩) n n] w fun e w'=>e=.returned (.tuple #[])/\KF w' kb n (fun p=>f (n-1-p))/\Below kb w w'/\(∀k,k≠kb->w'.heap[k]?=w.heap[k]?)/\w'.heap.size=w.heap.size:=by
 have H:=zA h;have HV:=zA hv;clear h hv;go_enter Tryz.func71,Tryz.ntmps71;go_wp2_with fail;go_loopw [2,3] (fun a b wr=>∃(i:Nat) (z:Int),2*i<=n+1/\a=.int .i64 i/\b=.int .i64 z/\Hid (z=(n:Int)-1-i)/\Hid (KF wr kb n (revF f n i))/\Hid (Below kb w wr)/\Hid (∀k,k≠kb->wr.heap[k]?=w.heap[k]?)/\Hid (wr.heap.size=w.heap.size)) (fun a _ _=>n-(intOf a).toNat)
 case atStart=>exact⟨0,_,by omega,rfl,rfl,zA (by go_num),zA (H.out.congr (revF_zero f n)),zA (zF _ _),zA (fun _ _=>rfl),zA rfl⟩
 case round=>
  obtain⟨i,z,hi,rfl,rfl,HZ,HK,HB,HO,HS⟩:=hrel;obtain⟨wx,hwx⟩:∃wx,wx=wr:=⟨_,rfl⟩
  subst hwx;by_cases hlt:(i:Int)<z
  . obtain⟨j,hj⟩:∃j:Nat,z=j:=⟨z.toNat,by omega⟩
    have hjn:j+i+1=n:=by have:=HZ.out;omega
    subst hj;have hij:i<j:=by omega
    have hjn2:j<n:=by omega
    have hin2:i<n:=by omega
    have hiI:(i:Int)<(n:Int):=by omega
    have hjI:(j:Int)<(n:Int):=by omega
    have ei:revF f n i i=f i:=by unfold revF;rw[if_neg (by omega)]
    have ej:revF f n i j=f j:=by unfold revF;rw[if_neg (by omega)]
    obtain⟨⟨a1,a2,a3⟩,b1,b2,b3⟩:=HK.out.get hin2;obtain⟨⟨d1,d2,d3⟩,e1,e2,e3⟩:=HK.out.get hjn2;obtain⟨va,vk,vc,hvi⟩:=HV.out i hin2;obtain⟨ua,uk,uc,huj⟩:=HV.out j hjn2;rw[ei,hvi]at a3;rw[ei]at a1 a2;rw[ej,huj]at d3;rw[ej]at d1 d2;obtain⟨W1,hW1⟩:∃W,W=set3K wx kb (i*3) (.int .i64 (f j).kind) (.string ⟨(f j).word.toArray⟩) (.slice ua uk uc):=⟨_,rfl⟩
    have hk1:KF W1 kb n (fun p=>if p=i then f j else revF f n i p):=by
     rw[hW1,<- huj];exact HK.out.set i hin2 (f j)
    obtain⟨⟨x1,x2,x3⟩,y1,y2,y3⟩:=hk1.get hjn2;rw[if_neg (by omega),ej]at x1 x2 x3;rw[huj]at x3;obtain⟨W2,hW2⟩:∃W,W=set3K W1 kb (j*3) (.int .i64 (f i).kind) (.string ⟨(f i).word.toArray⟩) (.slice va vk vc):=⟨_,rfl⟩
    have HK2:Hid (KF W2 kb n (revF f n (i+1))):=zA (by
     have h2:=hk1.set j hjn2 (f i);rw[hvi,<- hW2]at h2;refine h2.congr (fun p hp=>?_);unfold revF;by_cases p1:p=j
     . subst p1;rw[if_pos rfl,if_pos (by omega),show n-1-p=i by omega]
     . rw[if_neg p1];by_cases p2:p=i
       . subst p2;rw[if_pos rfl,if_pos (by omega),show n-1-p=j by omega]
       . rw[if_neg p2];by_cases p3:p<i\/n-i<=p
         . rw[if_pos p3,if_pos (by omega)]
         . rw[if_neg p3,if_neg (by omega)])
    have HB2:Hid (Below kb w W2):=zA (by rw[hW2,hW1];exact below_set3K (below_set3K HB.out (zD _) _ _ _ _) (zD _) _ _ _ _);have HO2:Hid (∀k,k≠kb->W2.heap[k]?=w.heap[k]?):=zA (fun k hk=>by rw[hW2,set3K_other _ _ _ _ _ _ hk,hW1,set3K_other _ _ _ _ _ _ hk];exact HO.out k hk);have HS2:Hid (W2.heap.size=w.heap.size):=zA (by rw[hW2,set3K_size,hW1,set3K_size];exact HS.out);have HW2:Hid (W2=((((((wx.setCell ⟨kb,i*3,none⟩ (.int .i64 (f j).kind)).setCell ⟨kb,i*3+1,none⟩ (.string ⟨(f j).word.toArray⟩)).setCell ⟨kb,i*3+2,none⟩ (.slice ua uk uc)).setCell ⟨kb,j*3,none⟩ (.int .i64 (f i).kind)).setCell ⟨kb,j*3+1,none⟩ (.string ⟨(f i).word.toArray⟩)).setCell ⟨kb,j*3+2,none⟩ (.slice va vk vc))):=zA (by rw[hW2,hW1];rfl);rw[hW1]at x1 x2 x3 y1 y2 y3;unfold set3K at x1 x2 x3 y1 y2 y3;obtain⟨ki,hki⟩:∃q,q=(f i).kind:=⟨_,rfl⟩
    obtain⟨kj,hkj⟩:∃q,q=(f j).kind:=⟨_,rfl⟩
    obtain⟨si,hsi⟩:∃q,q=(f i).word.toArray:=⟨_,rfl⟩
    obtain⟨sj,hsj⟩:∃q,q=(f j).word.toArray:=⟨_,rfl⟩
    rw[<- hki,<- hkj,<- hsi,<- hsj]at HW2;rw[<- hki]at a1;rw[<- hsi]at a2;rw[<- hkj]at d1;rw[<- hsj]at d2;rw[<- hkj,<- hsj]at x1 x2 x3 y1 y2 y3;have h2i:2*(i+1)<=n+1:=by omega
    clear hk1 hW1 hW2 hki hkj hsi hsj ei ej hvi huj hjn;go_wp2_with fail;go_region;all_goals (
     go_wp2;go_roundw
     case rel=>exact⟨i+1,_,h2i,by go_num,rfl,zA (by have:=HZ.out;go_num),by rw[<- HW2.out];exact zA (HK2.out.keep rfl),by rw[<- HW2.out];exact zA HB2.out.drew,by rw[<- HW2.out];exact zA HO2.out,by rw[<- HW2.out];exact zA HS2.out⟩
     case measure=>simp[intOf];omega)
  . have hni:n-i<=i+1:=by have:=HZ.out;omega
    have HK2:Hid (KF wx kb n (fun p=>f (n-1-p))):=zA (HK.out.congr (fun p hp=>by
     unfold revF;by_cases p1:p<i\/n-i<=p
     . rw[if_pos p1]
     . rw[if_neg p1,show n-1-p=p by omega]))
    go_wp2;go_end0;exact⟨rfl,HK2.out,HB.out,HO.out,HS.out⟩
end Go.Proofs.YtdalcipmpelifaaGreatDoor
