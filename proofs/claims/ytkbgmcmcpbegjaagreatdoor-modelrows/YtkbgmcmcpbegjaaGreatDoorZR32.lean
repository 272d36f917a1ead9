/- XMath4, XTurnP. -/
import Derived.Test.YtkbgmcmcpbegjaaGreatDoorZR31
import Derived.Test.YtkbgmcmcpbegjaaGreatDoorZR27
import Derived.Laws.MakeOwn
set_option maxRecDepth 100000
set_option maxHeartbeats 8000000
namespace Go.Proofs.YtkbgmcmcpbegjaaGreatDoor
open Go.RowKit
def jaQ:Pt->Pt
 |⟨k,w,kids⟩=>⟨k,w,if k=2 then (kids.map jaQ).reverse else kids.map jaQ⟩
theorem jdZ(k:Int)(w:List UInt8)(kids:List Pt):jaQ ⟨k,w,kids⟩=⟨k,w,if k=2 then (kids.map jaQ).reverse else kids.map jaQ⟩:=by rw[jaQ]
theorem jkx(k:Int)(kids:List Pt):(if k=2 then (kids.map jaQ).reverse else kids.map jaQ).length=kids.length:=by
 split<;>simp
theorem jkF(k:Int)(kids:List Pt)(y:Pt):y∈(if k=2 then (kids.map jaQ).reverse else kids.map jaQ)↔∃x∈kids,y=jaQ x:=by
 split<;>simp[eq_comm]
theorem jef:∀(d:Nat) (t:Pt),jaf d t=true->jaf d (jaQ t)=true
 |0,_,h=>by simp[jaf]at h
 |d+1,⟨k,w,kids⟩,h=>by
  rw[jdZ,jaf,jkx];rw[jaf]at h;simp only[Bool.and_eq_true,yF]at h ⊢;refine⟨h.1,fun y hy=>?_⟩;obtain⟨x,hx,rfl⟩:=(jkF k kids y).1 hy;exact jef d x (h.2 x hx)
theorem jhq:∀t,jap (jaQ t)=jap t:=by
 intro t;induction t using Pt.ind with
 |h k w kids ih=>
  rw[jdZ,jaJ,jaJ];have e:(kids.map jaQ).map jap=kids.map jap:=by
   rw[List.map_map];exact yR fun x hx=>ih x hx
  by_cases h1:k=1
  . rw[if_pos h1,if_pos h1]
  . rw[if_neg h1,if_neg h1];by_cases h2:k=2
    . rw[if_pos h2,List.map_reverse,List.sum_reverse,e]
    . rw[if_neg h2,e]
theorem jce{t:Pt}(h:mayP t=true):mayP (jaQ t)=true:=by
 simp only[mayP,Bool.and_eq_true,decide_eq_true_eq]at h ⊢;rw[jhq];exact⟨jef 12 t h.1,h.2⟩
theorem jee(f:List Wd->Prop):∀(fs:List (List Wd->Prop)) (l:List Wd),seqL (fs++[f]) l↔∃a b,l=a++b/\seqL fs a/\f b
 |[],l=>by
  constructor
  . rintro⟨a,b,e,h1,h2⟩;have h2:b=[]:=h2;exact⟨[],a,by rw[e,h2];simp,rfl,h1⟩
  . rintro⟨a,b,e,h1,h2⟩;have h1:a=[]:=h1;exact⟨b,[],by rw[e,h1];simp,h2,rfl⟩
 |g::fs,l=>by
  constructor
  . rintro⟨a,b,e,h1,h2⟩;obtain⟨c,d,e2,h3,h4⟩:=(jee f fs b).1 h2;exact⟨a++c,d,by rw[e,e2,List.append_assoc],⟨a,c,rfl,h1,h3⟩,h4⟩
  . rintro⟨a,b,e,⟨c,d,e2,h1,h2⟩,h4⟩;exact⟨c,d++b,by rw[e,e2,List.append_assoc],h1,(jee f fs _).2 ⟨d,b,rfl,h2,h4⟩⟩
def RevL(f g:List Wd->Prop):Prop:=∀l,g l↔f l.reverse
theorem jhQ:∀(fs gs:List (List Wd->Prop)),fs.length=gs.length->(∀(i:Nat) f g,fs[i]?=some f->gs[i]?=some g->RevL f g)->∀l,seqL gs.reverse l↔seqL fs l.reverse
 |[],[],_,_,l=>by simp[seqL]
 |[],g::gs,h,_,_=>by simp at h
 |f::fs,[],h,_,_=>by simp at h
 |f::fs,g::gs,h,hr,l=>by
  have ih:=jhQ fs gs (by simpa using h) (fun i a b ha hb=>hr (i+1) a b (by simpa using ha) (by simpa using hb));have h0:=hr 0 f g rfl rfl;rw[List.reverse_cons,jee];constructor
  . rintro⟨a,b,e,h1,h2⟩;exact⟨b.reverse,a.reverse,by rw[e,List.reverse_append],(h0 b).1 h2,(ih a).1 h1⟩
  . rintro⟨a,b,e,h1,h2⟩;refine⟨b.reverse,a.reverse,?_,(ih _).2 (by rw[List.reverse_reverse];exact h2),(h0 _).2 (by rw[List.reverse_reverse];exact h1)⟩;rw[<- List.reverse_append,<- e,List.reverse_reverse]
theorem jet{f g:List Wd->Prop}(h:RevL f g):RevL (jf1 f) (jf1 g):=fun l=>by
 constructor
 . rintro⟨ls,e,h1⟩;refine⟨(ls.map List.reverse).reverse,?_,fun x hx=>?_⟩
   . rw[e,List.reverse_flatten]
   . obtain⟨y,hy,rfl⟩:=zV.1 (List.mem_reverse.1 hx);exact(h y).1 (h1 y hy)
 . rintro⟨ls,e,h1⟩;refine⟨(ls.map List.reverse).reverse,?_,fun x hx=>?_⟩
   . rw[<- List.reverse_flatten,<- e,List.reverse_reverse]
   . obtain⟨y,hy,rfl⟩:=zV.1 (List.mem_reverse.1 hx);exact(h _).2 (by rw[List.reverse_reverse];exact h1 y hy)
theorem jiA{f:List Wd->Prop}{l:List Wd}:jeQ f l↔∃a b,l=a++b/\jf1 f a/\f b:=by
 constructor
 . rintro⟨a,b,e,h1,ls,e2,h2⟩;obtain⟨ms,ac⟩:=eX (a::ls);have aa:∀x∈ms,f x:=fun x hx=>by
    rw[ac]at hx;rcases yB.1 hx with rfl|hx
    . exact h1
    . exact h2 x hx
   have ab:ms≠[]:=by rw[ac];simp
   refine⟨ms.dropLast.flatten,ms.getLast ab,?_,⟨ms.dropLast,rfl,fun x hx=>aa x (List.dropLast_subset ms hx)⟩,aa _ (List.getLast_mem ab)⟩;have h3:ms.dropLast++[ms.getLast ab]=ms:=List.dropLast_concat_getLast ab;have h4:ms.flatten=l:=by rw[ac,List.flatten_cons,e,e2]
   rw[<- h4];conv=>lhs;rw[<- h3]
   simp
 . rintro⟨a,b,e,⟨ls,e2,h2⟩,h1⟩;cases ls with
   |nil=>
    refine⟨b,[],?_,h1,[],rfl,fun x hx=>by simp at hx⟩;rw[e,e2];simp
   |cons c ls=>
    refine⟨c,(ls++[b]).flatten,?_,h2 c (zN ..),ls++[b],rfl,fun x hx=>?_⟩
    . rw[e,e2];simp
    . rcases zL.1 hx with hx|hx
      . exact h2 x (zR _ hx)
      . rw[zK.1 hx];exact h1
theorem ji7{f g:List Wd->Prop}(h:RevL f g):RevL (jeQ f) (jeQ g):=fun l=>by
 rw[jiA];constructor
 . rintro⟨a,b,e,h1,h2⟩;exact⟨b.reverse,a.reverse,by rw[e,List.reverse_append],(h b).1 h2,(jet h a).1 h1⟩
 . rintro⟨a,b,e,h1,h2⟩;refine⟨b.reverse,a.reverse,?_,(jet h _).2 (by rw[List.reverse_reverse];exact h2),(h _).2 (by rw[List.reverse_reverse];exact h1)⟩;rw[<- List.reverse_append,<- e,List.reverse_reverse]
theorem jkP{kids:List Pt}(ih:∀x∈kids,RevL (jbe x) (jbe (jaQ x))):RevL (altL (kids.map jbe)) (altL ((kids.map jaQ).map jbe)):=fun l=>by
 constructor
 . rintro⟨f,hf,h⟩;obtain⟨y,hy,rfl⟩:=zV.1 hf;obtain⟨x,hx,rfl⟩:=zV.1 hy;exact⟨jbe x,zW hx,(ih x hx l).1 h⟩
 . rintro⟨f,hf,h⟩;obtain⟨x,hx,rfl⟩:=zV.1 hf;exact⟨jbe (jaQ x),zW (zW hx),(ih x hx l).2 h⟩
theorem jgt:∀t,RevL (jbe t) (jbe (jaQ t)):=by
 intro t;induction t using Pt.ind with
 |h k w kids ih=>
  intro l;have ha:=jkP ih;rw[jdZ,jcL,jcL];unfold jfP;by_cases h1:k=1
  . rw[if_pos h1,if_pos h1];constructor
    . rintro rfl;rfl
    . intro h;rw[<- List.reverse_reverse l,h];rfl
  . rw[if_neg h1,if_neg h1];by_cases h2:k=2
    . rw[if_pos h2,if_pos h2,if_pos h2,List.map_reverse];refine jhQ _ _ (by simp) (fun i f g hf hg=>?_) l;rw[zI]at hf hg;rw[zI]at hg;cases hx:kids[i]? with
      |none=>rw[hx]at hf;simp at hf
      |some x=>
       rw[hx]at hf hg;simp at hf hg;subst hf hg;exact ih x (zC hx)
    . rw[if_neg h2,if_neg h2,if_neg h2];split
      . exact jet ha l
      . split
        . exact ji7 ha l
        . split
          . have h3:(l=[]↔l.reverse=[]):=by simp
            rw[h3,ha l]
          . exact ha l
theorem jhU{E:List Eg}:∀(l:List Wd) (x y:Nat),goE (E.map turnE) x l y↔goE E y l.reverse x:=by
 have aa:∀(E:List Eg) (l:List Wd) (x y:Nat),goE E x l y->goE (E.map turnE) y l.reverse x:=by
  intro E l;induction l with
  |nil=>intro x y h;exact Eq.symm h
  |cons p l ih=>
   rintro x y ⟨z,hz,h⟩;rw[List.reverse_cons];exact jfQ _ _ _ _ _ (ih z y h) (zV.2 ⟨(x,p,z),hz,rfl⟩)
 have hE:(E.map turnE).map turnE=E:=by
  rw[List.map_map];conv=>rhs;rw[<- List.map_id E]
  exact yR fun e _=>rfl
 intro l x y;constructor
 . intro h;have:=aa (E.map turnE) l x y h;rw[hE]at this;exact this
 . intro h;have:=aa E l.reverse y x h;rw[List.reverse_reverse]at this;exact this
theorem jhH{kp:Nat->Prop}{fs:List Fa}{p:Pt}(hp:mayP p=true){x y:Nat}{X Y:Wd}(hx:(jac fs)[x]?=some X)(hy:(jac fs)[y]?=some Y):(sdOf kp (jac fs).length ((fs.map (egOf (jac fs))).map turnE) (jaF (jaQ p))).leads [y] x↔jbJ fs p X Y:=by
 obtain⟨hm,hw⟩:=jc1 (jce hp);rw[jgQ hm (fun e he=>by
  obtain⟨e',aa,rfl⟩:=zV.1 he;have:=jhd fs e' aa;exact⟨this.2,this.1⟩)]
 have hf:∀f∈fs,f.1∈jac fs/\f.2.2∈jac fs:=fun f hf=>⟨jax.2 ⟨f,hf,.inl rfl⟩,jax.2 ⟨f,hf,.inr rfl⟩⟩
 unfold jbJ ja0;constructor
 . rintro⟨l,hg,ha⟩;exact⟨zC hx,l.reverse,(jgt p l).1 ((hw l).1 ha),(jfx (jca fs) hf _ x y X Y hx hy).1 ((jhU l y x).1 hg)⟩
 . rintro⟨_,l,ha,hg⟩;refine⟨l.reverse,(jhU _ y x).2 (by rw[List.reverse_reverse];exact(jfx (jca fs) hf _ x y X Y hx hy).2 hg),(hw _).2 ((jgt p _).2 ?_)⟩;rw[List.reverse_reverse];exact ha
theorem jcx{ls:List Lk}{m:Nat}(hl:∀l∈ls,l.fr<m/\l.to<m){c:Ch}{s:Nat->Nat}:SolC ls m (jaH ls c) s↔SolC ls m c s:=by
 constructor
 . rintro⟨h1,h2⟩;exact⟨fun k hk=>jbS (h1 k hk),h2⟩
 . rintro⟨h1,h2⟩;refine⟨fun k hk=>?_,h2⟩;refine jdv (D:=fun j x=>j<m/\x=s j) (fun l hl2=>⟨fun v hv=>⟨s l.fr,⟨(hl l hl2).1,rfl⟩,by rw[hv.2];exact h2 l hl2⟩,fun u hu=>⟨s l.to,⟨(hl l hl2).2,rfl⟩,by rw[hu.2];exact h2 l hl2⟩⟩) (fun j x hx=>?_) k (s k) ⟨hk,rfl⟩;rw[hx.2];exact h1 j hx.1
noncomputable def jiz (l:Lk) (v:Nat):Bool:=@decide (l.R v v) (Classical.propDecidable _)
theorem jeI{l:Lk}{v:Nat}:jiz l v=true↔l.R v v:=@decide_eq_true_iff _ (Classical.propDecidable _)
noncomputable def jcn (c:Ch) (l:Lk):Ch:=c.set l.fr ((atC c l.fr).filter (jiz l))
theorem jd9(c:Ch)(l:Lk):(jcn c l).length=c.length:=by simp[jcn]
theorem jge(rs:List Lk):∀(c:Ch),(rs.foldl jcn c).length=c.length:=by
 induction rs with
 |nil=>intro c;rfl
 |cons r rs ih=>intro c;rw[yN,ih,jd9]
theorem jkh{ls:List Lk}{m:Nat}{c:Ch}(hc:c.length=m){r:Lk}(hr:r.fr<m){s:Nat->Nat}:SolC ls m (jcn c r) s↔SolC ls m c s/\r.R (s r.fr) (s r.fr):=by
 have aa:∀k,atC (jcn c r) k=if r.fr=k then (atC c r.fr).filter (jiz r)else atC c k:=fun k=>jbi c _ k (by omega)
 constructor
 . rintro⟨h1,h2⟩;refine⟨⟨fun k hk=>?_,h2⟩,?_⟩
   . have:=h1 k hk;rw[aa]at this;split at this
     . rename_i e;subst e;exact(zY.1 this).1
     . exact this
   . have:=h1 r.fr hr;rw[aa,if_pos rfl]at this;exact jeI.1 (zY.1 this).2
 . rintro⟨⟨h1,h2⟩,h3⟩;refine⟨fun k hk=>?_,h2⟩;rw[aa];split
   . rename_i e;subst e;exact zY.2 ⟨h1 _ hk,jeI.2 h3⟩
   . exact h1 k hk
theorem jeq{ls:List Lk}{m:Nat}{s:Nat->Nat}:∀(rs:List Lk) (c:Ch),c.length=m->(∀r∈rs,r.fr<m)->(SolC ls m (rs.foldl jcn c) s↔SolC ls m c s/\∀r∈rs,r.R (s r.fr) (s r.fr))
 |[],c,_,_=>by simp
 |r::rs,c,hc,hr=>by
  rw[yN,jeq rs (jcn c r) (by rw[jd9];exact hc) (fun x hx=>hr x (zR _ hx)),jkh hc (hr r (zN ..))];simp only[List.forall_mem_cons];constructor
  . rintro⟨⟨h1,h2⟩,h3⟩;exact⟨h1,h2,h3⟩
  . rintro⟨h1,h2,h3⟩;exact⟨⟨h1,h2⟩,h3⟩
theorem jjX{c:Ch}(h:∀k,(atC c k).Pairwise (·<·))(r:Lk)(hr:r.fr<c.length):∀k,(atC (jcn c r) k).Pairwise (·<·):=fun k=>by
 rw[jcn,jbi c _ k hr];split
 . exact(h _).filter _
 . exact h k
theorem jeK{ls:List Lk}{c:Ch}(h:∀k,(atC c k).Pairwise (·<·)):∀k,(atC (jaH ls c) k).Pairwise (·<·):=fun k=>by
 rw[jbC];exact(h k).filter _
theorem jft:∀(rs:List Lk) (c:Ch),(∀r∈rs,r.fr<c.length)->(∀k,(atC c k).Pairwise (·<·))->∀k,(atC (rs.foldl jcn c) k).Pairwise (·<·)
 |[],_,_,h=>h
 |r::rs,c,hr,h=>by
  rw[yN];exact jft rs _ (fun x hx=>by rw[jd9];exact hr x (zR _ hx)) (jjX h r (hr r (zN ..)))
noncomputable def jeR (ls rs:List Lk) (m:Nat) (us:List Nat) (c:Ch):List (List Nat):=jbF ls m us (jaH ls (rs.foldl jcn (jaH ls c))) []
theorem jgC{ls rs:List Lk}{m:Nat}{us:List Nat}{c:Ch}(hl:∀l∈ls,l.fr<m/\l.to<m)(hr:∀r∈rs,r.fr<m)(hu:∀u∈us,u<m)(hc:c.length=m)(r:List Nat):r∈jeR ls rs m us c↔∃s,SolC ls m c s/\(∀r∈rs,r.R (s r.fr) (s r.fr))/\r=us.map s:=by
 have h2:(jaH ls c).length=m:=by rw[jaI];exact hc
 rw[jeR,jia hl us _ _ _ hu (by rw[jaI,jge];exact h2)];constructor
 . rintro⟨s,h,e⟩;rw[jcx hl,jeq rs _ h2 hr,jcx hl]at h;exact⟨s,h.1,h.2,by simpa using e⟩
 . rintro⟨s,h,h1,e⟩;refine⟨s,?_,by simpa using e⟩;rw[jcx hl,jeq rs _ h2 hr,jcx hl];exact⟨h,h1⟩
theorem jiS{ls rs:List Lk}{m:Nat}{us:List Nat}{c:Ch}(hr:∀r∈rs,r.fr<m)(hu:∀u∈us,u<m)(hc:c.length=m)(hp:∀k,(atC c k).Pairwise (·<·)):(jeR ls rs m us c).Pairwise (fun a b=>jec a b=true):=by
 refine jgy us _ _ (jeK (jft rs _ (fun r h=>by rw[jaI];have:=hr r h;omega) (jeK hp))) (fun u h=>?_);rw[jaI,jge,jaI];have:=hu u h;omega
def jaG(V:List Wd)(t:Tm):List Nat:=if t.1=true then List.range V.length else if t.2∈V then [V.idxOf t.2]else []
def lkOf(fs:List Fa)(ts:List Tm)(a:Pa):Lk:=⟨ts.idxOf a.1,ts.idxOf a.2.2,fun u v=>jbJ fs a.2.1 ((jac fs).getD u []) ((jac fs).getD v [])⟩
def jcl(ts:List Tm)(a:Pa):Bool:=decide (ts.idxOf a.1=ts.idxOf a.2.2)
theorem jeH(V:List Wd)(t:Tm):∀u∈jaG V t,u<V.length:=fun u hu=>by
 unfold jaG at hu;split at hu
 . exact yK.1 hu
 . split at hu
   . rename_i h;rw[zK.1 hu];exact yD h
   . simp at hu
theorem jiD(V:List Wd)(t:Tm):(jaG V t).length<=V.length+1:=by
 unfold jaG;split
 . simp
 . split<;>simp
theorem jhB(V:List Wd)(t:Tm):(jaG V t).Pairwise (·<·):=by
 unfold jaG;split
 . exact List.pairwise_lt_range
 . split<;>simp
theorem jhN{V:List Wd}{x:Wd}(h:x∈V):V.getD (V.idxOf x) []=x:=by
 have:=yD h;rw[List.getD,zB this];simp
theorem jiG(fs:List Fa){vars:List Wd}{ats:List Pa}{ts:List Tm}(hts:ts.Nodup)(hmem:∀t,t∈ts↔∃a∈ats,t=a.1\/t=a.2.2)(hv:∀v∈vars,v∈jai ats):
 ja2 jaE ((jeR ((ats.filter fun a=> !jcl ts a).map (lkOf fs ts)) ((ats.filter (jcl ts)).map (lkOf fs ts)) ts.length (vars.map fun v=>ts.idxOf ((true,v):Tm)) (ts.map (jaG (jac fs)))).map fun r=>r.map fun i=>(jac fs).getD i [])/\
 ∀r,r∈((jeR ((ats.filter fun a=> !jcl ts a).map (lkOf fs ts)) ((ats.filter (jcl ts)).map (lkOf fs ts)) ts.length (vars.map fun v=>ts.idxOf ((true,v):Tm)) (ts.map (jaG (jac fs)))).map fun r=>r.map fun i=>(jac fs).getD i [])↔RowP fs vars ats r:=by
 obtain⟨V,hV⟩:=eX (jac fs);have ae:∀a∈ats,ts.idxOf a.1<ts.length/\ts.idxOf a.2.2<ts.length:=fun a ha=>⟨yD ((hmem _).2 ⟨a,ha,.inl rfl⟩),yD ((hmem _).2 ⟨a,ha,.inr rfl⟩)⟩
 have hl:∀l∈(ats.filter fun a=> !jcl ts a).map (lkOf fs ts),l.fr<ts.length/\l.to<ts.length:=fun l hl=>by
  obtain⟨a,ha,rfl⟩:=zV.1 hl;exact ae a (zY.1 ha).1
 have hr:∀l∈(ats.filter (jcl ts)).map (lkOf fs ts),l.fr<ts.length:=fun l hl=>by
  obtain⟨a,ha,rfl⟩:=zV.1 hl;exact(ae a (zY.1 ha).1).1
 have ao:∀v∈vars,((true,v):Tm)∈ts:=fun v h=>by
  obtain⟨a,ha,⟨h1,e⟩|⟨h1,e⟩⟩:=jaL.1 (hv v h)
  . exact(hmem _).2 ⟨a,ha,.inl (by rw[e,<- h1])⟩
  . exact(hmem _).2 ⟨a,ha,.inr (by rw[e,<- h1])⟩
 have hu:∀u∈vars.map (fun v=>ts.idxOf ((true,v):Tm)),u<ts.length:=fun u h=>by
  obtain⟨v,ag,rfl⟩:=zV.1 h;exact yD (ao v ag)
 have ap:(ts.map (jaG V)).length=ts.length:=by simp
 have af:∀k t,ts[k]?=some t->atC (ts.map (jaG V)) k=jaG V t:=fun k t h=>by
  unfold atC;rw[List.getD,zI,h];rfl
 have hp:∀k,(atC (ts.map (jaG V)) k).Pairwise (·<·):=fun k=>by
  by_cases hk:k<ts.length
  . rw[af k _ (zB hk)];exact jhB V _
  . unfold atC;rw[List.getD,yE (by simpa using hk)];simp
 have aj:∀t∈ts,ts[ts.idxOf t]?=some t:=fun t ht=>by
  rw[zB (yD ht)];simp
 rw[<- hV];have aa:=jgC (c:=ts.map (jaG V)) hl hr hu ap;have ah:∀s,SolC ((ats.filter fun a=> !jcl ts a).map (lkOf fs ts)) ts.length (ts.map (jaG V)) s->(∀r∈(ats.filter (jcl ts)).map (lkOf fs ts),r.R (s r.fr) (s r.fr))->∀a∈ats,jbJ fs a.2.1 (V.getD (s (ts.idxOf a.1)) []) (V.getD (s (ts.idxOf a.2.2)) []):=fun s h1 h2 a ha=>by
  cases hri:jcl ts a with
  |true=>
   have h3:=h2 _ (zW (zY.2 ⟨ha,hri⟩));have h4:ts.idxOf a.1=ts.idxOf a.2.2:=of_decide_eq_true hri;rw[hV,<- h4];exact h3
  |false=>
   rw[hV];exact h1.2 _ (zW (zY.2 ⟨ha,by rw[hri];rfl⟩))
 constructor
 . have h1:=jiS (ls:=(ats.filter fun a=> !jcl ts a).map (lkOf fs ts)) hr hu ap hp;have an:∀r∈jeR ((ats.filter fun a=> !jcl ts a).map (lkOf fs ts)) ((ats.filter (jcl ts)).map (lkOf fs ts)) ts.length (vars.map fun v=>ts.idxOf ((true,v):Tm)) (ts.map (jaG V)),∀x∈r,x<V.length:=fun r hr2 x hx=>by
    obtain⟨s,hs,_,e⟩:=(aa r).1 hr2;rw[e]at hx;obtain⟨u,al,rfl⟩:=zV.1 hx;have h3:=hs.1 u (hu u al);rw[af u _ (zB (hu u al))]at h3;exact jeH V _ _ h3
   unfold ja2;rw[List.pairwise_map];refine List.Pairwise.imp_of_mem (fun {a b} ha hb hab=>?_) h1;rw[hV];exact jfv (jaY fs) a b (by rw[<- hV];exact an a ha) (by rw[<- hV];exact an b hb) hab
 . intro r;rw[zV];constructor
   . rintro⟨r0,aq,rfl⟩;obtain⟨s,h1,h2,rfl⟩:=(aa r0).1 aq;have h3:=ah s h1 h2;refine⟨fun v=>V.getD (s (ts.idxOf ((true,v):Tm))) [],fun a ha=>?_,by rw[List.map_map,List.map_map];rfl⟩;have ad:∀t∈ts,tv (fun v=>V.getD (s (ts.idxOf ((true,v):Tm))) []) t=V.getD (s (ts.idxOf t)) []:=fun t ht=>by
      obtain⟨b,x⟩:=t;cases b with
      |true=>rfl
      |false=>
       have h4:=h1.1 (ts.idxOf ((false,x):Tm)) (yD ht);rw[af _ _ (aj _ ht)]at h4;unfold jaG at h4;rw[if_neg (by simp)]at h4;split at h4
       . rename_i hx;rw[zK.1 h4,jhN hx];rfl
       . simp at h4
     rw[ad _ ((hmem _).2 ⟨a,ha,.inl rfl⟩),ad _ ((hmem _).2 ⟨a,ha,.inr rfl⟩)];exact h3 a ha
   . rintro⟨g,hg,e⟩;obtain⟨s,hs⟩:=eX (fun k=>V.idxOf (tv g (ts.getD k (false,[]))):Nat->Nat);have ak:∀t∈ts,s (ts.idxOf t)=V.idxOf (tv g t):=fun t ht=>by
      rw[hs];dsimp only;rw[List.getD,aj t ht];rfl
     have ad:∀t∈ts,tv g t∈V:=fun t ht=>by
      obtain⟨a,ha,rfl|rfl⟩:=(hmem t).1 ht
      . rw[hV];exact(hg a ha).1
      . rw[hV];exact jbX (hg a ha)
     have ac:∀t∈ts,V.getD (s (ts.idxOf t)) []=tv g t:=fun t ht=>by
      rw[ak t ht];exact jhN (ad t ht)
     have ab:∀a∈ats,(lkOf fs ts a).R (s (lkOf fs ts a).fr) (s (lkOf fs ts a).to):=fun a ha=>by
      show jbJ fs a.2.1 ((jac fs).getD (s (ts.idxOf a.1)) []) ((jac fs).getD (s (ts.idxOf a.2.2)) []);rw[<- hV,ac _ ((hmem _).2 ⟨a,ha,.inl rfl⟩),ac _ ((hmem _).2 ⟨a,ha,.inr rfl⟩)];exact hg a ha
     refine⟨vars.map fun v=>s (ts.idxOf ((true,v):Tm)),(aa _).2 ⟨s,⟨fun k hk=>?_,fun l hl2=>?_⟩,fun l hl2=>?_,by rw[List.map_map];rfl⟩,?_⟩
     . have am:ts[k]?=some ts[k]:=zB hk;have ai:ts.idxOf ts[k]=k:=by
        have:=aj ts[k] (List.getElem_mem hk);exact(List.getElem?_inj (yD (List.getElem_mem hk)) hts).1 (by rw[this,am])
       rw[af k _ am];have h5:=ak ts[k] (List.getElem_mem hk);rw[ai]at h5;rw[h5];have h6:=ad ts[k] (List.getElem_mem hk);unfold jaG;obtain⟨t,ht⟩:=eX (ts[k]);rw[<- ht]at h6 ⊢;obtain⟨b,x⟩:=t;cases b with
       |true=>
        rw[if_pos rfl];exact yK.2 (yD h6)
       |false=>
        have h7:tv g (false,x)=x:=rfl;rw[h7]at h6 ⊢;rw[if_neg (by simp),if_pos h6];exact zK.2 rfl
     . obtain⟨a,ha,rfl⟩:=zV.1 hl2;exact ab a (zY.1 ha).1
     . obtain⟨a,ha,rfl⟩:=zV.1 hl2;have h8:=ab a (zY.1 ha).1;have h9:(lkOf fs ts a).fr=(lkOf fs ts a).to:=of_decide_eq_true (zY.1 ha).2;rw[<- h9]at h8;exact h8
     . rw[e,List.map_map];refine yR fun v ag=>?_
       exact ac _ (ao v ag)
end Go.Proofs.YtkbgmcmcpbegjaaGreatDoor
namespace Go.Proofs.YtkbgmcmcpbegjaaGreatDoor
open Go.RowKit Go.Shelf
theorem jdW(w:World){ops:Array Oper}{rest:List Oper}{o:Oper}{a:Act}{Q:Exit->Act->World->Prop}
 (hg:o.guard=none) (l c:Operand) (t:TypeId) (hop:o.op=Op.makeSlice t l c)
 (e:TypeId) (i:TypeInfo) (z:Value) (ht:Tryz.prog.underlying t=some (.slice e)) (hi:Tryz.prog.info? e=some i) (hz:i.zero=some z) (k:Nat) (hsize:i.size=k) (zs:Array Value) (hz1:z.cells=zs)
 (kl kc:IntKind) (n:Nat) (hl:a.eval l=.int kl (n:Int)) (hc:a.eval c=.int kc (n:Int)) (hbytes:i.bytes*n<=281474976710656) (h63:n<=9223372036854775807)
 (hK:wpList Tryz.prog ops Q rest (a.put o.dst (.slice (some ⟨w.heap.size,0,none⟩) n n)) (w.alloc (.cells (madeCells zs (n*k)) e))):
 wpList Tryz.prog ops Q (o::rest) a w:=by
 refine wpList_plain hg fun K hK'=>?_
 have ab:(i.bytes:Int)*(n:Int)<=281474976710656:=by
  have h:((i.bytes*n:Nat):Int)<=281474976710656:=by omega
  rwa[Int.natCast_mul]at h
 have aa:=run_make (P:=Tryz.prog) w t e i z ht hi hz kl kc n n (by omega) (Int.le_refl _) ab (by omega);simp only[Int.toNat_natCast,hsize,hz1]at aa;unfold Oper.wp;simp[execOp,hop,hl,hc,aa,Result.andThen];exact hK' _ _ hK
def KF(w:World)(kb n:Nat)(f:Nat->Vt):Prop:=
 ∃cur:Array Value,w.heap[kb]?=some (.cells cur 25 (0,0))/\cur.size=n*3/\∀p,p<n->cur[p*3]?=some (.int .i64 (f p).kind)/\cur[p*3+1]?=some (.string ⟨(f p).word.toArray⟩)/\cur[p*3+2]?=some (f p).val
theorem KF.lt{w:World}{kb n:Nat}{f:Nat->Vt}(h:KF w kb n f):kb<w.heap.size:=by
 obtain⟨cur,h1,_⟩:=h;exact lt_of_block h1
theorem KF.get{w:World}{kb n:Nat}{f:Nat->Vt}(h:KF w kb n f){p:Nat}(hp:p<n):(w.cell? ⟨kb,p*3,none⟩=some (.int .i64 (f p).kind)/\w.cell? ⟨kb,p*3+1,none⟩=some (.string ⟨(f p).word.toArray⟩)/\w.cell? ⟨kb,p*3+2,none⟩=some (f p).val)/\w.frozen? ⟨kb,p*3,none⟩=false/\w.frozen? ⟨kb,p*3+1,none⟩=false/\w.frozen? ⟨kb,p*3+2,none⟩=false:=by
 obtain⟨cur,h1,_,h3⟩:=h;obtain⟨a1,a2,a3⟩:=h3 p hp;exact⟨⟨by simp only[World.cell?,h1];exact a1,by simp only[World.cell?,h1];exact a2,by simp only[World.cell?,h1];exact a3⟩,by simp[World.frozen?,h1],by simp[World.frozen?,h1],by simp[World.frozen?,h1]⟩
theorem KF.keep{w w':World}{kb n:Nat}{f:Nat->Vt}(h:KF w kb n f)(hk:w'.heap[kb]?=w.heap[kb]?):KF w' kb n f:=by
 obtain⟨aa,h1,h2⟩:=h;exact⟨aa,hk.trans h1,h2⟩
def jcm(w:World)(b o:Nat)(c0 c1 c2:Value):World:=((w.setCell ⟨b,o,none⟩ c0).setCell ⟨b,o+1,none⟩ c1).setCell ⟨b,o+2,none⟩ c2
theorem jbm(w:World)(b o:Nat)(c0 c1 c2:Value):(jcm w b o c0 c1 c2).heap.size=w.heap.size:=by simp[jcm]
theorem jbx(w:World)(b o:Nat)(c0 c1 c2:Value){k:Nat}(hk:k≠b):(jcm w b o c0 c1 c2).heap[k]?=w.heap[k]?:=by
 unfold jcm;rw[zM _ ⟨b,o+2,none⟩ _ _ hk,zM _ ⟨b,o+1,none⟩ _ _ hk,zM _ ⟨b,o,none⟩ _ _ hk]
theorem jgb{w:World}{b o:Nat}{c0 c1 c2:Value}{cur:Array Value}{t:TypeId}(h:w.heap[b]?=some (.cells cur t (0,0))):(jcm w b o c0 c1 c2).heap[b]?=some (.cells (((cur.setIfInBounds o c0).setIfInBounds (o+1) c1).setIfInBounds (o+2) c2) t (0,0)):=by
 simp[jcm,World.setCell,Array.getElem?_modify,h]
theorem jcd{B:Nat}{w w':World}(h:Below B w w'){b:Nat}(hb:B<=b)(o:Nat)(c0 c1 c2:Value):Below B w (jcm w' b o c0 c1 c2):=by
 refine⟨h.os,h.tape,h.output,by rw[jbm];exact h.size,fun k hk=>?_⟩;rw[jbx _ _ _ _ _ _ (by omega)];exact h.block k hk
theorem KF.set{w:World}{kb n:Nat}{f:Nat->Vt}(h:KF w kb n f)(i:Nat)(hi:i<n)(x:Vt):KF (jcm w kb (i*3) (.int .i64 x.kind) (.string ⟨x.word.toArray⟩) x.val) kb n (fun p=>if p=i then x else f p):=by
 obtain⟨cur,h1,h2,h3⟩:=h;refine⟨_,jgb h1,by simp[h2],fun p hp=>?_⟩;simp only[Array.getElem?_setIfInBounds,Array.size_setIfInBounds];by_cases e:p=i
 . subst e;simp only[if_pos];refine⟨?_,?_,?_⟩
   . rw[if_neg (by omega),if_neg (by omega),if_pos (by omega)]
   . rw[if_neg (by omega),if_pos (by omega)]
   . rw[if_pos (by omega)]
 . rw[if_neg e];refine⟨?_,?_,?_⟩
   . rw[if_neg (by omega),if_neg (by omega),if_neg (by omega)];exact(h3 p hp).1
   . rw[if_neg (by omega),if_neg (by omega),if_neg (by omega)];exact(h3 p hp).2.1
   . rw[if_neg (by omega),if_neg (by omega),if_neg (by omega)];exact(h3 p hp).2.2
abbrev vt0:Vt:=⟨0,[],.slice none 0 0,[]⟩
theorem KF.made(w:World)(n:Nat):KF (w.alloc (.cells (madeCells #[.int .i64 0,.string ⟨#[]⟩,.slice none 0 0] (n*3)) 25)) w.heap.size n (fun _=>vt0):=by
 refine⟨_,heap_alloc_new _ _,size_madeCells _ _,fun p hp=>?_⟩;have h0:∀j,j<n*3->(madeCells #[.int .i64 0,.string ⟨#[]⟩,.slice none 0 0] (n*3))[j]?=some (#[Value.int .i64 0,.string ⟨#[]⟩,.slice none 0 0][j%3]!):=fun j hj=>by
  unfold madeCells;rw[Array.getElem?_map,Array.getElem?_range,if_pos hj];rfl
 refine⟨?_,?_,?_⟩
 . rw[h0 _ (by omega),show p*3%3=0 by omega];rfl
 . rw[h0 _ (by omega),show (p*3+1)%3=1 by omega];rfl
 . rw[h0 _ (by omega),show (p*3+2)%3=2 by omega];rfl
theorem KF.sl{w:World}{kb n:Nat}{f:Nat->Vt}(h:KF w kb n f):NodS (fun k=>k=kb) w (.slice (some ⟨kb,0,none⟩) n n) ((List.range n).map f):=by
 refine⟨_,n,by simp,.inr ⟨kb,0,rfl,rfl,h.lt,fun j x hx c u hu=>?_⟩⟩;rw[zI]at hx;have hj:j<n:=by
  by_cases hj:j<n
  . exact hj
  . rw[yE (by simp;omega)]at hx;simp at hx
 rw[yO hj]at hx;simp at hx;subst hx;obtain⟨⟨a1,a2,a3⟩,_⟩:=h.get hj
 match c,hu with
 |0,hu=>simp at hu;subst hu;simpa using a1
 |1,hu=>simp at hu;subst hu;simpa using a2
 |2,hu=>simp at hu;subst hu;simpa using a3
 |c+3,hu=>simp at hu
def revF(f:Nat->Vt)(n i:Nat)(p:Nat):Vt:=if p<i\/n-i<=p then f (n-1-p)else f p
theorem jjZ(f:Nat->Vt)(n:Nat):∀p,p<n->revF f n 0 p=f p:=fun p hp=>by
 unfold revF;rw[if_neg (by omega)]
theorem KF.congr{w:World}{kb n:Nat}{f g:Nat->Vt}(h:KF w kb n f)(hfg:∀p,p<n->g p=f p):KF w kb n g:=by
 obtain⟨aa,h1,h2,h3⟩:=h;exact⟨aa,h1,h2,fun p hp=>by rw[hfg p hp];exact h3 p hp⟩
theorem jko{w:World}{kb n:Nat}{f:Nat->Vt}(h:KF w kb n f)(hn:n<=1000)(hv:∀p,p<n->∃a k c,(f p).val=.slice a k c):
 Calls Tryz.prog 97 #[.slice (some ⟨kb,0,none⟩) n n] w fun e w'=>e=.returned (.tuple #[])/\KF w' kb n (fun p=>f (n-1-p))/\Below kb w w'/\(∀k,k≠kb->w'.heap[k]?=w.heap[k]?)/\w'.heap.size=w.heap.size:=by
 have H:=zA h;have HV:=zA hv;clear h hv;go_enter Tryz.func97,Tryz.ntmps97;go_wp2_with fail;go_loopw [2,3] (fun a b wr=>∃(i:Nat) (z:Int),2*i<=n+1/\a=.int .i64 i/\b=.int .i64 z/\Hid (z=(n:Int)-1-i)/\Hid (KF wr kb n (revF f n i))/\Hid (Below kb w wr)/\Hid (∀k,k≠kb->wr.heap[k]?=w.heap[k]?)/\Hid (wr.heap.size=w.heap.size)) (fun a _ _=>n-(intOf a).toNat)
 case atStart=>exact⟨0,_,by omega,rfl,rfl,zA (by go_num),zA (H.out.congr (jjZ f n)),zA (zF _ _),zA (fun _ _=>rfl),zA rfl⟩
 case round=>
  obtain⟨i,z,hi,rfl,rfl,HZ,HK,HB,HO,HS⟩:=hrel;obtain⟨wx,ao⟩:=eX wr;subst ao;by_cases hlt:(i:Int)<z
  . obtain⟨j,hj⟩:∃j:Nat,z=j:=⟨z.toNat,by omega⟩
    have an:j+i+1=n:=by have:=HZ.out;omega
    subst hj;have hij:i<j:=by omega
    have aa:j<n:=by omega
    have ab:i<n:=by omega
    have hiI:(i:Int)<(n:Int):=by omega
    have hjI:(j:Int)<(n:Int):=by omega
    have ei:revF f n i i=f i:=by unfold revF;rw[if_neg (by omega)]
    have ej:revF f n i j=f j:=by unfold revF;rw[if_neg (by omega)]
    obtain⟨⟨a1,a2,a3⟩,b1,b2,b3⟩:=HK.out.get ab;obtain⟨⟨d1,d2,d3⟩,e1,e2,e3⟩:=HK.out.get aa;obtain⟨va,vk,vc,aj⟩:=HV.out i ab;obtain⟨ua,uk,uc,af⟩:=HV.out j aa;rw[ei,aj]at a3;rw[ei]at a1 a2;rw[ej,af]at d3;rw[ej]at d1 d2;obtain⟨W1,ac⟩:=eX (jcm wx kb (i*3) (.int .i64 (f j).kind) (.string ⟨(f j).word.toArray⟩) (.slice ua uk uc));have ak:KF W1 kb n (fun p=>if p=i then f j else revF f n i p):=by
     rw[ac,<- af];exact HK.out.set i ab (f j)
    obtain⟨⟨x1,x2,x3⟩,y1,y2,y3⟩:=ak.get aa;rw[if_neg (by omega),ej]at x1 x2 x3;rw[af]at x3;obtain⟨W2,ad⟩:=eX (jcm W1 kb (j*3) (.int .i64 (f i).kind) (.string ⟨(f i).word.toArray⟩) (.slice va vk vc));have al:Hid (KF W2 kb n (revF f n (i+1))):=zA (by
     have h2:=ak.set j aa (f i);rw[aj,<- ad]at h2;refine h2.congr (fun p hp=>?_);unfold revF;by_cases p1:p=j
     . subst p1;rw[if_pos rfl,if_pos (by omega),show n-1-p=i by omega]
     . rw[if_neg p1];by_cases p2:p=i
       . subst p2;rw[if_pos rfl,if_pos (by omega),show n-1-p=j by omega]
       . rw[if_neg p2];by_cases p3:p<i\/n-i<=p
         . rw[if_pos p3,if_pos (by omega)]
         . rw[if_neg p3,if_neg (by omega)])
    have aq:Hid (Below kb w W2):=zA (by rw[ad,ac];exact jcd (jcd HB.out (zD _) _ _ _ _) (zD _) _ _ _ _);have ap:Hid (∀k,k≠kb->W2.heap[k]?=w.heap[k]?):=zA (fun k hk=>by rw[ad,jbx _ _ _ _ _ _ hk,ac,jbx _ _ _ _ _ _ hk];exact HO.out k hk);have au:Hid (W2.heap.size=w.heap.size):=zA (by rw[ad,jbm,ac,jbm];exact HS.out);have ae:Hid (W2=((((((wx.setCell ⟨kb,i*3,none⟩ (.int .i64 (f j).kind)).setCell ⟨kb,i*3+1,none⟩ (.string ⟨(f j).word.toArray⟩)).setCell ⟨kb,i*3+2,none⟩ (.slice ua uk uc)).setCell ⟨kb,j*3,none⟩ (.int .i64 (f i).kind)).setCell ⟨kb,j*3+1,none⟩ (.string ⟨(f i).word.toArray⟩)).setCell ⟨kb,j*3+2,none⟩ (.slice va vk vc))):=zA (by rw[ad,ac];rfl);rw[ac]at x1 x2 x3 y1 y2 y3;unfold jcm at x1 x2 x3 y1 y2 y3;obtain⟨ki,am⟩:=eX ((f i).kind);obtain⟨kj,ag⟩:=eX ((f j).kind);obtain⟨si,ai⟩:=eX ((f i).word.toArray);obtain⟨sj,ah⟩:=eX ((f j).word.toArray);rw[<- am,<- ag,<- ai,<- ah]at ae;rw[<- am]at a1;rw[<- ai]at a2;rw[<- ag]at d1;rw[<- ah]at d2;rw[<- ag,<- ah]at x1 x2 x3 y1 y2 y3;have ar:2*(i+1)<=n+1:=by omega
    clear ak ac ad am ag ai ah ei ej aj af an;go_wp2_with fail;go_region;all_goals (
     go_wp2;go_roundw
     case rel=>exact⟨i+1,_,ar,by go_num,rfl,zA (by have:=HZ.out;go_num),by rw[<- ae.out];exact zA (al.out.keep rfl),by rw[<- ae.out];exact zA aq.out.drew,by rw[<- ae.out];exact zA ap.out,by rw[<- ae.out];exact zA au.out⟩
     case measure=>simp[intOf];omega)
  . have hni:n-i<=i+1:=by have:=HZ.out;omega
    have al:Hid (KF wx kb n (fun p=>f (n-1-p))):=zA (HK.out.congr (fun p hp=>by
     unfold revF;by_cases p1:p<i\/n-i<=p
     . rw[if_pos p1]
     . rw[if_neg p1,show n-1-p=p by omega]))
    go_wp2;go_end0;exact⟨rfl,al.out,HB.out,HO.out,HS.out⟩
end Go.Proofs.YtkbgmcmcpbegjaaGreatDoor
