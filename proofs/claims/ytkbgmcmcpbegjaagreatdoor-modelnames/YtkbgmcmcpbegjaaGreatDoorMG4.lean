/- AMath, AMath2, AMath3. -/
import Derived.Test.YtkbgmcmcpbegjaaGreatDoorMG1
set_option maxRecDepth 100000
namespace Go.Proofs.YtkbgmcmcpbegjaaGreatDoor
open Go.RowKit
abbrev Wd:=List UInt8
def seqL:List (List Wd->Prop)->List Wd->Prop
 |[],l=>l=[]
 |f::fs,l=>∃a b,l=a++b/\f a/\seqL fs b
def altL(fs:List (List Wd->Prop))(l:List Wd):Prop:=∃f∈fs,f l
def starL(f:List Wd->Prop)(l:List Wd):Prop:=∃ls:List (List Wd),l=ls.flatten/\∀x∈ls,f x
def plusL(f:List Wd->Prop)(l:List Wd):Prop:=∃a b,l=a++b/\f a/\starL f b
def kindL(k:Int)(w:Wd)(fs:List (List Wd->Prop))(l:List Wd):Prop:=
 if k=1 then l=[w]else if k=2 then seqL fs l else if k=4 then starL (altL fs) l else if k=5 then plusL (altL fs) l else if k=6 then (l=[]\/altL fs l)else altL fs l
def willL:Pt->List Wd->Prop
 |⟨k,w,kids⟩=>kindL k w (kids.map willL)
theorem willL_mk(k:Int)(w:Wd)(kids:List Pt):willL ⟨k,w,kids⟩=kindL k w (kids.map willL):=by rw[willL]
structure Prt where
 words:List Wd
 first:List Nat
 last:List Nat
 pairs:List (Nat×Nat)
 empty:Bool
def cross(a b:List Nat):List (Nat×Nat):=a.flatMap fun x=>b.map fun y=>(x,y)
theorem mem_cross{a b:List Nat}{x y:Nat}:(x,y)∈cross a b↔x∈a/\y∈b:=by
 simp[cross]
def up(n:Nat)(l:List Nat):List Nat:=l.map (·+n)
def upP(n:Nat)(l:List (Nat×Nat)):List (Nat×Nat):=l.map fun p=>(p.1+n,p.2+n)
theorem mem_up{n x:Nat}{l:List Nat}:x∈up n l↔∃y∈l,y+n=x:=by simp[up]
theorem mem_upP{n x y:Nat}{l:List (Nat×Nat)}:(x,y)∈upP n l↔∃a b,(a,b)∈l/\a+n=x/\b+n=y:=by
 simp[upP]
def seqC(x y:Prt):Prt:=
 ⟨x.words++y.words,if x.empty=true then x.first++up x.words.length y.first else x.first,if y.empty=true then x.last++up x.words.length y.last else up x.words.length y.last,
  x.pairs++upP x.words.length y.pairs++cross x.last (up x.words.length y.first),x.empty&&y.empty⟩
def altC(x y:Prt):Prt:=
 ⟨x.words++y.words,x.first++up x.words.length y.first,x.last++up x.words.length y.last,x.pairs++upP x.words.length y.pairs,x.empty||y.empty⟩
def loopC(x:Prt):Prt:={ x with pairs:=x.pairs++cross x.last x.first }
def mayC2(x:Prt):Prt:={ x with empty:=true }
def prt0(e:Bool):Prt:=⟨[],[],[],[],e⟩
def kindC(k:Int)(w:Wd)(ps:List Prt):Prt:=
 if k=1 then⟨[w],[0],[0],[],false⟩else if k=2 then ps.foldl seqC (prt0 true)else if k=4 then mayC2 (loopC (ps.foldl altC (prt0 false)))else if k=5 then loopC (ps.foldl altC (prt0 false))else if k=6 then mayC2 (ps.foldl altC (prt0 false))else ps.foldl altC (prt0 false)
def prtOf:Pt->Prt
 |⟨k,w,kids⟩=>kindC k w (kids.map prtOf)
theorem prtOf_mk(k:Int)(w:Wd)(kids:List Pt):prtOf ⟨k,w,kids⟩=kindC k w (kids.map prtOf):=by rw[prtOf]
def walkP(p:Prt):Nat->List Nat->Prop
 |x,[]=>x∈p.last
 |x,y::r=>(x,y)∈p.pairs/\walkP p y r
def runP(p:Prt):List Nat->Prop
 |[]=>p.empty=true
 |x::r=>x∈p.first/\walkP p x r
structure Fits (p:Prt):Prop where
 first:∀x∈p.first,x<p.words.length
 last:∀x∈p.last,x<p.words.length
 pairs:∀x y,(x,y)∈p.pairs->x<p.words.length/\y<p.words.length
theorem walkP_lt{p:Prt}(h:Fits p):∀(r:List Nat) (x:Nat),walkP p x r->x<p.words.length/\∀y∈r,y<p.words.length
 |[],x,hw=>⟨h.last x hw,by simp⟩
 |y::r,x,hw=>by
  obtain⟨h1,h2⟩:=walkP_lt h r y hw.2;refine⟨(h.pairs x y hw.1).1,fun z hz=>?_⟩;rcases yB.1 hz with rfl|hz
  . exact h1
  . exact h2 z hz
theorem runP_lt{p:Prt}(h:Fits p){ps:List Nat}(hr:runP p ps):∀x∈ps,x<p.words.length:=by
 cases ps with
 |nil=>simp
 |cons x r=>
  obtain⟨h1,h2⟩:=walkP_lt h r x hr.2;intro z hz;rcases yB.1 hz with rfl|hz
  . exact h1
  . exact h2 z hz
def readsP(p:Prt)(l:List Wd):Prop:=∃ps,runP p ps/\l.map some=ps.map fun i=>p.words[i]?
section
variable {x y:Prt}
theorem fits_seq(hx:Fits x)(hy:Fits y):Fits (seqC x y):=by
 have e:(seqC x y).words.length=x.words.length+y.words.length:=by simp[seqC]
 refine⟨fun z hz=>?_,fun z hz=>?_,fun a b hab=>?_⟩
 . rw[e];simp only[seqC]at hz;split at hz
   . rcases zM.1 hz with hz|hz
     . have:=hx.first z hz;omega
     . obtain⟨u,hu,rfl⟩:=mem_up.1 hz;have:=hy.first u hu;omega
   . have:=hx.first z hz;omega
 . rw[e];simp only[seqC]at hz;split at hz
   . rcases zM.1 hz with hz|hz
     . have:=hx.last z hz;omega
     . obtain⟨u,hu,rfl⟩:=mem_up.1 hz;have:=hy.last u hu;omega
   . obtain⟨u,hu,rfl⟩:=mem_up.1 hz;have:=hy.last u hu;omega
 . rw[e];simp only[seqC]at hab;rcases zM.1 hab with hab|hab
   . rcases zM.1 hab with hab|hab
     . have:=hx.pairs a b hab;omega
     . obtain⟨u,v,huv,rfl,rfl⟩:=mem_upP.1 hab;have:=hy.pairs u v huv;omega
   . obtain⟨h1,h2⟩:=mem_cross.1 hab;obtain⟨u,hu,rfl⟩:=mem_up.1 h2;have:=hx.last a h1;have:=hy.first u hu
     omega
theorem seq_walk_y(hx:Fits x):∀(r:List Nat) (b:Nat),walkP (seqC x y) (b+x.words.length) r->∃q,r=up x.words.length q/\walkP y b q
 |[],b,h=>by
  refine⟨[],rfl,?_⟩;have h:b+x.words.length∈(seqC x y).last:=h;simp only[seqC]at h;split at h
  . rcases zM.1 h with h|h
    . have:=hx.last _ h;omega
    . obtain⟨u,hu,e⟩:=mem_up.1 h;obtain rfl:u=b:=by omega
      exact hu
  . obtain⟨u,hu,e⟩:=mem_up.1 h;obtain rfl:u=b:=by omega
    exact hu
 |z::r,b,h=>by
  obtain⟨h1,h2⟩:=h;simp only[seqC]at h1;rcases zM.1 h1 with h1|h1
  . rcases zM.1 h1 with h1|h1
    . have:=(hx.pairs _ _ h1).1;omega
    . obtain⟨u,v,huv,e1,e2⟩:=mem_upP.1 h1;obtain rfl:u=b:=by omega
      subst e2;obtain⟨q,rfl,hq⟩:=seq_walk_y hx r v h2;exact⟨v::q,rfl,huv,hq⟩
  . have:=hx.last _ (mem_cross.1 h1).1;omega
theorem seq_walk_x(hx:Fits x)(hy:Fits y):∀(r:List Nat) (a:Nat),a<x.words.length->walkP (seqC x y) a r->(y.empty=true/\walkP x a r)\/∃p b q,r=p++up x.words.length (b::q)/\walkP x a p/\b∈y.first/\walkP y b q
 |[],a,ha,h=>by
  left;have h:a∈(seqC x y).last:=h;simp only[seqC]at h;split at h
  . rename_i he;rcases zM.1 h with h|h
    . exact⟨he,h⟩
    . obtain⟨u,hu,e⟩:=mem_up.1 h;omega
  . obtain⟨u,hu,e⟩:=mem_up.1 h;omega
 |z::r,a,ha,h=>by
  obtain⟨h1,h2⟩:=h;simp only[seqC]at h1;rcases zM.1 h1 with h1|h1
  . rcases zM.1 h1 with h1|h1
    . rcases seq_walk_x hx hy r z (hx.pairs a z h1).2 h2 with⟨he,hw⟩|⟨p,b,q,e,hw,hb,hq⟩
      . exact .inl ⟨he,h1,hw⟩
      . exact .inr ⟨z::p,b,q,by rw[e];rfl,⟨h1,hw⟩,hb,hq⟩
    . obtain⟨u,v,_,e1,_⟩:=mem_upP.1 h1;omega
  . obtain⟨ha2,hz⟩:=mem_cross.1 h1;obtain⟨b,hb,rfl⟩:=mem_up.1 hz;obtain⟨q,rfl,hq⟩:=seq_walk_y hx r b h2;exact .inr ⟨[],b,q,rfl,ha2,hb,hq⟩
theorem seq_walk_up:∀(q:List Nat) (b:Nat),walkP y b q->walkP (seqC x y) (b+x.words.length) (up x.words.length q)
 |[],b,h=>by
  show b+x.words.length∈(seqC x y).last;simp only[seqC];split
  . exact List.mem_append_right _ (mem_up.2 ⟨b,h,rfl⟩)
  . exact mem_up.2 ⟨b,h,rfl⟩
 |v::q,b,h=>⟨by
  simp only[seqC];exact yN _ (List.mem_append_right _ (mem_upP.2 ⟨b,v,h.1,rfl,rfl⟩)),seq_walk_up q v h.2⟩
theorem seq_walk_both:∀(p:List Nat) (a b:Nat) (q:List Nat),walkP x a p->b∈y.first->walkP y b q->walkP (seqC x y) a (p++up x.words.length (b::q))
 |[],a,b,q,h1,h2,h3=>⟨by
  simp only[seqC];exact List.mem_append_right _ (mem_cross.2 ⟨h1,mem_up.2 ⟨b,h2,rfl⟩⟩),seq_walk_up q b h3⟩
 |z::p,a,b,q,h1,h2,h3=>⟨by
  simp only[seqC];exact yN _ (yN _ h1.1),seq_walk_both p z b q h1.2 h2 h3⟩
theorem seq_walk_left:∀(p:List Nat) (a:Nat),y.empty=true->walkP x a p->walkP (seqC x y) a p
 |[],a,he,h=>by
  show a∈(seqC x y).last;simp only[seqC,he,if_true];exact yN _ h
 |z::p,a,he,h=>⟨by
  simp only[seqC];exact yN _ (yN _ h.1),seq_walk_left p z he h.2⟩
theorem seq_run(hx:Fits x)(hy:Fits y)(ps:List Nat):runP (seqC x y) ps↔∃p q,ps=p++up x.words.length q/\runP x p/\runP y q:=by
 constructor
 . intro h;cases ps with
   |nil=>
    have h:(x.empty&&y.empty)=true:=h;rw[Bool.and_eq_true]at h;exact⟨[],[],rfl,h.1,h.2⟩
   |cons a r=>
    obtain⟨h1,h2⟩:=h;have key:a∈x.first\/(x.empty=true/\∃b∈y.first,b+x.words.length=a):=by
     simp only[seqC]at h1;split at h1
     . rename_i he;rcases zM.1 h1 with h1|h1
       . exact .inl h1
       . exact .inr ⟨he,mem_up.1 h1⟩
     . exact .inl h1
    rcases key with ha|⟨he,b,hb,rfl⟩
    . rcases seq_walk_x hx hy r a (hx.first a ha) h2 with⟨he,hw⟩|⟨p,b,q,e,hw,hb,hq⟩
      . exact⟨a::r,[],by simp[up],⟨ha,hw⟩,he⟩
      . exact⟨a::p,b::q,by rw[e];rfl,⟨ha,hw⟩,hb,hq⟩
    . obtain⟨q,rfl,hq⟩:=seq_walk_y hx r b h2;exact⟨[],b::q,rfl,he,hb,hq⟩
 . rintro⟨p,q,rfl,hp,hq⟩;cases p with
   |nil=>
    cases q with
    |nil=>show (x.empty&&y.empty)=true;rw[show x.empty=true from hp,show y.empty=true from hq];rfl
    |cons b q=>
     refine⟨?_,seq_walk_up q b hq.2⟩;simp only[seqC,show x.empty=true from hp,if_true];exact List.mem_append_right _ (mem_up.2 ⟨b,hq.1,rfl⟩)
   |cons a p=>
    have hf:a∈(seqC x y).first:=by
     simp only[seqC];split
     . exact yN _ hp.1
     . exact hp.1
    cases q with
    |nil=>exact⟨hf,by have:=seq_walk_left p a hq hp.2;rw[<- List.append_nil p]at this;exact this⟩
    |cons b q=>exact⟨hf,seq_walk_both p a b q hp.2 hq.1 hq.2⟩
end
theorem words_left{x y:Prt}{ps:List Nat}(h:∀i∈ps,i<x.words.length):ps.map (fun i=>(x.words++y.words)[i]?)=ps.map fun i=>x.words[i]?:=
 yS (fun i hi=>yH (h i hi))
theorem words_right{x y:Prt}(ps:List Nat):(up x.words.length ps).map (fun i=>(x.words++y.words)[i]?)=ps.map fun i=>y.words[i]?:=by
 rw[up,List.map_map];refine yS (fun i _=>?_);rw[Function.comp,yO (by omega),Nat.add_sub_cancel]
theorem some_split{l:List Wd}{a b:List (Option Wd)}(h:l.map some=a++b):∃l1 l2,l=l1++l2/\l1.map some=a/\l2.map some=b:=by
 refine⟨l.take a.length,l.drop a.length,(List.take_append_drop _ _).symm,?_,?_⟩
 . rw[List.map_take,h,List.take_left' rfl]
 . rw[List.map_drop,h,List.drop_left' rfl]
theorem seq_reads{x y:Prt}(hx:Fits x)(hy:Fits y)(l:List Wd):readsP (seqC x y) l↔∃a b,l=a++b/\readsP x a/\readsP y b:=by
 constructor
 . rintro⟨ps,hr,hl⟩;obtain⟨p,q,rfl,hp,hq⟩:=(seq_run hx hy ps).1 hr;rw[yK,show (seqC x y).words=x.words++y.words from rfl,words_left (runP_lt hx hp),words_right]at hl;obtain⟨l1,l2,rfl,h1,h2⟩:=some_split hl;exact⟨l1,l2,rfl,⟨p,hp,h1⟩,⟨q,hq,h2⟩⟩
 . rintro⟨a,b,rfl,⟨p,hp,h1⟩,⟨q,hq,h2⟩⟩;refine⟨p++up x.words.length q,(seq_run hx hy _).2 ⟨p,q,rfl,hp,hq⟩,?_⟩;rw[yK,yK,show (seqC x y).words=x.words++y.words from rfl,words_left (runP_lt hx hp),words_right,h1,h2]
theorem fits_alt{x y:Prt}(hx:Fits x)(hy:Fits y):Fits (altC x y):=by
 have e:(altC x y).words.length=x.words.length+y.words.length:=by simp[altC]
 refine⟨fun z hz=>?_,fun z hz=>?_,fun a b hab=>?_⟩
 . rw[e];rcases zM.1 hz with hz|hz
   . have:=hx.first z hz;omega
   . obtain⟨u,hu,rfl⟩:=mem_up.1 hz;have:=hy.first u hu;omega
 . rw[e];rcases zM.1 hz with hz|hz
   . have:=hx.last z hz;omega
   . obtain⟨u,hu,rfl⟩:=mem_up.1 hz;have:=hy.last u hu;omega
 . rw[e];rcases zM.1 hab with hab|hab
   . have:=hx.pairs a b hab;omega
   . obtain⟨u,v,huv,rfl,rfl⟩:=mem_upP.1 hab;have:=hy.pairs u v huv;omega
theorem alt_walk_x{x y:Prt}(hx:Fits x):∀(r:List Nat) (a:Nat),a<x.words.length->walkP (altC x y) a r->walkP x a r
 |[],a,ha,h=>by
  rcases zM.1 (show a∈x.last++up x.words.length y.last from h)with h|h
  . exact h
  . obtain⟨u,hu,e⟩:=mem_up.1 h;omega
 |z::r,a,ha,h=>by
  rcases zM.1 (show (a,z)∈x.pairs++upP x.words.length y.pairs from h.1)with h1|h1
  . exact⟨h1,alt_walk_x hx r z (hx.pairs a z h1).2 h.2⟩
  . obtain⟨u,v,_,e,_⟩:=mem_upP.1 h1;omega
theorem alt_walk_y{x y:Prt}(hx:Fits x):∀(r:List Nat) (b:Nat),walkP (altC x y) (b+x.words.length) r->∃q,r=up x.words.length q/\walkP y b q
 |[],b,h=>by
  rcases zM.1 (show b+x.words.length∈x.last++up x.words.length y.last from h)with h|h
  . have:=hx.last _ h;omega
  . obtain⟨u,hu,e⟩:=mem_up.1 h;obtain rfl:u=b:=by omega
    exact⟨[],rfl,hu⟩
 |z::r,b,h=>by
  rcases zM.1 (show (b+x.words.length,z)∈x.pairs++upP x.words.length y.pairs from h.1)with h1|h1
  . have:=(hx.pairs _ _ h1).1;omega
  . obtain⟨u,v,huv,e,rfl⟩:=mem_upP.1 h1;obtain rfl:u=b:=by omega
    obtain⟨q,rfl,hq⟩:=alt_walk_y hx r v h.2;exact⟨v::q,rfl,huv,hq⟩
theorem alt_walk_l{x y:Prt}:∀(r:List Nat) (a:Nat),walkP x a r->walkP (altC x y) a r
 |[],_,h=>yN _ h
 |z::r,_,h=>⟨yN _ h.1,alt_walk_l r z h.2⟩
theorem alt_walk_r{x y:Prt}:∀(q:List Nat) (b:Nat),walkP y b q->walkP (altC x y) (b+x.words.length) (up x.words.length q)
 |[],b,h=>List.mem_append_right _ (mem_up.2 ⟨b,h,rfl⟩)
 |v::q,b,h=>⟨List.mem_append_right _ (mem_upP.2 ⟨b,v,h.1,rfl,rfl⟩),alt_walk_r q v h.2⟩
theorem alt_reads{x y:Prt}(hx:Fits x)(l:List Wd):readsP (altC x y) l↔readsP x l\/readsP y l:=by
 constructor
 . rintro⟨ps,hr,hl⟩;rw[show (altC x y).words=x.words++y.words from rfl]at hl;cases ps with
   |nil=>
    have h:(x.empty||y.empty)=true:=hr;rw[Bool.or_eq_true]at h;rcases h with h|h
    . exact .inl ⟨[],h,hl⟩
    . exact .inr ⟨[],h,hl⟩
   |cons a r=>
    rcases zM.1 (show a∈x.first++up x.words.length y.first from hr.1)with h1|h1
    . have hw:=alt_walk_x hx r a (hx.first a h1) hr.2;refine .inl ⟨a::r,⟨h1,hw⟩,?_⟩;rw[hl,words_left (runP_lt hx (show runP x (a::r)from⟨h1,hw⟩))]
    . obtain⟨b,hb,rfl⟩:=mem_up.1 h1;obtain⟨q,rfl,hq⟩:=alt_walk_y hx r b hr.2;refine .inr ⟨b::q,⟨hb,hq⟩,?_⟩;rw[hl];exact words_right (b::q)
 . rintro (⟨ps,hr,hl⟩|⟨ps,hr,hl⟩)
   . refine⟨ps,?_,?_⟩
     . cases ps with
       |nil=>show (x.empty||y.empty)=true;rw[show x.empty=true from hr];rfl
       |cons a r=>exact⟨yN _ hr.1,alt_walk_l r a hr.2⟩
     . rw[show (altC x y).words=x.words++y.words from rfl,words_left (runP_lt hx hr),hl]
   . refine⟨up x.words.length ps,?_,?_⟩
     . cases ps with
       |nil=>show (x.empty||y.empty)=true;rw[show y.empty=true from hr,Bool.or_true]
       |cons a r=>exact⟨List.mem_append_right _ (mem_up.2 ⟨a,hr.1,rfl⟩),alt_walk_r r a hr.2⟩
     . rw[show (altC x y).words=x.words++y.words from rfl,words_right,hl]
theorem fits_loop{x:Prt}(hx:Fits x):Fits (loopC x):=
 ⟨hx.first,hx.last,fun a b hab=>by
  rcases zM.1 (show (a,b)∈x.pairs++cross x.last x.first from hab)with h|h
  . exact hx.pairs a b h
  . obtain⟨h1,h2⟩:=mem_cross.1 h;exact⟨hx.last a h1,hx.first b h2⟩⟩
theorem fits_may{x:Prt}(hx:Fits x):Fits (mayC2 x):=⟨hx.first,hx.last,hx.pairs⟩
theorem loop_walk{x:Prt}:∀(r:List Nat) (a:Nat),walkP (loopC x) a r->∃(r1:List Nat) (qs:List (List Nat)),r=r1++qs.flatten/\walkP x a r1/\∀q∈qs,q≠[]/\runP x q
 |[],a,h=>⟨[],[],rfl,h,by simp⟩
 |z::r,a,h=>by
  obtain⟨r1,qs,rfl,hw,hq⟩:=loop_walk r z h.2;rcases zM.1 (show (a,z)∈x.pairs++cross x.last x.first from h.1)with h1|h1
  . exact⟨z::r1,qs,rfl,⟨h1,hw⟩,hq⟩
  . obtain⟨h2,h3⟩:=mem_cross.1 h1;refine⟨[],(z::r1)::qs,by simp,h2,fun q hq2=>?_⟩;rcases yB.1 hq2 with rfl|hq2
    . exact⟨by simp,h3,hw⟩
    . exact hq q hq2
theorem loop_join{x:Prt}(qs:List (List Nat)):(∀q∈qs,q≠[]/\runP x q)->∀(r1:List Nat) (a:Nat),walkP x a r1->walkP (loopC x) a (r1++qs.flatten):=by
 induction qs with
 |nil=>
  intro _ r1;induction r1 with
  |nil=>intro a h;exact h
  |cons z r1 ih=>intro a h;exact⟨yN _ h.1,ih z h.2⟩
 |cons q qs ih=>
  intro hq r1;have h1:=hq q (zL ..);have ih:=ih (fun q hq2=>hq q (zP _ hq2));induction r1 with
  |nil=>
   intro a h;cases q with
   |nil=>exact absurd rfl h1.1
   |cons b q=>exact⟨List.mem_append_right _ (mem_cross.2 ⟨h,h1.2.1⟩),ih q b h1.2.2⟩
  |cons z r1 ih2=>intro a h;exact⟨yN _ h.1,ih2 z h.2⟩
theorem pieces_read{x:Prt}:∀(qs:List (List Nat)) (l:List Wd),(∀q∈qs,q≠[]/\runP x q)->l.map some=qs.flatten.map (fun i=>x.words[i]?)->starL (readsP x) l
 |[],l,_,h=>⟨[],by simpa using h,by simp⟩
 |q::qs,l,hq,h=>by
  rw[List.flatten_cons,yK]at h;obtain⟨l1,l2,rfl,h1,h2⟩:=some_split h;obtain⟨ls,rfl,hl⟩:=pieces_read qs l2 (fun q hq2=>hq q (zP _ hq2)) h2;refine⟨l1::ls,by simp,fun y hy=>?_⟩;rcases yB.1 hy with rfl|hy
  . exact⟨q,(hq q (zL ..)).2,h1⟩
  . exact hl y hy
theorem pieces_run{x:Prt}:∀(ls:List (List Wd)),(∀y∈ls,readsP x y)->∃qs:List (List Nat),(∀q∈qs,q≠[]/\runP x q)/\ls.flatten.map some=qs.flatten.map (fun i=>x.words[i]?)
 |[],_=>⟨[],by simp,by simp⟩
 |y::ls,h=>by
  obtain⟨qs,h1,h2⟩:=pieces_run ls (fun z hz=>h z (zP _ hz));obtain⟨ps,hr,hl⟩:=h y (zL ..);cases ps with
  |nil=>
   have:y=[]:=by simpa using hl
   subst this;exact⟨qs,h1,by simpa using h2⟩
  |cons a r=>
   refine⟨(a::r)::qs,fun q hq=>?_,by rw[List.flatten_cons,List.flatten_cons,yK,yK,hl,h2]⟩;rcases yB.1 hq with rfl|hq
   . exact⟨by simp,hr⟩
   . exact h1 q hq
theorem loop_reads{x:Prt}(l:List Wd):readsP (loopC x) l↔plusL (readsP x) l:=by
 constructor
 . rintro⟨ps,hr,hl⟩;cases ps with
   |nil=>
    have:l=[]:=by simpa using hl
    subst this;exact⟨[],[],rfl,⟨[],hr,rfl⟩,[],rfl,by simp⟩
   |cons a r=>
    obtain⟨r1,qs,rfl,hw,hq⟩:=loop_walk r a hr.2;rw[show a::(r1++qs.flatten)=(a::r1)++qs.flatten from rfl,yK]at hl;obtain⟨l1,l2,rfl,h1,h2⟩:=some_split hl;exact⟨l1,l2,rfl,⟨a::r1,⟨hr.1,hw⟩,h1⟩,pieces_read qs l2 hq h2⟩
 . rintro⟨a,b,rfl,⟨ps,hr,hl⟩,ls,rfl,hls⟩;obtain⟨qs,h1,h2⟩:=pieces_run ls hls;refine⟨ps++qs.flatten,?_,by rw[yK,yK,h2];exact congrArg (·++_) hl⟩;cases ps with
   |nil=>
    cases qs with
    |nil=>exact hr
    |cons q qs=>
     have hq:=h1 q (zL ..);cases q with
     |nil=>exact absurd rfl hq.1
     |cons c q=>exact⟨hq.2.1,loop_join qs (fun q hq2=>h1 q (zP _ hq2)) q c hq.2.2⟩
   |cons c r=>exact⟨hr.1,loop_join qs h1 r c hr.2⟩
theorem may_walk{x:Prt}:∀(r:List Nat) (a:Nat),walkP (mayC2 x) a r↔walkP x a r
 |[],_=>Iff.rfl
 |z::r,_=>and_congr Iff.rfl (may_walk r z)
theorem may_reads{x:Prt}(l:List Wd):readsP (mayC2 x) l↔l=[]\/readsP x l:=by
 constructor
 . rintro⟨ps,hr,hl⟩;cases ps with
   |nil=>exact .inl (by simpa using hl)
   |cons a r=>exact .inr ⟨a::r,⟨hr.1,(may_walk r a).1 hr.2⟩,hl⟩
 . rintro (rfl|⟨ps,hr,hl⟩)
   . exact⟨[],rfl,rfl⟩
   . refine⟨ps,?_,hl⟩;cases ps with
     |nil=>rfl
     |cons a r=>exact⟨hr.1,(may_walk r a).2 hr.2⟩
theorem star_plus{f:List Wd->Prop}(l:List Wd):(l=[]\/plusL f l)↔starL f l:=by
 constructor
 . rintro (rfl|⟨a,b,rfl,ha,ls,rfl,hls⟩)
   . exact⟨[],rfl,by simp⟩
   . refine⟨a::ls,by simp,fun x hx=>?_⟩;rcases yB.1 hx with rfl|hx
     . exact ha
     . exact hls x hx
 . rintro⟨ls,rfl,hls⟩;cases ls with
   |nil=>exact .inl rfl
   |cons a ls=>exact .inr ⟨a,ls.flatten,by simp,hls a (zL ..),ls,rfl,fun x hx=>hls x (zP _ hx)⟩
theorem fits_none(e:Bool):Fits (prt0 e):=⟨by simp[prt0],by simp[prt0],by simp[prt0]⟩
theorem fold_seq:∀(ps:List Prt) (x:Prt),Fits x->(∀p∈ps,Fits p)->Fits (ps.foldl seqC x)/\∀l,readsP (ps.foldl seqC x) l↔∃a b,l=a++b/\readsP x a/\seqL (ps.map readsP) b
 |[],x,hx,_=>⟨hx,fun l=>⟨fun h=>⟨l,[],by simp,h,rfl⟩,by rintro⟨a,b,rfl,h,rfl⟩;simpa using h⟩⟩
 |p::ps,x,hx,hp=>by
  have h1:=hp p (zL ..);obtain⟨h2,h3⟩:=fold_seq ps (seqC x p) (fits_seq hx h1) (fun q hq=>hp q (zP _ hq));refine⟨h2,fun l=>?_⟩;rw[yM,h3 l];constructor
  . rintro⟨a,b,rfl,ha,hb⟩;obtain⟨c,d,rfl,hc,hd⟩:=(seq_reads hx h1 a).1 ha;exact⟨c,d++b,by simp,hc,d,b,rfl,hd,hb⟩
  . rintro⟨a,b,rfl,ha,c,d,rfl,hc,hd⟩;exact⟨a++c,d,by simp,(seq_reads hx h1 _).2 ⟨a,c,rfl,ha,hc⟩,hd⟩
theorem fold_alt:∀(ps:List Prt) (x:Prt),Fits x->(∀p∈ps,Fits p)->Fits (ps.foldl altC x)/\∀l,readsP (ps.foldl altC x) l↔readsP x l\/altL (ps.map readsP) l
 |[],x,hx,_=>⟨hx,fun l=>⟨fun h=>.inl h,by
  rintro (h|⟨f,hf,_⟩)
  . exact h
  . simp at hf⟩⟩
 |p::ps,x,hx,hp=>by
  have h1:=hp p (zL ..);obtain⟨h2,h3⟩:=fold_alt ps (altC x p) (fits_alt hx h1) (fun q hq=>hp q (zP _ hq));refine⟨h2,fun l=>?_⟩;rw[yM,h3 l,alt_reads hx];constructor
  . rintro ((h|h)|⟨f,hf,h⟩)
    . exact .inl h
    . exact .inr ⟨readsP p,by simp,h⟩
    . exact .inr ⟨f,zP _ hf,h⟩
  . rintro (h|⟨f,hf,h⟩)
    . exact .inl (.inl h)
    . rcases yB.1 hf with rfl|hf
      . exact .inl (.inr h)
      . exact .inr ⟨f,hf,h⟩
theorem reads_none(l:List Wd):¬readsP (prt0 false) l:=by
 rintro⟨ps,hr,_⟩;cases ps with
 |nil=>cases hr
 |cons a r=>exact absurd hr.1 (by simp[prt0])
theorem reads_nil(l:List Wd):readsP (prt0 true) l↔l=[]:=by
 constructor
 . rintro⟨ps,hr,hl⟩;cases ps with
   |nil=>simpa using hl
   |cons a r=>exact absurd hr.1 (by simp[prt0])
 . rintro rfl;exact⟨[],rfl,rfl⟩
theorem map_ext{f g:Pt->List Wd->Prop}{kids:List Pt}(h:∀x∈kids,∀l,f x l↔g x l):kids.map f=kids.map g:=
 yS (fun x hx=>funext (fun l=>propext (h x hx l)))
theorem prtOf_reads:∀t:Pt,Fits (prtOf t)/\∀l,readsP (prtOf t) l↔willL t l:=by
 refine Pt.ind (fun k w kids ih=>?_);have hf:∀p∈kids.map prtOf,Fits p:=fun p hp=>by
  obtain⟨x,hx,rfl⟩:=zV.1 hp;exact(ih x hx).1
 have hm:(kids.map prtOf).map readsP=kids.map willL:=by
  rw[List.map_map];exact map_ext (fun x hx l=>(ih x hx).2 l)
 rw[prtOf_mk,willL_mk];obtain⟨s1,s2⟩:=fold_seq (kids.map prtOf) (prt0 true) (fits_none _) hf;obtain⟨a1,a2⟩:=fold_alt (kids.map prtOf) (prt0 false) (fits_none _) hf;rw[hm]at s2 a2;have a3:readsP ((kids.map prtOf).foldl altC (prt0 false))=altL (kids.map willL):=funext (fun l=>propext ((a2 l).trans ⟨fun h=>h.resolve_left (reads_none l),.inr⟩));unfold kindC;simp only[kindL];by_cases h1:k=1
 . simp only[h1,if_true];refine⟨⟨by simp,by simp,by simp⟩,fun l=>⟨?_,?_⟩⟩
   . rintro⟨ps,hr,hl⟩;cases ps with
     |nil=>cases hr
     |cons a r=>
      obtain⟨ha,hw⟩:=hr;have ha:a=0:=by simpa using ha
      subst ha;cases r with
      |nil=>
       simp only[List.map_cons,List.map_nil,List.getElem?_cons_zero]at hl;cases l with
       |nil=>simp at hl
       |cons u l=>simpa using hl
      |cons z r=>exact absurd hw.1 (by simp)
   . rintro rfl;exact⟨[0],⟨by simp,by simp[walkP]⟩,rfl⟩
 . simp only[h1,if_false];by_cases h2:k=2
   . simp only[h2,if_true];refine⟨s1,fun l=>(s2 l).trans ⟨?_,fun h=>⟨[],l,rfl,(reads_nil []).2 rfl,h⟩⟩⟩;rintro⟨a,b,rfl,ha,hb⟩;rw[(reads_nil a).1 ha];exact hb
   . simp only[h2,if_false];by_cases h4:k=4
     . simp only[h4,if_true];refine⟨fits_may (fits_loop a1),fun l=>?_⟩;rw[may_reads,loop_reads,a3];exact star_plus l
     . simp only[h4,if_false];by_cases h5:k=5
       . simp only[h5,if_true];refine⟨fits_loop a1,fun l=>?_⟩;rw[loop_reads,a3]
       . simp only[h5,if_false];by_cases h6:k=6
         . simp only[h6,if_true];refine⟨fits_may a1,fun l=>?_⟩;rw[may_reads,a3]
         . simp only[h6,if_false];exact⟨a1,fun l=>by rw[a3]⟩
structure Au where
 words:List Wd
 first:List Int
 last:List Int
 follow:List (List Int)
 empty:Bool
def goodF(n:Nat):Int->List Int->Bool
 |_,[]=>true
 |b,x::l=>decide (b<x)&&decide (x<n)&&goodF n x l
def goodL(n:Nat)(l:List Int):Bool:=goodF n (-1) l
def mayA(a:Au):Bool:=decide (a.words.length<=24)&&decide (a.follow.length=a.words.length)&&goodL a.words.length a.first&&goodL a.words.length a.last&&a.words.all isW&&a.follow.all (goodL a.words.length)
def outA(a:Au)(s:Int):List Int:=if s<0 then a.first else a.follow.getD s.toNat []
def wordA(a:Au)(s:Int):Option Wd:=a.words[s.toNat]?
def isPl(a:Au)(s:Int):Bool:=decide (-1<=s)&&decide (s<a.words.length)
def nextA(a:Au)(s:Int)(w:Wd):List Int:=if mayA a=true/\isPl a s=true then (outA a s).filter (fun x=>decide (wordA a x=some w))else []
def endsA(a:Au)(s:Int):Bool:=mayA a&&isPl a s&&(if s<0 then a.empty else decide (s∈a.last))
def accW(a:Au):Int->List Wd->Prop
 |s,[]=>endsA a s=true
 |s,w::l=>∃y∈nextA a s w,accW a y l
def accA(a:Au)(l:List Wd):Prop:=mayA a=true/\accW a (-1) l
theorem goodF_mem{n:Nat}:∀(l:List Int) (b:Int),goodF n b l=true->∀x∈l,b<x/\x<n
 |[],_,_=>by simp
 |y::l,b,h=>by
  simp only[goodF,Bool.and_eq_true,decide_eq_true_eq]at h;intro x hx;rcases yB.1 hx with rfl|hx
  . exact h.1
  . have:=goodF_mem l y h.2 x hx;omega
theorem good_mem{n:Nat}{l:List Int}(h:goodL n l=true){x:Int}(hx:x∈l):0<=x/\x<n:=by
 have:=goodF_mem l (-1) h x hx;omega
def rise(n:Nat)(l:List Nat):List Int:=((List.range n).filter (fun k=>decide (k∈l))).map Int.ofNat
theorem mem_rise{n:Nat}{l:List Nat}{x:Nat}:(x:Int)∈rise n l↔x<n/\x∈l:=by
 unfold rise;simp only[zV,zY,yJ,decide_eq_true_eq];constructor
 . rintro⟨y,⟨h1,h2⟩,e⟩;have:y=x:=Int.ofNat.inj e;subst this;exact⟨h1,h2⟩
 . rintro⟨h1,h2⟩;exact⟨x,⟨h1,h2⟩,rfl⟩
theorem rise_nat{n:Nat}{l:List Nat}{z:Int}(h:z∈rise n l):∃x:Nat,z=x:=by
 obtain⟨x,_,rfl⟩:=zV.1 h;exact⟨x,rfl⟩
theorem goodF_range{P:Nat->Bool}{N:Nat}:∀(k s:Nat) (b:Int),b<s->s+k<=N->goodF N b (((List.range' s k).filter P).map Int.ofNat)=true
 |0,s,b,_,_=>rfl
 |k+1,s,b,hb,hN=>by
  rw[List.range'_succ,List.filter_cons];split
  . rw[List.map_cons,goodF,goodF_range k (s+1) (Int.ofNat s) (by simp only[Int.ofNat_eq_natCast];omega) (by omega)];simp only[Int.ofNat_eq_natCast,Bool.and_true,Bool.and_eq_true,decide_eq_true_eq];omega
  . exact goodF_range k (s+1) b (by omega) (by omega)
theorem good_rise(n:Nat)(l:List Nat):goodL n (rise n l)=true:=by
 unfold goodL rise;rw[List.range_eq_range'];exact goodF_range n 0 (-1) (by omega) (by omega)
def folN(ps:List (Nat×Nat))(k:Nat):List Nat:=(ps.filter (fun p=>decide (p.1=k))).map (·.2)
theorem mem_folN{ps:List (Nat×Nat)}{k y:Nat}:y∈folN ps k↔(k,y)∈ps:=by
 unfold folN;simp only[zV,zY,decide_eq_true_eq];constructor
 . rintro⟨⟨a,b⟩,⟨h,e1⟩,e2⟩;dsimp only at e1 e2;subst e1 e2;exact h
 . intro h;exact⟨(k,y),⟨h,rfl⟩,rfl⟩
def auOf(x:Prt):Au:=⟨x.words,rise x.words.length x.first,rise x.words.length x.last,(List.range x.words.length).map (fun k=>rise x.words.length (folN x.pairs k)),x.empty⟩
theorem auOf_follow(x:Prt){k:Nat}(h:k<x.words.length):(auOf x).follow.getD k []=rise x.words.length (folN x.pairs k):=by
 simp[auOf,List.getD,List.getElem?_map,List.getElem?_range h]
theorem auOf_may{x:Prt}(h1:x.words.length<=24)(h2:x.words.all isW=true):mayA (auOf x)=true:=by
 have hf:(auOf x).follow.all (goodL (auOf x).words.length)=true:=by
  rw[yI];intro l hl;obtain⟨k,_,rfl⟩:=zV.1 hl;exact good_rise _ _
 have hl:(auOf x).follow.length=(auOf x).words.length:=by simp[auOf]
 unfold mayA;rw[hf,zU hl,show (auOf x).words=x.words from rfl,h2,zU h1,show goodL x.words.length (auOf x).first=true from good_rise _ _,show goodL x.words.length (auOf x).last=true from good_rise _ _];rfl
theorem au_walk{x:Prt}(hx:Fits x)(hm:mayA (auOf x)=true):∀(l:List Wd) (a:Nat),a<x.words.length->(accW (auOf x) (a:Int) l↔∃r,walkP x a r/\l.map some=r.map fun i=>x.words[i]?)
 |[],a,ha=>by
  have hp:isPl (auOf x) (a:Int)=true:=by
   simp only[isPl,Bool.and_eq_true,decide_eq_true_eq];exact⟨by omega,by show (a:Int)<(x.words.length:Int);omega⟩
  show endsA (auOf x) (a:Int)=true↔_;rw[endsA,hm,hp,if_neg (by omega),Bool.true_and,Bool.true_and,decide_eq_true_eq];rw[show (auOf x).last=rise x.words.length x.last from rfl,mem_rise];constructor
  . rintro⟨_,h⟩;exact⟨[],h,rfl⟩
  . rintro⟨r,h,e⟩;cases r with
    |nil=>exact⟨ha,h⟩
    |cons z r=>simp at e
 |w::l,a,ha=>by
  have hp:isPl (auOf x) (a:Int)=true:=by
   simp only[isPl,Bool.and_eq_true,decide_eq_true_eq];exact⟨by omega,by show (a:Int)<(x.words.length:Int);omega⟩
  show (∃y∈nextA (auOf x) (a:Int) w,accW (auOf x) y l)↔_;rw[nextA,if_pos ⟨hm,hp⟩,outA,if_neg (by omega),Int.toNat_natCast,auOf_follow x ha];constructor
  . rintro⟨y,hy,hw⟩;obtain⟨h1,h2⟩:=zY.1 hy;obtain⟨b,rfl⟩:=rise_nat h1;obtain⟨hb,h3⟩:=mem_rise.1 h1;obtain⟨r,hr,e⟩:=(au_walk hx hm l b hb).1 hw;refine⟨b::r,⟨mem_folN.1 h3,hr⟩,?_⟩;rw[List.map_cons,List.map_cons,e];congr 1;have h2:=of_decide_eq_true h2;rw[wordA,Int.toNat_natCast]at h2;exact h2.symm
  . rintro⟨r,hr,e⟩;cases r with
    |nil=>simp at e
    |cons b r=>
     rw[List.map_cons,List.map_cons,List.cons.injEq]at e;have hb:=(hx.pairs a b hr.1).2;refine⟨(b:Int),zY.2 ⟨mem_rise.2 ⟨hb,mem_folN.2 hr.1⟩,?_⟩,(au_walk hx hm l b hb).2 ⟨r,hr.2,e.2⟩⟩;apply zU;rw[wordA,Int.toNat_natCast];exact e.1.symm
theorem au_reads{x:Prt}(hx:Fits x)(hm:mayA (auOf x)=true)(l:List Wd):accA (auOf x) l↔readsP x l:=by
 have hp:isPl (auOf x) (-1)=true:=by
  simp only[isPl,Bool.and_eq_true,decide_eq_true_eq];omega
 unfold accA;cases l with
 |nil=>
  show mayA (auOf x)=true/\endsA (auOf x) (-1)=true↔_;rw[endsA,hm,hp,if_pos (by omega),Bool.true_and,Bool.true_and];constructor
  . rintro⟨_,h⟩;exact⟨[],h,rfl⟩
  . rintro⟨ps,hr,e⟩;cases ps with
    |nil=>exact⟨rfl,hr⟩
    |cons a r=>simp at e
 |cons w l=>
  show mayA (auOf x)=true/\(∃y∈nextA (auOf x) (-1) w,accW (auOf x) y l)↔_;rw[nextA,if_pos ⟨hm,hp⟩,outA,if_pos (by omega)];constructor
  . rintro⟨_,y,hy,hw⟩;obtain⟨h1,h2⟩:=zY.1 hy;obtain⟨b,rfl⟩:=rise_nat h1;obtain⟨hb,h3⟩:=mem_rise.1 h1;obtain⟨r,hr,e⟩:=(au_walk hx hm l b hb).1 hw;refine⟨b::r,⟨h3,hr⟩,?_⟩;rw[List.map_cons,List.map_cons,e];congr 1;have h2:=of_decide_eq_true h2;rw[wordA,Int.toNat_natCast]at h2;exact h2.symm
  . rintro⟨ps,hr,e⟩;cases ps with
    |nil=>simp at e
    |cons b r=>
     rw[List.map_cons,List.map_cons,List.cons.injEq]at e;have hb:=hx.first b hr.1
     refine⟨hm,(b:Int),zY.2 ⟨mem_rise.2 ⟨hb,hr.1⟩,?_⟩,(au_walk hx hm l b hb).2 ⟨r,hr.2,e.2⟩⟩;apply zU;rw[wordA,Int.toNat_natCast];exact e.1.symm
def autoOf(t:Pt):Au:=auOf (prtOf t)
theorem fold_words{f:Prt->Prt->Prt}(hf:∀x y,(f x y).words=x.words++y.words):∀(ps:List Prt) (x:Prt),(ps.foldl f x).words=x.words++(ps.map (·.words)).flatten
 |[],x=>by simp
 |p::ps,x=>by rw[yM,fold_words hf ps,hf];simp
theorem prt_words:∀t:Pt,(∀d,shapedP d t=true->(prtOf t).words.all isW=true)/\(prtOf t).words.length=leaves t:=by
 refine Pt.ind (fun k w kids ih=>?_);rw[prtOf_mk,leaves_mk];have hs:((kids.map prtOf).foldl seqC (prt0 true)).words=((kids.map prtOf).map (·.words)).flatten:=by rw[fold_words (fun _ _=>rfl)];rfl
 have ha:((kids.map prtOf).foldl altC (prt0 false)).words=((kids.map prtOf).map (·.words)).flatten:=by rw[fold_words (fun _ _=>rfl)];rfl
 by_cases h1:k=1
 . subst h1;refine⟨fun d hd=>?_,by simp[kindC]⟩;cases d with
   |zero=>cases hd
   |succ d=>
    simp only[shapedP,Bool.and_eq_true]at hd;have:=hd.1.1;simp[formedP]at this;simp[kindC,this.2]
 . have hw:(kindC k w (kids.map prtOf)).words=((kids.map prtOf).map (·.words)).flatten:=by
    unfold kindC;rw[if_neg h1];split
    . exact hs
    . split
      . exact ha
      . split
        . exact ha
        . split<;>exact ha
   rw[hw,if_neg h1];refine⟨fun d hd=>?_,?_⟩
   . cases d with
     |zero=>cases hd
     |succ d=>
      simp only[shapedP,Bool.and_eq_true,yI]at hd;rw[yI];intro u hu;obtain⟨l,hl,hul⟩:=List.mem_flatten.1 hu;rw[List.map_map]at hl;obtain⟨x,hx,rfl⟩:=zV.1 hl;have:=(ih x hx).1 d (hd.2 x hx);rw[yI]at this;exact this u hul
   . rw[List.length_flatten,List.map_map,List.map_map];congr 1;exact yS (fun x hx=>(ih x hx).2)
theorem auto_will{t:Pt}(h:mayP t=true):mayA (autoOf t)=true/\∀l,accA (autoOf t) l↔willL t l:=by
 simp only[mayP,Bool.and_eq_true,decide_eq_true_eq]at h;have hm:mayA (autoOf t)=true:=auOf_may (by rw[(prt_words t).2];exact h.2) ((prt_words t).1 12 h.1);obtain⟨h1,h2⟩:=prtOf_reads t;exact⟨hm,fun l=>(au_reads h1 hm l).trans (h2 l)⟩
theorem alt_one{f:List Wd->Prop}:altL [f]=f:=by
 funext l;simp[altL]
theorem up_append(n:Nat)(a b:List Nat):up n (a++b)=up n a++up n b:=by simp[up]
theorem up_up(n m:Nat)(a:List Nat):up n (up m a)=up (n+m) a:=by
 simp only[up,List.map_map];exact yS (fun x _=>by simp only[Function.comp];omega)
theorem upP_append(n:Nat)(a b:List (Nat×Nat)):upP n (a++b)=upP n a++upP n b:=by simp[upP]
theorem upP_upP(n m:Nat)(a:List (Nat×Nat)):upP n (upP m a)=upP (n+m) a:=by
 simp only[upP,List.map_map];exact yS (fun x _=>by simp only[Function.comp,Prod.mk.injEq];omega)
theorem cross_up(n:Nat)(a b:List Nat):upP n (cross a b)=cross (up n a) (up n b):=by
 simp only[upP,cross,up,List.map_flatMap,List.flatMap_map,List.map_map];rfl
end Go.Proofs.YtkbgmcmcpbegjaaGreatDoor
