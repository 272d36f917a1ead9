/- AMath2, AMath3, AMath4. -/
import Derived.Test.YtkbgmcmcpbegjabGreatDoorMG1
set_option maxRecDepth 100000
namespace Go.Proofs.YtkbgmcmcpbegjabGreatDoor
open Go.RowKit
structure Au where
 words:List Wd
 first:List Int
 last:List Int
 follow:List (List Int)
 empty:Bool
def goodF(n:Nat):Int->List Int->Bool
 |_,[]=>true
 |b,x::l=>decide (b<x)&&decide (x<n)&&goodF n x l
def goodL(n:Nat)(l:List Int):Bool:=goodF n (-1) l
def mayA(a:Au):Bool:=decide (a.words.length<=24)&&decide (a.follow.length=a.words.length)&&goodL a.words.length a.first&&goodL a.words.length a.last&&a.words.all isW&&a.follow.all (goodL a.words.length)
def outA(a:Au)(s:Int):List Int:=if s<0 then a.first else a.follow.getD s.toNat []
def wordA(a:Au)(s:Int):Option Wd:=a.words[s.toNat]?
def isPl(a:Au)(s:Int):Bool:=decide (-1<=s)&&decide (s<a.words.length)
def nextA(a:Au)(s:Int)(w:Wd):List Int:=if mayA a=true/\isPl a s=true then (outA a s).filter (fun x=>decide (wordA a x=some w))else []
def endsA(a:Au)(s:Int):Bool:=mayA a&&isPl a s&&(if s<0 then a.empty else decide (s∈a.last))
def accW(a:Au):Int->List Wd->Prop
 |s,[]=>endsA a s=true
 |s,w::l=>∃y∈nextA a s w,accW a y l
def accA(a:Au)(l:List Wd):Prop:=mayA a=true/\accW a (-1) l
theorem goodF_mem{n:Nat}:∀(l:List Int) (b:Int),goodF n b l=true->∀x∈l,b<x/\x<n
 |[],_,_=>by simp
 |y::l,b,h=>by
  simp only[goodF,Bool.and_eq_true,decide_eq_true_eq]at h;intro x hx;rcases zY.1 hx with rfl|hx
  . exact h.1
  . have:=goodF_mem l y h.2 x hx;omega
theorem good_mem{n:Nat}{l:List Int}(h:goodL n l=true){x:Int}(hx:x∈l):0<=x/\x<n:=by
 have:=goodF_mem l (-1) h x hx;omega
def rise(n:Nat)(l:List Nat):List Int:=((List.range n).filter (fun k=>decide (k∈l))).map Int.ofNat
theorem mem_rise{n:Nat}{l:List Nat}{x:Nat}:(x:Int)∈rise n l↔x<n/\x∈l:=by
 unfold rise;simp only[zS,zW,yD,decide_eq_true_eq];constructor
 . rintro⟨y,⟨h1,h2⟩,e⟩;have:y=x:=Int.ofNat.inj e;subst this;exact⟨h1,h2⟩
 . rintro⟨h1,h2⟩;exact⟨x,⟨h1,h2⟩,rfl⟩
theorem rise_nat{n:Nat}{l:List Nat}{z:Int}(h:z∈rise n l):∃x:Nat,z=x:=by
 obtain⟨x,_,rfl⟩:=zS.1 h;exact⟨x,rfl⟩
theorem goodF_range{P:Nat->Bool}{N:Nat}:∀(k s:Nat) (b:Int),b<s->s+k<=N->goodF N b (((List.range' s k).filter P).map Int.ofNat)=true
 |0,s,b,_,_=>rfl
 |k+1,s,b,hb,hN=>by
  rw[List.range'_succ,List.filter_cons];split
  . rw[List.map_cons,goodF,goodF_range k (s+1) (Int.ofNat s) (by simp only[Int.ofNat_eq_natCast];omega) (by omega)];simp only[Int.ofNat_eq_natCast,Bool.and_true,Bool.and_eq_true,decide_eq_true_eq];omega
  . exact goodF_range k (s+1) b (by omega) (by omega)
theorem good_rise(n:Nat)(l:List Nat):goodL n (rise n l)=true:=by
 unfold goodL rise;rw[List.range_eq_range'];exact goodF_range n 0 (-1) (by omega) (by omega)
def folN(ps:List (Nat×Nat))(k:Nat):List Nat:=(ps.filter (fun p=>decide (p.1=k))).map (·.2)
theorem mem_folN{ps:List (Nat×Nat)}{k y:Nat}:y∈folN ps k↔(k,y)∈ps:=by
 unfold folN;simp only[zS,zW,decide_eq_true_eq];constructor
 . rintro⟨⟨a,b⟩,⟨h,e1⟩,e2⟩;dsimp only at e1 e2;subst e1 e2;exact h
 . intro h;exact⟨(k,y),⟨h,rfl⟩,rfl⟩
def auOf(x:Prt):Au:=⟨x.words,rise x.words.length x.first,rise x.words.length x.last,(List.range x.words.length).map (fun k=>rise x.words.length (folN x.pairs k)),x.empty⟩
theorem auOf_follow(x:Prt){k:Nat}(h:k<x.words.length):(auOf x).follow.getD k []=rise x.words.length (folN x.pairs k):=by
 simp[auOf,List.getD,List.getElem?_map,List.getElem?_range h]
theorem auOf_may{x:Prt}(h1:x.words.length<=24)(h2:x.words.all isW=true):mayA (auOf x)=true:=by
 have hf:(auOf x).follow.all (goodL (auOf x).words.length)=true:=by
  rw[yK];intro l hl;obtain⟨k,_,rfl⟩:=zS.1 hl;exact good_rise _ _
 have hl:(auOf x).follow.length=(auOf x).words.length:=by simp[auOf]
 unfold mayA;rw[hf,yA hl,show (auOf x).words=x.words from rfl,h2,yA h1,show goodL x.words.length (auOf x).first=true from good_rise _ _,show goodL x.words.length (auOf x).last=true from good_rise _ _];rfl
theorem au_walk{x:Prt}(hx:Fits x)(hm:mayA (auOf x)=true):∀(l:List Wd) (a:Nat),a<x.words.length->(accW (auOf x) (a:Int) l↔∃r,walkP x a r/\l.map some=r.map fun i=>x.words[i]?)
 |[],a,ha=>by
  have hp:isPl (auOf x) (a:Int)=true:=by
   simp only[isPl,Bool.and_eq_true,decide_eq_true_eq];exact⟨by omega,by show (a:Int)<(x.words.length:Int);omega⟩
  show endsA (auOf x) (a:Int)=true↔_;rw[endsA,hm,hp,if_neg (by omega),Bool.true_and,Bool.true_and,decide_eq_true_eq];rw[show (auOf x).last=rise x.words.length x.last from rfl,mem_rise];constructor
  . rintro⟨_,h⟩;exact⟨[],h,rfl⟩
  . rintro⟨r,h,e⟩;cases r with
    |nil=>exact⟨ha,h⟩
    |cons z r=>simp at e
 |w::l,a,ha=>by
  have hp:isPl (auOf x) (a:Int)=true:=by
   simp only[isPl,Bool.and_eq_true,decide_eq_true_eq];exact⟨by omega,by show (a:Int)<(x.words.length:Int);omega⟩
  show (∃y∈nextA (auOf x) (a:Int) w,accW (auOf x) y l)↔_;rw[nextA,if_pos ⟨hm,hp⟩,outA,if_neg (by omega),Int.toNat_natCast,auOf_follow x ha];constructor
  . rintro⟨y,hy,hw⟩;obtain⟨h1,h2⟩:=zW.1 hy;obtain⟨b,rfl⟩:=rise_nat h1;obtain⟨hb,h3⟩:=mem_rise.1 h1;obtain⟨r,hr,e⟩:=(au_walk hx hm l b hb).1 hw;refine⟨b::r,⟨mem_folN.1 h3,hr⟩,?_⟩;rw[List.map_cons,List.map_cons,e];congr 1;have h2:=of_decide_eq_true h2;rw[wordA,Int.toNat_natCast]at h2;exact h2.symm
  . rintro⟨r,hr,e⟩;cases r with
    |nil=>simp at e
    |cons b r=>
     rw[List.map_cons,List.map_cons,List.cons.injEq]at e;have hb:=(hx.pairs a b hr.1).2;refine⟨(b:Int),zW.2 ⟨mem_rise.2 ⟨hb,mem_folN.2 hr.1⟩,?_⟩,(au_walk hx hm l b hb).2 ⟨r,hr.2,e.2⟩⟩;apply yA;rw[wordA,Int.toNat_natCast];exact e.1.symm
theorem au_reads{x:Prt}(hx:Fits x)(hm:mayA (auOf x)=true)(l:List Wd):accA (auOf x) l↔readsP x l:=by
 have hp:isPl (auOf x) (-1)=true:=by
  simp only[isPl,Bool.and_eq_true,decide_eq_true_eq];omega
 unfold accA;cases l with
 |nil=>
  show mayA (auOf x)=true/\endsA (auOf x) (-1)=true↔_;rw[endsA,hm,hp,if_pos (by omega),Bool.true_and,Bool.true_and];constructor
  . rintro⟨_,h⟩;exact⟨[],h,rfl⟩
  . rintro⟨ps,hr,e⟩;cases ps with
    |nil=>exact⟨rfl,hr⟩
    |cons a r=>simp at e
 |cons w l=>
  show mayA (auOf x)=true/\(∃y∈nextA (auOf x) (-1) w,accW (auOf x) y l)↔_;rw[nextA,if_pos ⟨hm,hp⟩,outA,if_pos (by omega)];constructor
  . rintro⟨_,y,hy,hw⟩;obtain⟨h1,h2⟩:=zW.1 hy;obtain⟨b,rfl⟩:=rise_nat h1;obtain⟨hb,h3⟩:=mem_rise.1 h1;obtain⟨r,hr,e⟩:=(au_walk hx hm l b hb).1 hw;refine⟨b::r,⟨h3,hr⟩,?_⟩;rw[List.map_cons,List.map_cons,e];congr 1;have h2:=of_decide_eq_true h2;rw[wordA,Int.toNat_natCast]at h2;exact h2.symm
  . rintro⟨ps,hr,e⟩;cases ps with
    |nil=>simp at e
    |cons b r=>
     rw[List.map_cons,List.map_cons,List.cons.injEq]at e;have hb:=hx.first b hr.1
     refine⟨hm,(b:Int),zW.2 ⟨mem_rise.2 ⟨hb,hr.1⟩,?_⟩,(au_walk hx hm l b hb).2 ⟨r,hr.2,e.2⟩⟩;apply yA;rw[wordA,Int.toNat_natCast];exact e.1.symm
def autoOf(t:Pt):Au:=auOf (prtOf t)
theorem fold_words{f:Prt->Prt->Prt}(hf:∀x y,(f x y).words=x.words++y.words):∀(ps:List Prt) (x:Prt),(ps.foldl f x).words=x.words++(ps.map (·.words)).flatten
 |[],x=>by simp
 |p::ps,x=>by rw[yN,fold_words hf ps,hf];simp
theorem prt_words:∀t:Pt,(∀d,shapedP d t=true->(prtOf t).words.all isW=true)/\(prtOf t).words.length=leaves t:=by
 refine Pt.ind (fun k w kids ih=>?_);rw[prtOf_mk,leaves_mk];have hs:((kids.map prtOf).foldl seqC (prt0 true)).words=((kids.map prtOf).map (·.words)).flatten:=by rw[fold_words (fun _ _=>rfl)];rfl
 have ha:((kids.map prtOf).foldl altC (prt0 false)).words=((kids.map prtOf).map (·.words)).flatten:=by rw[fold_words (fun _ _=>rfl)];rfl
 by_cases h1:k=1
 . subst h1;refine⟨fun d hd=>?_,by simp[kindC]⟩;cases d with
   |zero=>cases hd
   |succ d=>
    simp only[shapedP,Bool.and_eq_true]at hd;have:=hd.1.1;simp[formedP]at this;simp[kindC,this.2]
 . have hw:(kindC k w (kids.map prtOf)).words=((kids.map prtOf).map (·.words)).flatten:=by
    unfold kindC;rw[if_neg h1];split
    . exact hs
    . split
      . exact ha
      . split
        . exact ha
        . split<;>exact ha
   rw[hw,if_neg h1];refine⟨fun d hd=>?_,?_⟩
   . cases d with
     |zero=>cases hd
     |succ d=>
      simp only[shapedP,Bool.and_eq_true,yK]at hd;rw[yK];intro u hu;obtain⟨l,hl,hul⟩:=List.mem_flatten.1 hu;rw[List.map_map]at hl;obtain⟨x,hx,rfl⟩:=zS.1 hl;have:=(ih x hx).1 d (hd.2 x hx);rw[yK]at this;exact this u hul
   . rw[List.length_flatten,List.map_map,List.map_map];congr 1;exact yQ (fun x hx=>(ih x hx).2)
theorem auto_will{t:Pt}(h:mayP t=true):mayA (autoOf t)=true/\∀l,accA (autoOf t) l↔willL t l:=by
 simp only[mayP,Bool.and_eq_true,decide_eq_true_eq]at h;have hm:mayA (autoOf t)=true:=auOf_may (by rw[(prt_words t).2];exact h.2) ((prt_words t).1 12 h.1);obtain⟨h1,h2⟩:=prtOf_reads t;exact⟨hm,fun l=>(au_reads h1 hm l).trans (h2 l)⟩
theorem alt_one{f:List Wd->Prop}:altL [f]=f:=by
 funext l;simp[altL]
theorem up_append(n:Nat)(a b:List Nat):up n (a++b)=up n a++up n b:=by simp[up]
theorem up_up(n m:Nat)(a:List Nat):up n (up m a)=up (n+m) a:=by
 simp only[up,List.map_map];exact yQ (fun x _=>by simp only[Function.comp];omega)
theorem upP_append(n:Nat)(a b:List (Nat×Nat)):upP n (a++b)=upP n a++upP n b:=by simp[upP]
theorem upP_upP(n m:Nat)(a:List (Nat×Nat)):upP n (upP m a)=upP (n+m) a:=by
 simp only[upP,List.map_map];exact yQ (fun x _=>by simp only[Function.comp,Prod.mk.injEq];omega)
theorem cross_up(n:Nat)(a b:List Nat):upP n (cross a b)=cross (up n a) (up n b):=by
 simp only[upP,cross,up,List.map_flatMap,List.flatMap_map,List.map_map];rfl
def Lim(d:Nat)(p:Prt):Prop:=p.first.length<=p.words.length/\p.last.length<=p.words.length/\p.pairs.length<=d*(p.words.length*p.words.length)
theorem Lim.more{d:Nat}{p:Prt}(h:Lim d p):Lim (d+1) p:=⟨h.1,h.2.1,by have:=h.2.2;rw[Nat.succ_mul];omega⟩
theorem foldl_take{α β:Type}{f:β->α->β}{b:β}{L:List α}{i:Nat}{x:α}(hx:L[i]?=some x):(L.take (i+1)).foldl f b=f ((L.take i).foldl f b) x:=by
 rw[zU,hx,List.foldl_append];rfl
end Go.Proofs.YtkbgmcmcpbegjabGreatDoor
