/- AMath2, AMath3, VIs, QBase, QState, QReqS. -/
import Derived.Test.YtdalcipmpelifaaGreatDoorMG1
import Derived.Test.YtdalcipmpelifaaGreatDoorMG2
import Derived.WalkSpells
import Derived.WalkLawsBesides
import Derived.WalkSmall
import Derived.BigQuiet
import Derived.Deep.QuietTactic
import Derived.Deep.AppendLies
set_option maxRecDepth 100000
namespace Go.Proofs.YtdalcipmpelifaaGreatDoor
open Go.RowKit
structure Au where
 words:List Wd
 first:List Int
 last:List Int
 follow:List (List Int)
 empty:Bool
def goodF(n:Nat):Int->List Int->Bool
 |_,[]=>true
 |b,x::l=>decide (b<x)&&decide (x<n)&&goodF n x l
def goodL(n:Nat)(l:List Int):Bool:=goodF n (-1) l
def mayA(a:Au):Bool:=decide (a.words.length<=24)&&decide (a.follow.length=a.words.length)&&goodL a.words.length a.first&&goodL a.words.length a.last&&a.words.all isW&&a.follow.all (goodL a.words.length)
def outA(a:Au)(s:Int):List Int:=if s<0 then a.first else a.follow.getD s.toNat []
def wordA(a:Au)(s:Int):Option Wd:=a.words[s.toNat]?
def isPl(a:Au)(s:Int):Bool:=decide (-1<=s)&&decide (s<a.words.length)
def nextA(a:Au)(s:Int)(w:Wd):List Int:=if mayA a=true/\isPl a s=true then (outA a s).filter (fun x=>decide (wordA a x=some w))else []
def endsA(a:Au)(s:Int):Bool:=mayA a&&isPl a s&&(if s<0 then a.empty else decide (s∈a.last))
def accW(a:Au):Int->List Wd->Prop
 |s,[]=>endsA a s=true
 |s,w::l=>∃y∈nextA a s w,accW a y l
def accA(a:Au)(l:List Wd):Prop:=mayA a=true/\accW a (-1) l
theorem goodF_mem{n:Nat}:∀(l:List Int) (b:Int),goodF n b l=true->∀x∈l,b<x/\x<n
 |[],_,_=>by simp
 |y::l,b,h=>by
  simp only[goodF,Bool.and_eq_true,decide_eq_true_eq]at h;intro x hx;rcases zX.1 hx with rfl|hx
  . exact h.1
  . have:=goodF_mem l y h.2 x hx;omega
theorem good_mem{n:Nat}{l:List Int}(h:goodL n l=true){x:Int}(hx:x∈l):0<=x/\x<n:=by
 have:=goodF_mem l (-1) h x hx;omega
def rise(n:Nat)(l:List Nat):List Int:=((List.range n).filter (fun k=>decide (k∈l))).map Int.ofNat
theorem mem_rise{n:Nat}{l:List Nat}{x:Nat}:(x:Int)∈rise n l↔x<n/\x∈l:=by
 unfold rise;simp only[zR,zV,yA,decide_eq_true_eq];constructor
 . rintro⟨y,⟨h1,h2⟩,e⟩;have:y=x:=Int.ofNat.inj e;subst this;exact⟨h1,h2⟩
 . rintro⟨h1,h2⟩;exact⟨x,⟨h1,h2⟩,rfl⟩
theorem rise_nat{n:Nat}{l:List Nat}{z:Int}(h:z∈rise n l):∃x:Nat,z=x:=by
 obtain⟨x,_,rfl⟩:=zR.1 h;exact⟨x,rfl⟩
theorem goodF_range{P:Nat->Bool}{N:Nat}:∀(k s:Nat) (b:Int),b<s->s+k<=N->goodF N b (((List.range' s k).filter P).map Int.ofNat)=true
 |0,s,b,_,_=>rfl
 |k+1,s,b,hb,hN=>by
  rw[List.range'_succ,List.filter_cons];split
  . rw[List.map_cons,goodF,goodF_range k (s+1) (Int.ofNat s) (by simp only[Int.ofNat_eq_natCast];omega) (by omega)];simp only[Int.ofNat_eq_natCast,Bool.and_true,Bool.and_eq_true,decide_eq_true_eq];omega
  . exact goodF_range k (s+1) b (by omega) (by omega)
theorem good_rise(n:Nat)(l:List Nat):goodL n (rise n l)=true:=by
 unfold goodL rise;rw[List.range_eq_range'];exact goodF_range n 0 (-1) (by omega) (by omega)
def folN(ps:List (Nat×Nat))(k:Nat):List Nat:=(ps.filter (fun p=>decide (p.1=k))).map (·.2)
theorem mem_folN{ps:List (Nat×Nat)}{k y:Nat}:y∈folN ps k↔(k,y)∈ps:=by
 unfold folN;simp only[zR,zV,decide_eq_true_eq];constructor
 . rintro⟨⟨a,b⟩,⟨h,e1⟩,e2⟩;dsimp only at e1 e2;subst e1 e2;exact h
 . intro h;exact⟨(k,y),⟨h,rfl⟩,rfl⟩
def auOf(x:Prt):Au:=⟨x.words,rise x.words.length x.first,rise x.words.length x.last,(List.range x.words.length).map (fun k=>rise x.words.length (folN x.pairs k)),x.empty⟩
theorem auOf_follow(x:Prt){k:Nat}(h:k<x.words.length):(auOf x).follow.getD k []=rise x.words.length (folN x.pairs k):=by
 simp[auOf,List.getD,List.getElem?_map,List.getElem?_range h]
theorem auOf_may{x:Prt}(h1:x.words.length<=24)(h2:x.words.all isW=true):mayA (auOf x)=true:=by
 have hf:(auOf x).follow.all (goodL (auOf x).words.length)=true:=by
  rw[yJ];intro l hl;obtain⟨k,_,rfl⟩:=zR.1 hl;exact good_rise _ _
 have hl:(auOf x).follow.length=(auOf x).words.length:=by simp[auOf]
 unfold mayA;rw[hf,yC hl,show (auOf x).words=x.words from rfl,h2,yC h1,show goodL x.words.length (auOf x).first=true from good_rise _ _,show goodL x.words.length (auOf x).last=true from good_rise _ _];rfl
theorem au_walk{x:Prt}(hx:Fits x)(hm:mayA (auOf x)=true):∀(l:List Wd) (a:Nat),a<x.words.length->(accW (auOf x) (a:Int) l↔∃r,walkP x a r/\l.map some=r.map fun i=>x.words[i]?)
 |[],a,ha=>by
  have hp:isPl (auOf x) (a:Int)=true:=by
   simp only[isPl,Bool.and_eq_true,decide_eq_true_eq];exact⟨by omega,by show (a:Int)<(x.words.length:Int);omega⟩
  show endsA (auOf x) (a:Int)=true↔_;rw[endsA,hm,hp,if_neg (by omega),Bool.true_and,Bool.true_and,decide_eq_true_eq];rw[show (auOf x).last=rise x.words.length x.last from rfl,mem_rise];constructor
  . rintro⟨_,h⟩;exact⟨[],h,rfl⟩
  . rintro⟨r,h,e⟩;cases r with
    |nil=>exact⟨ha,h⟩
    |cons z r=>simp at e
 |w::l,a,ha=>by
  have hp:isPl (auOf x) (a:Int)=true:=by
   simp only[isPl,Bool.and_eq_true,decide_eq_true_eq];exact⟨by omega,by show (a:Int)<(x.words.length:Int);omega⟩
  show (∃y∈nextA (auOf x) (a:Int) w,accW (auOf x) y l)↔_;rw[nextA,if_pos ⟨hm,hp⟩,outA,if_neg (by omega),Int.toNat_natCast,auOf_follow x ha];constructor
  . rintro⟨y,hy,hw⟩;obtain⟨h1,h2⟩:=zV.1 hy;obtain⟨b,rfl⟩:=rise_nat h1;obtain⟨hb,h3⟩:=mem_rise.1 h1;obtain⟨r,hr,e⟩:=(au_walk hx hm l b hb).1 hw;refine⟨b::r,⟨mem_folN.1 h3,hr⟩,?_⟩;rw[List.map_cons,List.map_cons,e];congr 1;have h2:=of_decide_eq_true h2;rw[wordA,Int.toNat_natCast]at h2;exact h2.symm
  . rintro⟨r,hr,e⟩;cases r with
    |nil=>simp at e
    |cons b r=>
     rw[List.map_cons,List.map_cons,List.cons.injEq]at e;have hb:=(hx.pairs a b hr.1).2;refine⟨(b:Int),zV.2 ⟨mem_rise.2 ⟨hb,mem_folN.2 hr.1⟩,?_⟩,(au_walk hx hm l b hb).2 ⟨r,hr.2,e.2⟩⟩;apply yC;rw[wordA,Int.toNat_natCast];exact e.1.symm
theorem au_reads{x:Prt}(hx:Fits x)(hm:mayA (auOf x)=true)(l:List Wd):accA (auOf x) l↔readsP x l:=by
 have hp:isPl (auOf x) (-1)=true:=by
  simp only[isPl,Bool.and_eq_true,decide_eq_true_eq];omega
 unfold accA;cases l with
 |nil=>
  show mayA (auOf x)=true/\endsA (auOf x) (-1)=true↔_;rw[endsA,hm,hp,if_pos (by omega),Bool.true_and,Bool.true_and];constructor
  . rintro⟨_,h⟩;exact⟨[],h,rfl⟩
  . rintro⟨ps,hr,e⟩;cases ps with
    |nil=>exact⟨rfl,hr⟩
    |cons a r=>simp at e
 |cons w l=>
  show mayA (auOf x)=true/\(∃y∈nextA (auOf x) (-1) w,accW (auOf x) y l)↔_;rw[nextA,if_pos ⟨hm,hp⟩,outA,if_pos (by omega)];constructor
  . rintro⟨_,y,hy,hw⟩;obtain⟨h1,h2⟩:=zV.1 hy;obtain⟨b,rfl⟩:=rise_nat h1;obtain⟨hb,h3⟩:=mem_rise.1 h1;obtain⟨r,hr,e⟩:=(au_walk hx hm l b hb).1 hw;refine⟨b::r,⟨h3,hr⟩,?_⟩;rw[List.map_cons,List.map_cons,e];congr 1;have h2:=of_decide_eq_true h2;rw[wordA,Int.toNat_natCast]at h2;exact h2.symm
  . rintro⟨ps,hr,e⟩;cases ps with
    |nil=>simp at e
    |cons b r=>
     rw[List.map_cons,List.map_cons,List.cons.injEq]at e;have hb:=hx.first b hr.1
     refine⟨hm,(b:Int),zV.2 ⟨mem_rise.2 ⟨hb,hr.1⟩,?_⟩,(au_walk hx hm l b hb).2 ⟨r,hr.2,e.2⟩⟩;apply yC;rw[wordA,Int.toNat_natCast];exact e.1.symm
def autoOf(t:Pt):Au:=auOf (prtOf t)
theorem fold_words{f:Prt->Prt->Prt}(hf:∀x y,(f x y).words=x.words++y.words):∀(ps:List Prt) (x:Prt),(ps.foldl f x).words=x.words++(ps.map (·.words)).flatten
 |[],x=>by simp
 |p::ps,x=>by rw[yN,fold_words hf ps,hf];simp
theorem prt_words:∀t:Pt,(∀d,shapedP d t=true->(prtOf t).words.all isW=true)/\(prtOf t).words.length=leaves t:=by
 refine Pt.ind (fun k w kids ih=>?_);rw[prtOf_mk,leaves_mk];have hs:((kids.map prtOf).foldl seqC (prt0 true)).words=((kids.map prtOf).map (·.words)).flatten:=by rw[fold_words (fun _ _=>rfl)];rfl
 have ha:((kids.map prtOf).foldl altC (prt0 false)).words=((kids.map prtOf).map (·.words)).flatten:=by rw[fold_words (fun _ _=>rfl)];rfl
 by_cases h1:k=1
 . subst h1;refine⟨fun d hd=>?_,by simp[kindC]⟩;cases d with
   |zero=>cases hd
   |succ d=>
    simp only[shapedP,Bool.and_eq_true]at hd;have:=hd.1.1;simp[formedP]at this;simp[kindC,this.2]
 . have hw:(kindC k w (kids.map prtOf)).words=((kids.map prtOf).map (·.words)).flatten:=by
    unfold kindC;rw[if_neg h1];split
    . exact hs
    . split
      . exact ha
      . split
        . exact ha
        . split<;>exact ha
   rw[hw,if_neg h1];refine⟨fun d hd=>?_,?_⟩
   . cases d with
     |zero=>cases hd
     |succ d=>
      simp only[shapedP,Bool.and_eq_true,yJ]at hd;rw[yJ];intro u hu;obtain⟨l,hl,hul⟩:=List.mem_flatten.1 hu;rw[List.map_map]at hl;obtain⟨x,hx,rfl⟩:=zR.1 hl;have:=(ih x hx).1 d (hd.2 x hx);rw[yJ]at this;exact this u hul
   . rw[List.length_flatten,List.map_map,List.map_map];congr 1;exact yQ (fun x hx=>(ih x hx).2)
theorem auto_will{t:Pt}(h:mayP t=true):mayA (autoOf t)=true/\∀l,accA (autoOf t) l↔willL t l:=by
 simp only[mayP,Bool.and_eq_true,decide_eq_true_eq]at h;have hm:mayA (autoOf t)=true:=auOf_may (by rw[(prt_words t).2];exact h.2) ((prt_words t).1 12 h.1);obtain⟨h1,h2⟩:=prtOf_reads t;exact⟨hm,fun l=>(au_reads h1 hm l).trans (h2 l)⟩
theorem cut_iff{P:List Wd->List Wd->Prop}(l:List Wd):(∃a b,l=a++b/\P a b)↔∃i,i<=l.length/\P (l.take i) (l.drop i):=by
 constructor
 . rintro⟨a,b,rfl,h⟩;exact⟨a.length,by simp,by rw[List.take_left' rfl,List.drop_left' rfl];exact h⟩
 . rintro⟨i,_,h⟩;exact⟨l.take i,l.drop i,(List.take_append_drop i l).symm,h⟩
theorem seq_cut{f:List Wd->Prop}{fs:List (List Wd->Prop)}(l:List Wd):seqL (f::fs) l↔∃i,i<=l.length/\f (l.take i)/\seqL fs (l.drop i):=cut_iff (P:=fun a b=>f a/\seqL fs b) l
theorem star_nil(f:List Wd->Prop):starL f []:=⟨[],rfl,by simp⟩
theorem plus_nil{f:List Wd->Prop}:plusL f []↔f []:=by
 constructor
 . rintro⟨a,b,e,h,_⟩;have:=List.append_eq_nil_iff.1 e.symm;rw[this.1]at h;exact h
 . intro h;exact⟨[],[],rfl,h,star_nil f⟩
theorem star_cut{f:List Wd->Prop}:∀(l:List Wd),l≠[]->(starL f l↔∃i,1<=i/\i<=l.length/\f (l.take i)/\starL f (l.drop i)):=by
 intro l hl;constructor
 . rintro⟨ls,rfl,h⟩;induction ls with
   |nil=>exact absurd rfl hl
   |cons a ls ih=>
    cases a with
    |nil=>
     rw[List.flatten_cons,List.nil_append]at hl ⊢;exact ih (fun x hx=>h x (zP _ hx)) hl
    |cons u a=>
     refine⟨(u::a).length,by simp,by simp,?_,?_⟩
     . rw[List.flatten_cons,List.take_left' rfl];exact h _ (zL ..)
     . rw[List.flatten_cons,List.drop_left' rfl];exact⟨ls,rfl,fun x hx=>h x (zP _ hx)⟩
 . rintro⟨i,_,_,hf,ls,e,h⟩;refine⟨l.take i::ls,by rw[List.flatten_cons,<- e,List.take_append_drop],fun x hx=>?_⟩;rcases zX.1 hx with rfl|hx
   . exact hf
   . exact h x hx
theorem plus_star{f:List Wd->Prop}{l:List Wd}(hl:l≠[]):plusL f l↔starL f l:=by
 rw[<- star_plus];exact⟨.inr,fun h=>h.resolve_left hl⟩
theorem plus_cut{f:List Wd->Prop}(l:List Wd)(hl:l≠[]):plusL f l↔∃i,1<=i/\i<=l.length/\f (l.take i)/\(i=l.length\/plusL f (l.drop i)):=by
 rw[plus_star hl,star_cut l hl];constructor
 . rintro⟨i,h1,h2,h3,h4⟩;refine⟨i,h1,h2,h3,?_⟩;by_cases e:i=l.length
   . exact .inl e
   . exact .inr ((plus_star (by intro h;have:=List.drop_eq_nil_iff.1 h;omega)).2 h4)
 . rintro⟨i,h1,h2,h3,h4⟩;refine⟨i,h1,h2,h3,?_⟩;rcases h4 with e|h4
   . rw[e,List.drop_length];exact star_nil f
   . exact(star_plus _).1 (.inr h4)
theorem star_cut2{f:List Wd->Prop}(l:List Wd)(hl:l≠[]):starL f l↔∃i,1<=i/\i<=l.length/\f (l.take i)/\(i=l.length\/starL f (l.drop i)):=by
 rw[star_cut l hl];constructor
 . rintro⟨i,h1,h2,h3,h4⟩;exact⟨i,h1,h2,h3,.inr h4⟩
 . rintro⟨i,h1,h2,h3,h4⟩;refine⟨i,h1,h2,h3,?_⟩;rcases h4 with e|h4
   . rw[e,List.drop_length];exact star_nil f
   . exact h4
theorem alt_one{f:List Wd->Prop}:altL [f]=f:=by
 funext l;simp[altL]
theorem up_append(n:Nat)(a b:List Nat):up n (a++b)=up n a++up n b:=by simp[up]
theorem up_up(n m:Nat)(a:List Nat):up n (up m a)=up (n+m) a:=by
 simp only[up,List.map_map];exact yQ (fun x _=>by simp only[Function.comp];omega)
theorem upP_append(n:Nat)(a b:List (Nat×Nat)):upP n (a++b)=upP n a++upP n b:=by simp[upP]
theorem upP_upP(n m:Nat)(a:List (Nat×Nat)):upP n (upP m a)=upP (n+m) a:=by
 simp only[upP,List.map_map];exact yQ (fun x _=>by simp only[Function.comp,Prod.mk.injEq];omega)
theorem cross_up(n:Nat)(a b:List Nat):upP n (cross a b)=cross (up n a) (up n b):=by
 simp only[upP,cross,up,List.map_flatMap,List.flatMap_map,List.map_map];rfl
theorem data_at(s:ByteArray)(i:Nat)(h:i<s.size):s.data.toList[i]?=some (s[i]'h):=by
 have:i<s.data.toList.length:=by rw[Array.length_toList];exact h
 rw[zB this];rfl
theorem data_len(s:ByteArray):s.data.toList.length=s.size:=by rw[Array.length_toList];rfl
theorem size_list(l:List UInt8):(⟨l.toArray⟩:ByteArray).size=l.length:=by rw[<- ByteArray.size_data];simp
set_option maxHeartbeats 1000000 in
theorem mayStand_any(n:Nat)(w:World)(hn:n<256):
 Calls Tryz.prog 120 #[.int .u8 (n:Int)] w fun e w'=>e=.returned (.bool (mayN n))/\w'=w:=by
 rcases byte_cases n with h|h|h|h|h|h|h|h
 . have e1:¬(n:Int)=45:=by omega
   have e2:¬(n:Int)=58:=by omega
   have e3:((n:Int)==45)=false:=beq_eq_false_iff_ne.2 e1;have e4:((n:Int)==58)=false:=beq_eq_false_iff_ne.2 e2;rw[mayN_no (by omega)];go_enter Tryz.func120,Tryz.ntmps120;go_wp2;go_ret;exact⟨rfl,rfl⟩
 . subst h;rw[mayN_yes (by omega)];go_enter Tryz.func120,Tryz.ntmps120;go_wp2;go_ret;exact⟨rfl,rfl⟩
 . have e1:¬(n:Int)=45:=by omega
   have e2:¬(n:Int)=58:=by omega
   have e3:((n:Int)==45)=false:=beq_eq_false_iff_ne.2 e1;have e4:((n:Int)==58)=false:=beq_eq_false_iff_ne.2 e2;rw[mayN_no (by omega)];go_enter Tryz.func120,Tryz.ntmps120;go_wp2;go_ret;exact⟨rfl,rfl⟩
 . rw[mayN_yes (by omega)];go_enter Tryz.func120,Tryz.ntmps120;go_wp2;go_ret;exact⟨rfl,rfl⟩
 . subst h;rw[mayN_yes (by omega)];go_enter Tryz.func120,Tryz.ntmps120;go_wp2;go_ret;exact⟨rfl,rfl⟩
 . have e1:¬(n:Int)=45:=by omega
   have e2:¬(n:Int)=58:=by omega
   have e3:((n:Int)==45)=false:=beq_eq_false_iff_ne.2 e1;have e4:((n:Int)==58)=false:=beq_eq_false_iff_ne.2 e2;have f1:¬(n:Int)<=57:=by omega
   rw[mayN_no (by omega)];go_enter Tryz.func120,Tryz.ntmps120;go_wp2;go_ret;exact⟨rfl,rfl⟩
 . rw[mayN_yes (by omega)];go_enter Tryz.func120,Tryz.ntmps120;go_wp2;go_ret;exact⟨rfl,rfl⟩
 . have e1:¬(n:Int)=45:=by omega
   have e2:¬(n:Int)=58:=by omega
   have e3:((n:Int)==45)=false:=beq_eq_false_iff_ne.2 e1;have e4:((n:Int)==58)=false:=beq_eq_false_iff_ne.2 e2;have f1:¬(n:Int)<=57:=by omega
   have f2:¬(n:Int)<=122:=by omega
   rw[mayN_no (by omega)];go_enter Tryz.func120,Tryz.ntmps120;go_wp2;go_ret;exact⟨rfl,rfl⟩
theorem all_take_succ{l:List UInt8}{i:Nat}{x:UInt8}(hx:l[i]?=some x)(h:(l.take i).all mayB=true)(hm:mayB x=true):(l.take (i+1)).all mayB=true:=by
 rw[zT,hx,List.all_append,h];simp only[yR,List.all_cons,List.all_nil,Bool.and_true,Bool.true_and];exact hm
theorem all_not{l:List UInt8}{i:Nat}{x:UInt8}(hx:l[i]?=some x)(hm:mayB x=false):isW l=false:=by
 have:l.all mayB=false:=by
  rw[Bool.eq_false_iff];intro h;rw[yJ]at h;rw[h x (zC hx)]at hm;cases hm
 simp[isW,this]
set_option maxHeartbeats 1000000 in
theorem is_any(s:ByteArray)(w:World):
 Calls Tryz.prog 102 #[.string s] w fun e w'=>e=.returned (.bool (isW s.data.toList))/\w'=w:=by
 have hl:=data_len s;by_cases h1:s.size<1
 . have hw:isW s.data.toList=false:=by simp[isW,hl];omega
   rw[hw];clear hw hl;go_enter Tryz.func102,Tryz.ntmps102;go_wp2;go_ret;exact⟨rfl,rfl⟩
 . by_cases h2:16<s.size
   . have hw:isW s.data.toList=false:=by simp[isW,hl];omega
     rw[hw];clear hw hl;go_enter Tryz.func102,Tryz.ntmps102;go_wp2;go_ret;exact⟨rfl,rfl⟩
   . have HL:=zA hl;clear hl;go_enter Tryz.func102,Tryz.ntmps102;go_wp2;go_loopw [14] (fun c wr=>∃i:Nat,i<=s.size/\c=.int .i64 i/\(s.data.toList.take i).all mayB=true/\wr=w) (fun c _=>s.size-(intOf c).toNat)
     case atStart=>exact⟨0,zS _,rfl,rfl,rfl⟩
     case round=>
      obtain⟨i,hi,rfl,hall,rfl⟩:=hrel;have HA:=zA hall;clear hall;by_cases hlt:i<s.size
      . have hltI:(i:Int)<(s.size:Int):=by omega
        obtain⟨x,hx⟩:∃x:UInt8,s[i]'hlt=x:=⟨_,rfl⟩
        have HX:=zA (by rw[data_at s i hlt,hx]:s.data.toList[i]?=some x);have hxb:=UInt8.toNat_lt x;obtain⟨m,hm⟩:∃m,mayN x.toNat=m:=⟨_,rfl⟩
        have C:=zA (mayStand_any x.toNat wr hxb);rw[hm]at C;have HM:=zA (show mayB x=m from hm);clear hm;cases m with
        |true=>
         go_wp2_with fail;refine C.out.mono ?_;rintro e w1 ⟨rfl,rfl⟩;go_wp2;go_roundw
         case rel=>exact⟨i+1,by omega,by go_num,all_take_succ HX.out HA.out HM.out,by trivial⟩
         case measure=>simp[intOf];omega
        |false=>
         go_wp2_with fail;refine C.out.mono ?_;rintro e w1 ⟨rfl,rfl⟩;go_wp2;go_ret;exact⟨by rw[all_not HX.out HM.out];rfl,rfl⟩
      . obtain rfl:i=s.size:=by omega
        have hw:isW s.data.toList=true:=by
         have a:=HA.out;rw[zK (by rw[HL.out];exact zD _)]at a;simp only[isW,HL.out,a];simp;omega
        have HW:=zA hw;clear hw;go_wp2;go_ret;exact⟨by rw[HW.out];rfl,rfl⟩
structure Fr (S:Nat->Prop) (w w':World):Prop where
 os:w'.os=w.os
 tape:w'.tape=w.tape
 output:w'.output=w.output
 size:w.heap.size<=w'.heap.size
 block:∀k,S k->w'.heap[k]?=w.heap[k]?
theorem Fr.refl(S:Nat->Prop)(w:World):Fr S w w:=⟨rfl,rfl,rfl,zD _,fun _ _=>rfl⟩
theorem Fr.trans{S:Nat->Prop}{a b c:World}(h:Fr S a b)(k:Fr S b c):Fr S a c:=
 ⟨k.os.trans h.os,k.tape.trans h.tape,k.output.trans h.output,zQ h.size k.size,fun i hi=>(k.block i hi).trans (h.block i hi)⟩
theorem Fr.sub{S T:Nat->Prop}{w w':World}(h:Fr S w w')(hs:∀k,T k->S k):Fr T w w':=⟨h.os,h.tape,h.output,h.size,fun k hk=>h.block k (hs k hk)⟩
theorem Fr.below{S:Nat->Prop}{w w':World}{B:Nat}(h:Fr S w w')(hs:∀k,k<B->S k):Below B w w':=⟨h.os,h.tape,h.output,h.size,fun k hk=>h.block k (hs k hk)⟩
def Low(S:Nat->Prop)(w:World):Prop:=∀k,S k->k<w.heap.size
theorem Low.fr{S T:Nat->Prop}{w w':World}(h:Low S w)(hf:Fr T w w'):Low S w':=fun k hk=>zO (h k hk) hf.size
theorem Low.below{S:Nat->Prop}{w w':World}{B:Nat}(h:Low S w)(hf:Below B w w'):Low S w':=fun k hk=>zO (h k hk) hf.size
theorem Low.size{S:Nat->Prop}{w w':World}(h:Low S w)(hf:w.heap.size<=w'.heap.size):Low S w':=fun k hk=>zO (h k hk) hf
theorem fr_below{S:Nat->Prop}{w w':World}(hS:Low S w)(h:Below w.heap.size w w'):Fr S w w':=⟨h.os,h.tape,h.output,h.size,fun k hk=>h.block k (hS k hk)⟩
theorem Fr.next{S:Nat->Prop}{w w1 w2:World}(h:Fr S w w1)(hS:Low S w)(hb:Below w1.heap.size w1 w2):Fr S w w2:=h.trans (fr_below (hS.fr h) hb)
theorem Fr.setCell{S:Nat->Prop}{w w':World}{b i:Nat}(h:Fr S w w')(hb:¬S b)(v:Value):Fr S w (w'.setCell ⟨b,i,none⟩ v):=
 ⟨h.os,h.tape,h.output,by simpa using h.size,fun k hk=>(zM w' ⟨b,i,none⟩ v k (fun e=>hb (by rw[<- show k=b from e];exact hk))).trans (h.block k hk)⟩
theorem Fr.grown{S:Nat->Prop}{w w1 w2:World}{row:Option Nat}(h:Fr S w w1)(hS:Low S w)(hg:w1.grownBy w2 row)(hr:∀g,row=some g->¬S g):Fr S w w2:=
 ⟨hg.os.trans h.os,hg.tape.trans h.tape,hg.output.trans h.output,zQ h.size hg.size,fun k hk=>(hg.block k (zO (hS k hk) h.size) (fun e=>hr k e.symm hk)).trans (h.block k hk)⟩
def Plus(S:Nat->Prop)(lo hi:Nat):Nat->Prop:=fun k=>S k\/(lo<=k/\k<hi)
theorem Low.plus{S:Nat->Prop}{w w':World}(h:Low S w)(hs:w.heap.size<=w'.heap.size):Low (Plus S w.heap.size w'.heap.size) w':=fun k hk=>by
 rcases hk with hk|hk
 . have:=h k hk;omega
 . exact hk.2
theorem box_at(w:World)(o:Obj):(w.alloc o).heap[w.heap.size]?=some o:=heap_alloc_new w o
theorem own_slice{w:World}{B n:Nat}{e:TypeId}{size:Nat}{v:Value}{xs:List Value}(h:w.ownsRow B e size v n xs):∃ao cap,v=.slice ao n cap:=by
 rcases h.2 with⟨rfl,rfl⟩|⟨g,cap,cur,rfl,_⟩
 . exact⟨none,0,rfl⟩
 . exact⟨_,cap,rfl⟩
theorem own_lt{w:World}{B n g:Nat}{e:TypeId}{size:Nat}{v:Value}{xs:List Value}(h:w.ownsRow B e size v n xs)(hg:v.ownBlock=some g):g<w.heap.size:=(h.lt g hg).2
theorem owns_key{w w':World}{B n:Nat}{e:TypeId}{size:Nat}{v:Value}{xs:List Value}(h:w.ownsRow B e size v n xs)(key:∀g o,v.ownBlock=some g->w.heap[g]?=some o->w'.heap[g]?=some o):w'.ownsRow B e size v n xs:=by
 refine⟨h.1,?_⟩;rcases h.2 with h0|⟨g,cap,cur,e1,e2,e3,e4⟩
 . exact .inl h0
 . exact .inr ⟨g,cap,cur,e1,e2,key g _ (by rw[e1];rfl) e3,e4⟩
theorem owns_below{w w':World}{B n:Nat}{e:TypeId}{size:Nat}{v:Value}{xs:List Value}(h:w.ownsRow B e size v n xs)(hb:Below w.heap.size w w'):w'.ownsRow B e size v n xs:=
 owns_key h (fun g _ _ ho=>(hb.block g (lt_of_block ho)).trans ho)
section
variable {α:Type} {enc:α->List Value} {k:Nat}
def SlS(enc:α->List Value)(k:Nat)(S:Nat->Prop)(w:World)(v:Value)(L:List α):Prop:=
 ∃ao cap,v=.slice ao L.length cap/\(L=[]\/∃g off,ao=some ⟨g,off,none⟩/\S g/\g<w.heap.size/\∀(j:Nat) x,L[j]?=some x->∀(c:Nat) u,(enc x)[c]?=some u->w.cell? ⟨g,off+j*k+c,none⟩=some u)
theorem SlS.keep{S T:Nat->Prop}{w w':World}{v:Value}{L:List α}(h:SlS enc k S w v L)(hz:w.heap.size<=w'.heap.size)(hk:∀b,S b->b<w.heap.size->T b/\w'.heap[b]?=w.heap[b]?):SlS enc k T w' v L:=by
 obtain⟨ao,cap,e,h⟩:=h;refine⟨ao,cap,e,?_⟩;rcases h with h|⟨g,off,e1,hs,hl,hc⟩
 . exact .inl h
 . obtain⟨ht,hb⟩:=hk g hs hl;exact .inr ⟨g,off,e1,ht,zO hl hz,fun j x hx c u hu=>by simpa only[World.cell?,hb]using hc j x hx c u hu⟩
theorem SlS.below{S:Nat->Prop}{w w':World}{v:Value}{L:List α}(h:SlS enc k S w v L)(hb:Below w.heap.size w w'):SlS enc k S w' v L:=
 h.keep hb.size (fun b hs hl=>⟨hs,hb.block b hl⟩)
theorem SlS.fr{S:Nat->Prop}{w w':World}{v:Value}{L:List α}(h:SlS enc k S w v L)(hf:Fr S w w'):SlS enc k S w' v L:=
 h.keep hf.size (fun b hs _=>⟨hs,hf.block b hs⟩)
theorem SlS.sub{S T:Nat->Prop}{w:World}{v:Value}{L:List α}(h:SlS enc k S w v L)(hs:∀b,S b->b<w.heap.size->T b):SlS enc k T w v L:=
 h.keep (zD _) (fun b hb hl=>⟨hs b hb hl,rfl⟩)
theorem SlS.nil(S:Nat->Prop)(w:World):SlS enc k S w (.slice none 0 0) []:=⟨none,0,rfl,.inl rfl⟩
theorem SlS.get{S:Nat->Prop}{w:World}{ao:Option Addr}{n cap:Nat}{L:List α}(h:SlS enc k S w (.slice ao n cap) L){j:Nat}{x:α}(hx:L[j]?=some x):
 ∃g off,ao=some ⟨g,off,none⟩/\S g/\g<w.heap.size/\∀(c:Nat) u,(enc x)[c]?=some u->w.cell? ⟨g,off+j*k+c,none⟩=some u:=by
 obtain⟨ao',cap',e,h⟩:=h;injection e with e1 e2 e3;subst e1;rcases h with rfl|⟨g,off,e1,hs,hl,hc⟩
 . simp at hx
 . exact⟨g,off,e1,hs,hl,hc j x hx⟩
theorem SlS.slice{S:Nat->Prop}{w:World}{v:Value}{L:List α}(h:SlS enc k S w v L):∃ao cap,v=.slice ao L.length cap:=by
 obtain⟨ao,cap,e,_⟩:=h;exact⟨ao,cap,e⟩
theorem flat_len(hk:∀x,(enc x).length=k)(L:List α):(L.flatMap enc).length=L.length*k:=by
 induction L with
 |nil=>simp
 |cons x l ih=>rw[yS,zG,ih,hk,yE,Nat.succ_mul];omega
theorem flat_at(hk:∀x,(enc x).length=k):∀(L:List α) (j c:Nat) (x:α),L[j]?=some x->c<k->(L.flatMap enc)[j*k+c]?=(enc x)[c]?
 |[],j,c,x,h,_=>by simp at h
 |y::l,0,c,x,h,hc=>by
  simp at h;subst h;rw[yS,Nat.zero_mul,Nat.zero_add,yH (by rw[hk];exact hc)]
 |y::l,j+1,c,x,h,hc=>by
  rw[yS,yM (by rw[hk,Nat.succ_mul];omega),hk,show (j+1)*k+c-k=j*k+c by rw[Nat.succ_mul];omega];exact flat_at hk l j c x (by simpa using h) hc
theorem own_sl(hk:∀x,(enc x).length=k){w:World}{B n:Nat}{e:TypeId}{v:Value}{L:List α}(h:w.ownsRow B e k v n (L.flatMap enc))(hn:n=L.length):SlS enc k (fun g=>v.ownBlock=some g) w v L:=by
 have h0:=h;rcases h.2 with⟨rfl,h1⟩|⟨g,cap,cur,rfl,_⟩
 . have:L=[]:=yG.1 (by omega);subst this;exact SlS.nil _ _
 . subst hn;refine⟨_,cap,rfl,.inr ⟨g,0,rfl,rfl,(h.lt g rfl).2,fun j x hx c u hu=>?_⟩⟩;have hc:c<k:=by have:=(zE.1 hu).1;rw[hk]at this;exact this
   have hj:=(zE.1 hx).1;have hlt:j*k+c<(L.flatMap enc).length:=by
    rw[flat_len hk];have:(j+1)*k<=L.length*k:=Nat.mul_le_mul_right k hj;rw[Nat.succ_mul]at this;omega
   rw[Nat.zero_add,h0.cellAt (j*k+c) (by rw[flat_len hk]at hlt;exact hlt),flat_at hk L j c x hx hc,hu]
end
set_option maxHeartbeats 400000 in
theorem clone_any(s:ByteArray)(w:World)(hs:s.size<=140737488355328):
 Calls Tryz.prog 62 #[.string s] w fun e w'=>e=.returned (.string s)/\Below w.heap.size w w':=by
 go_enter Tryz.func62,Tryz.ntmps62;go_wp2_with fail;refine(Tryz.stringslite_Clone _ _ (by omega)).mono ?_;rintro e w1 ⟨rfl,hb⟩;go_wp2;go_ret;exact⟨rfl,hb⟩
abbrev csN(x:Vt):List Value:=[.int .i64 x.kind,.string ⟨x.word.toArray⟩,x.val]
abbrev encN(x:Vt):Value:=.agg #[.int .i64 x.kind,.string ⟨x.word.toArray⟩,x.val]
theorem csN_len(x:Vt):(csN x).length=3:=rfl
abbrev NodS:=SlS csN 3
def VOk(S:Nat->Prop)(w:World):Vt->Prop
 |⟨_,wd,v,l⟩=>NodS S w v l/\wd.length<=9223372036854775807/\l.length<=9223372036854775807/\∀x,x∈l->VOk S w x
theorem vok_mk{S:Nat->Prop}{w:World}{k:Int}{wd:List UInt8}{v:Value}{l:List Vt}:VOk S w ⟨k,wd,v,l⟩↔NodS S w v l/\wd.length<=9223372036854775807/\l.length<=9223372036854775807/\∀x,x∈l->VOk S w x:=by rw[VOk]
theorem VOk.parts{S:Nat->Prop}{w:World}{t:Vt}(h:VOk S w t):NodS S w t.val t.kids/\t.word.length<=9223372036854775807/\t.kids.length<=9223372036854775807/\∀x,x∈t.kids->VOk S w x:=by
 obtain⟨k,wd,v,l⟩:=t;exact vok_mk.1 h
theorem VOk.keep{S T:Nat->Prop}{w w':World}(hz:w.heap.size<=w'.heap.size)(hk:∀b,S b->b<w.heap.size->T b/\w'.heap[b]?=w.heap[b]?):∀t:Vt,VOk S w t->VOk T w' t:=
 Vt.ind (fun _ _ _ _ ih h=>by
  obtain⟨h1,h2,h3,h4⟩:=vok_mk.1 h;exact vok_mk.2 ⟨h1.keep hz hk,h2,h3,fun x hx=>ih x hx (h4 x hx)⟩)
theorem VOk.below{S:Nat->Prop}{w w':World}{t:Vt}(h:VOk S w t)(hb:Below w.heap.size w w'):VOk S w' t:=VOk.keep hb.size (fun b hs hl=>⟨hs,hb.block b hl⟩) t h
theorem VOk.fr{S:Nat->Prop}{w w':World}{t:Vt}(h:VOk S w t)(hf:Fr S w w'):VOk S w' t:=VOk.keep hf.size (fun b hs _=>⟨hs,hf.block b hs⟩) t h
theorem VOk.sub{S T:Nat->Prop}{w:World}{t:Vt}(h:VOk S w t)(hs:∀b,S b->b<w.heap.size->T b):VOk T w t:=VOk.keep (zD _) (fun b hb hl=>⟨hs b hb hl,rfl⟩) t h
theorem getN{w:World}{g o:Nat}{t:Vt}(h:∀(c:Nat) u,(csN t)[c]?=some u->w.cell? ⟨g,o+c,none⟩=some u):w.cell? ⟨g,o,none⟩=some (.int .i64 t.kind)/\w.cell? ⟨g,o+1,none⟩=some (.string ⟨t.word.toArray⟩)/\w.cell? ⟨g,o+2,none⟩=some t.val:=
 ⟨h 0 _ rfl,h 1 _ rfl,h 2 _ rfl⟩
theorem infoN:(Tryz.prog.info? 25).map (fun i=>(i.zero,i.size,i.bytes))=some (some (.agg #[.int .i64 0,.string ⟨#[]⟩,.slice none 0 0]),3,48):=by kernel_rfl
abbrev csT(s:List UInt8):List Value:=[.string ⟨s.toArray⟩]
abbrev TxtS:=SlS csT 1
def CapS(v:Value)(n:Nat):Prop:=∃ao cap,v=.slice ao n cap/\n<=cap
theorem isQ_any(s:List UInt8)(w:World):Calls Tryz.prog 102 #[.string ⟨s.toArray⟩] w fun e w'=>e=.returned (.bool (isW s))/\w'=w:=by
 have:=is_any ⟨s.toArray⟩ w;simpa using this
abbrev Tm:=Bool×List UInt8
abbrev Am:=Tm×Vt×Tm
abbrev csA(a:Am):List Value:=[.bool a.1.1,.string ⟨a.1.2.toArray⟩,.int .i64 a.2.1.kind,.string ⟨a.2.1.word.toArray⟩,a.2.1.val,.bool a.2.2.1,.string ⟨a.2.2.2.toArray⟩]
theorem csA_len(x:Am):(csA x).length=7:=rfl
abbrev AtsS:=SlS csA 7
abbrev Cg:=Bool×List UInt8×List UInt8×List UInt8
abbrev csC(c:Cg):List Value:=[.bool c.1,.string ⟨c.2.1.toArray⟩,.string ⟨c.2.2.1.toArray⟩,.string ⟨c.2.2.2.toArray⟩]
abbrev CgsS:=SlS csC 4
def FineA(a:Am):Prop:=a.1.2.length<=140737488351232/\a.2.2.2.length<=140737488351232
def FineC(c:Cg):Prop:=c.2.1.length<=140737488351232/\c.2.2.1.length<=140737488351232/\c.2.2.2.length<=140737488351232
structure Qm where
 vv:Value
 vars:List (List UInt8)
 av:Value
 atoms:List Am
structure Rm where
 kind:Int
 q:Qm
 cv:Value
 chgs:List Cg
abbrev encQ(q:Qm):Value:=.agg #[q.vv,q.av]
abbrev encR(r:Rm):Value:=.agg #[.int .i64 r.kind,r.q.vv,r.q.av,r.cv]
structure QOk (S:Nat->Prop) (w:World) (q:Qm):Prop where
 vs:TxtS S w q.vv q.vars
 vb:∀s∈q.vars,s.length<=140737488351232
 vl:q.vars.length<=9223372036854775807
 vcap:CapS q.vv q.vars.length
 ats:AtsS S w q.av q.atoms
 ok:∀a∈q.atoms,VOk S w a.2.1
 fine:∀a∈q.atoms,FineA a
 al:q.atoms.length<=9223372036854775807
structure ROk (S:Nat->Prop) (w:World) (r:Rm):Prop where
 q:QOk S w r.q
 cs:CgsS S w r.cv r.chgs
 fine:∀c∈r.chgs,FineC c
 cl:r.chgs.length<=9223372036854775807
theorem QOk.keep{S T:Nat->Prop}{w w':World}{q:Qm}(h:QOk S w q)(hz:w.heap.size<=w'.heap.size)(hk:∀b,S b->b<w.heap.size->T b/\w'.heap[b]?=w.heap[b]?):QOk T w' q:=
 ⟨h.vs.keep hz hk,h.vb,h.vl,h.vcap,h.ats.keep hz hk,fun a ha=>VOk.keep hz hk _ (h.ok a ha),h.fine,h.al⟩
theorem QOk.below{S:Nat->Prop}{w w':World}{q:Qm}(h:QOk S w q)(hb:Below w.heap.size w w'):QOk S w' q:=h.keep hb.size (fun b hs hl=>⟨hs,hb.block b hl⟩)
theorem QOk.fr{S:Nat->Prop}{w w':World}{q:Qm}(h:QOk S w q)(hf:Fr S w w'):QOk S w' q:=h.keep hf.size (fun b hs _=>⟨hs,hf.block b hs⟩)
theorem ROk.keep{S T:Nat->Prop}{w w':World}{r:Rm}(h:ROk S w r)(hz:w.heap.size<=w'.heap.size)(hk:∀b,S b->b<w.heap.size->T b/\w'.heap[b]?=w.heap[b]?):ROk T w' r:=
 ⟨h.q.keep hz hk,h.cs.keep hz hk,h.fine,h.cl⟩
theorem ROk.below{S:Nat->Prop}{w w':World}{r:Rm}(h:ROk S w r)(hb:Below w.heap.size w w'):ROk S w' r:=h.keep hb.size (fun b hs hl=>⟨hs,hb.block b hl⟩)
theorem ROk.fr{S:Nat->Prop}{w w':World}{r:Rm}(h:ROk S w r)(hf:Fr S w w'):ROk S w' r:=h.keep hf.size (fun b hs _=>⟨hs,hf.block b hs⟩)
theorem getA{w:World}{g o:Nat}{a:Am}(h:∀(c:Nat) u,(csA a)[c]?=some u->w.cell? ⟨g,o+c,none⟩=some u):
 w.cell? ⟨g,o,none⟩=some (.bool a.1.1)/\w.cell? ⟨g,o+1,none⟩=some (.string ⟨a.1.2.toArray⟩)/\w.cell? ⟨g,o+2,none⟩=some (.int .i64 a.2.1.kind)/\w.cell? ⟨g,o+3,none⟩=some (.string ⟨a.2.1.word.toArray⟩)/\w.cell? ⟨g,o+4,none⟩=some a.2.1.val/\
 w.cell? ⟨g,o+5,none⟩=some (.bool a.2.2.1)/\w.cell? ⟨g,o+6,none⟩=some (.string ⟨a.2.2.2.toArray⟩):=
 ⟨h 0 _ rfl,h 1 _ rfl,h 2 _ rfl,h 3 _ rfl,h 4 _ rfl,h 5 _ rfl,h 6 _ rfl⟩
theorem getC{w:World}{g o:Nat}{c:Cg}(h:∀(i:Nat) u,(csC c)[i]?=some u->w.cell? ⟨g,o+i,none⟩=some u):
 w.cell? ⟨g,o,none⟩=some (.bool c.1)/\w.cell? ⟨g,o+1,none⟩=some (.string ⟨c.2.1.toArray⟩)/\w.cell? ⟨g,o+2,none⟩=some (.string ⟨c.2.2.1.toArray⟩)/\w.cell? ⟨g,o+3,none⟩=some (.string ⟨c.2.2.2.toArray⟩):=
 ⟨h 0 _ rfl,h 1 _ rfl,h 2 _ rfl,h 3 _ rfl⟩
theorem box_keptQ{w wr:World}{o:Obj}(h:Below (w.alloc o).heap.size (w.alloc o) wr):wr.heap[w.heap.size]?=some o:=by
 rw[h.block w.heap.size (by simp),heap_alloc_new]
theorem below_boxQ{w wr:World}{o:Obj}(h:Below (w.alloc o).heap.size (w.alloc o) wr):Below w.heap.size w wr:=
 ((zF _ _).alloc (zD _) o).trans (h.mono (by simp))
abbrev Pa:=Tm×Pt×Tm
def addN(l:List (List UInt8))(t:Tm):List (List UInt8):=if t.1=true/\t.2∉l then l++[t.2]else l
def namesP(l:List Pa):List (List UInt8):=l.foldl (fun n a=>addN (addN n a.1) a.2.2) []
def Am.pa(a:Am):Pa:=(a.1,a.2.1.pt,a.2.2)
def whyQ(vars:List (List UInt8))(l:List Pa):Nat:=
 if ∃a∈l,mayP a.2.1=false then 100
 else if 6<vars.length\/6<l.length\/6<(namesP l).length then 2
 else if ¬vars.Nodup then 1
 else if ∃v∈vars,v∉namesP l then 91
 else 0
theorem namesP_snoc(l:List Pa)(a:Pa):namesP (l++[a])=addN (addN (namesP l) a.1) a.2.2:=by simp[namesP]
theorem addN_len(l:List (List UInt8))(t:Tm):(addN l t).length<=l.length+1:=by
 unfold addN;split<;>simp
theorem addN_sub{l:List (List UInt8)}{t:Tm}{s:List UInt8}(h:s∈l):s∈addN l t:=by
 unfold addN;split
 . exact yI _ h
 . exact h
end Go.Proofs.YtdalcipmpelifaaGreatDoor
