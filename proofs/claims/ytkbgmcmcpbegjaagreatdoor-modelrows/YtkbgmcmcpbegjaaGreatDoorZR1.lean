/- VMath, QMath, AMath. -/
import Derived.Test.YtkbgmcmcpbegjaaGreatDoorZR0
import Derived.Test.YtkbgmcmcpbegjaaGreatDoorRows
import Derived.Lib.Bytealg
import Derived.Sort.Statements
import Derived.Maps.OwnSet
set_option maxRecDepth 100000
namespace Go.Proofs.YtkbgmcmcpbegjaaGreatDoor
def mayN(n:Nat):Bool:=(decide (97<=n)&&decide (n<=122))||(decide (48<=n)&&decide (n<=57))||decide (n=45)||decide (n=58)
abbrev mayB(c:UInt8):Bool:=mayN c.toNat
theorem jbL{n:Nat}(h:n=45\/n=58\/(48<=n/\n<=57)\/(97<=n/\n<=122)):mayN n=true:=by
 simp only[mayN,Bool.or_eq_true,Bool.and_eq_true,decide_eq_true_iff];omega
theorem jcp{n:Nat}(h:¬(n=45\/n=58\/(48<=n/\n<=57)\/(97<=n/\n<=122))):mayN n=false:=by
 rw[Bool.eq_false_iff];simp only[mayN,ne_eq,Bool.or_eq_true,Bool.and_eq_true,decide_eq_true_iff];omega
theorem jfw(n:Nat):n<45\/n=45\/(45<n/\n<48)\/(48<=n/\n<=57)\/n=58\/(58<n/\n<97)\/(97<=n/\n<=122)\/122<n:=by omega
def isW(l:List UInt8):Bool:=decide (1<=l.length)&&decide (l.length<=16)&&l.all mayB
theorem jg8{l:List UInt8}(h:isW l=true):1<=l.length/\l.length<=16:=by
 simp only[isW,Bool.and_eq_true,decide_eq_true_eq]at h;exact h.1
def Once(ws:List (List UInt8)):Prop:=∀(i j:Nat) (s:List UInt8),ws[i]?=some s->ws[j]?=some s->i=j
def AllW(ws:List (List UInt8)):Prop:=∀s∈ws,isW s=true
theorem jjd{ws:List (List UInt8)}{s t:List UInt8}{i:Nat}(h:(ws++[t])[i]?=some s):ws[i]?=some s\/(i=ws.length/\s=t):=by
 by_cases hi:i<ws.length
 . left;rwa[yJ hi]at h
 . right;rw[yM (by omega)]at h;by_cases h0:i-ws.length=0
   . rw[h0]at h;simp at h;exact⟨by omega,h.symm⟩
   . obtain⟨k,hk⟩:∃k,i-ws.length=k+1:=⟨i-ws.length-1,by omega⟩
     rw[hk]at h;simp at h
theorem jlm(ws:List (List UInt8))(t:List UInt8):(ws++[t])[ws.length]?=some t:=by simp
theorem Once.snoc{ws:List (List UInt8)}{t:List UInt8}(h:Once ws)(ht:t∉ws):Once (ws++[t]):=by
 intro i j s hi hj;rcases jjd hi with h1|⟨h1,e1⟩<;>rcases jjd hj with h2|⟨h2,e2⟩
 . exact h i j s h1 h2
 . subst e2;exact absurd (zC h1) ht
 . subst e1;exact absurd (zC h2) ht
 . omega
theorem AllW.snoc{ws:List (List UInt8)}{t:List UInt8}(h:AllW ws)(ht:isW t=true):AllW (ws++[t]):=by
 intro s hs;rcases zL.1 hs with hs|hs
 . exact h s hs
 . rw[zK]at hs;rw[hs];exact ht
def PutR(ws:List (List UInt8))(s:List UInt8)(ws':List (List UInt8))(k er:Nat):Prop:=
 (isW s=false/\ws'=ws/\k=0/\er=1)\/(isW s=true/\ws[k]?=some s/\ws'=ws/\er=0)\/(isW s=true/\s∉ws/\ws'=ws++[s]/\k=ws.length/\er=0)
def IdR(ws:List (List UInt8))(s:List UInt8)(k er:Nat):Prop:=(s∉ws/\k=0/\er=3)\/(ws[k]?=some s/\er=0)
theorem PutR.one{ws ws1 ws2:List (List UInt8)}{s:List UInt8}{k1 k2 e1 e2:Nat}(h:Once ws)(h1:PutR ws s ws1 k1 e1)(h2:PutR ws s ws2 k2 e2):ws1=ws2/\k1=k2/\e1=e2:=by
 rcases h1 with⟨a1,a2,a3,a4⟩|⟨a1,a2,a3,a4⟩|⟨a1,a2,a3,a4,a5⟩<;>rcases h2 with⟨b1,b2,b3,b4⟩|⟨b1,b2,b3,b4⟩|⟨b1,b2,b3,b4,b5⟩
 . subst a2 b2 a3 b3 a4 b4;exact⟨rfl,rfl,rfl⟩
 . rw[a1]at b1;cases b1
 . rw[a1]at b1;cases b1
 . rw[a1]at b1;cases b1
 . exact⟨by rw[a3,b3],h _ _ _ a2 b2,by rw[a4,b4]⟩
 . exact absurd (zC a2) b2
 . rw[a1]at b1;cases b1
 . exact absurd (zC b2) a2
 . exact⟨by rw[a3,b3],by rw[a4,b4],by rw[a5,b5]⟩
theorem IdR.one{ws:List (List UInt8)}{s:List UInt8}{k1 k2 e1 e2:Nat}(h:Once ws)(h1:IdR ws s k1 e1)(h2:IdR ws s k2 e2):k1=k2/\e1=e2:=by
 rcases h1 with⟨a1,a2,a3⟩|⟨a1,a2⟩<;>rcases h2 with⟨b1,b2,b3⟩|⟨b1,b2⟩
 . omega
 . exact absurd (zC b1) a1
 . exact absurd (zC a1) b1
 . exact⟨h _ _ _ a1 b1,by omega⟩
theorem PutR.once{ws ws':List (List UInt8)}{s:List UInt8}{k e:Nat}(h:PutR ws s ws' k e)(ho:Once ws):Once ws':=by
 rcases h with⟨_,rfl,_⟩|⟨_,_,rfl,_⟩|⟨_,h2,rfl,_⟩
 . exact ho
 . exact ho
 . exact ho.snoc h2
theorem PutR.len{ws ws':List (List UInt8)}{s:List UInt8}{k e:Nat}(h:PutR ws s ws' k e):ws'.length<=ws.length+1:=by
 rcases h with⟨_,rfl,_⟩|⟨_,_,rfl,_⟩|⟨_,h2,rfl,_⟩<;>simp
theorem PutR.has{ws ws':List (List UInt8)}{s:List UInt8}{k e:Nat}(h:PutR ws s ws' k e):(e=0/\isW s=true/\ws'[k]?=some s)\/(e=1/\isW s=false):=by
 rcases h with⟨h1,_,_,h4⟩|⟨h1,h2,rfl,h4⟩|⟨h1,h2,rfl,h4,h5⟩
 . exact .inr ⟨h4,h1⟩
 . exact .inl ⟨h4,h1,h2⟩
 . exact .inl ⟨h5,h1,by rw[h4];exact jlm _ _⟩
theorem PutR.mem{ws ws':List (List UInt8)}{s t:List UInt8}{k e:Nat}(h:PutR ws s ws' k e):t∈ws'↔t∈ws\/(t=s/\isW s=true):=by
 rcases h with⟨h1,rfl,_,h4⟩|⟨h1,h2,rfl,h4⟩|⟨h1,h2,rfl,h4,h5⟩
 . rw[h1];simp
 . constructor
   . exact .inl
   . rintro (h|⟨rfl,_⟩)
     . exact h
     . exact zC h2
 . simp[h1]
abbrev less(a b:List UInt8):Bool:=Op.bytesLess a b
theorem jcW:∀a:List UInt8,less a a=false
 |[]=>rfl
 |a::xs=>by
  have:=jcW xs;simp only[less,Op.bytesLess]at this ⊢;simp[this]
theorem jdy:∀(a b:List UInt8),less a b=false->less b a=false->a=b
 |[],[],_,_=>rfl
 |[],b::bs,h,_=>by simp[less,Op.bytesLess]at h
 |a::xs,[],_,h=>by simp[less,Op.bytesLess]at h
 |a::xs,b::bs,h1,h2=>by
  simp only[less,Op.bytesLess,Bool.or_eq_false_iff,decide_eq_false_iff_not,Bool.and_eq_false_iff,beq_eq_false_iff_ne]at h1 h2;have hab:a=b:=by
   have e1:=h1.1;have e2:=h2.1;rw[UInt8.lt_iff_toNat_lt]at e1 e2;exact UInt8.toNat_inj.1 (by omega)
  subst hab;rw[jdy xs bs (by rcases h1.2 with h|h;exact absurd rfl h;exact h) (by rcases h2.2 with h|h;exact absurd rfl h;exact h)]
theorem jcE:∀(a b c:List UInt8),less a b=true->less b c=true->less a c=true
 |[],_,[],_,h=>by cases ‹List UInt8› <;>simp[less,Op.bytesLess]at h
 |[],_,c::cs,_,_=>by simp[less,Op.bytesLess]
 |a::xs,[],_,h,_=>by simp[less,Op.bytesLess]at h
 |a::xs,b::bs,[],_,h=>by simp[less,Op.bytesLess]at h
 |a::xs,b::bs,c::cs,h1,h2=>by
  simp only[less,Op.bytesLess,Bool.or_eq_true,decide_eq_true_iff,Bool.and_eq_true,beq_iff_eq]at h1 h2 ⊢;rw[UInt8.lt_iff_toNat_lt]at h1 h2 ⊢;rcases h1 with h1|⟨rfl,h1⟩
  . rcases h2 with h2|⟨rfl,h2⟩
    . left;omega
    . left;exact h1
  . rcases h2 with h2|⟨rfl,h2⟩
    . left;exact h2
    . exact .inr ⟨rfl,jcE xs bs cs h1 h2⟩
theorem jii{a b:List UInt8}(h:less a b=true):less b a=false:=by
 cases hb:less b a with
 |false=>rfl
 |true=>have:=jcE a b a h hb;rw[jcW]at this;cases this
abbrev jcQ(ws:List (List UInt8))(i:Nat):List UInt8:=ws.getD i []
theorem jeP{ws:List (List UInt8)}{i:Nat}(h:i<ws.length):ws[i]?=some (jcQ ws i):=by simp[jcQ,List.getD,List.getElem?_eq_getElem h]
def jfY(ws:List (List UInt8))(is:List Nat):Prop:=is.Perm (List.range ws.length)/\is.Pairwise (fun i j=>less (jcQ ws i) (jcQ ws j)=true)
theorem jgI{l1 l2:List (List UInt8)}(hp:l1.Perm l2)(h1:l1.Pairwise (fun a b=>less a b=true))(h2:l2.Pairwise (fun a b=>less a b=true)):l1=l2:=by
 induction l1 generalizing l2 with
 |nil=>exact(List.nil_perm.1 hp).symm
 |cons a l1 ih=>
  cases l2 with
  |nil=>exact absurd hp.length_eq (by simp)
  |cons b l2=>
   rw[List.pairwise_cons]at h1 h2;have aa:a=b:=by
    have ha:a∈b::l2:=hp.mem_iff.1 (by simp);have hb:b∈a::l1:=hp.mem_iff.2 (by simp);rcases yB.1 ha with e|ha
    . exact e
    . rcases yB.1 hb with e|hb
      . exact e.symm
      . have:=jii (h1.1 b hb);rw[h2.1 a ha]at this;cases this
   subst aa;rw[ih (List.Perm.cons_inv hp) h1.2 h2.2]
theorem jfY.words{ws:List (List UInt8)}{is:List Nat}(h:jfY ws is):(is.map (jcQ ws)).Perm ws/\(is.map (jcQ ws)).Pairwise (fun a b=>less a b=true):=by
 refine⟨?_,List.pairwise_map.2 h.2⟩;have:=h.1.map (jcQ ws);have e:(List.range ws.length).map (jcQ ws)=ws:=by
  apply List.ext_getElem?;intro i;rw[zI];by_cases hi:i<ws.length
  . rw[jeP hi,yO hi];rfl
  . rw[yE (by simp;omega),yE (by omega)];rfl
 rwa[e]at this
theorem jfY.len{ws:List (List UInt8)}{is:List Nat}(h:jfY ws is):is.length=ws.length:=by
 have:=h.1.length_eq;simpa using this
theorem jfY.lt{ws:List (List UInt8)}{is:List Nat}(h:jfY ws is){i:Nat}(hi:i∈is):i<ws.length:=by
 have:=h.1.mem_iff.1 hi;simpa using this
theorem jfY.one{ws:List (List UInt8)}{is js:List Nat}(ho:Once ws)(h1:jfY ws is)(h2:jfY ws js):is=js:=by
 obtain⟨p1,q1⟩:=h1.words;obtain⟨p2,q2⟩:=h2.words;have e:=jgI (p1.trans p2.symm) q1 q2;apply List.ext_getElem?;intro i;have ei:(is.map (jcQ ws))[i]?=(js.map (jcQ ws))[i]?:=by rw[e]
 rw[zI,zI]at ei;cases ha:is[i]? with
 |none=>
  rw[ha]at ei;cases hb:js[i]? with
  |none=>rfl
  |some y=>rw[hb]at ei;simp at ei
 |some x=>
  rw[ha]at ei;cases hb:js[i]? with
  |none=>rw[hb]at ei;simp at ei
  |some y=>
   rw[hb]at ei;simp only[Option.map_some,Option.some.injEq]at ei;rw[ho x y _ (jeP (h1.lt (zC ha))) (by rw[ei];exact jeP (h2.lt (zC hb)))]
end Go.Proofs.YtkbgmcmcpbegjaaGreatDoor
namespace Go.Proofs.YtkbgmcmcpbegjaaGreatDoor
open Go.RowKit
structure Vt where
 kind:Int
 word:List UInt8
 val:Value
 kids:List Vt
structure Pt where
 kind:Int
 word:List UInt8
 kids:List Pt
theorem Vt.ind{P:Vt->Prop}(h:∀k w v kids,(∀x∈kids,P x)->P ⟨k,w,v,kids⟩):∀t,P t
 |⟨k,w,v,kids⟩=>h k w v kids (fun x _=>Vt.ind h x)
theorem Pt.ind{P:Pt->Prop}(h:∀k w kids,(∀x∈kids,P x)->P ⟨k,w,kids⟩):∀t,P t
 |⟨k,w,kids⟩=>h k w kids (fun x _=>Pt.ind h x)
def Vt.pt:Vt->Pt
 |⟨k,w,_,l⟩=>⟨k,w,l.map Vt.pt⟩
theorem Vt.pt_mk(k:Int)(w:List UInt8)(v:Value)(l:List Vt):Vt.pt ⟨k,w,v,l⟩=⟨k,w,l.map Vt.pt⟩:=by rw[Vt.pt]
def jam(k:Int)(w:List UInt8)(n:Nat):Bool:=
 if k=1 then decide (n=0)&&isW w else if k=2\/k=3 then decide (2<=n)&&w.isEmpty else if k=4\/k=5\/k=6 then decide (n=1)&&w.isEmpty else false
def plP:Nat->Pt->Nat
 |0,_=>25
 |d+1,⟨k,w,l⟩=>if jam k w l.length then (if k=1 then 1 else min 25 (l.map (plP d)).sum)else 25
def jap:Pt->Nat
 |⟨k,_,l⟩=>if k=1 then 1 else (l.map jap).sum
theorem jaJ(k:Int)(w:List UInt8)(l:List Pt):jap ⟨k,w,l⟩=if k=1 then 1 else (l.map jap).sum:=by rw[jap]
def high:Pt->Nat
 |⟨_,_,l⟩=>(l.map high).foldl max 0+1
theorem jhb(k:Int)(w:List UInt8)(l:List Pt):high ⟨k,w,l⟩=(l.map high).foldl max 0+1:=by rw[high]
def jaf:Nat->Pt->Bool
 |0,_=>false
 |d+1,⟨k,w,l⟩=>jam k w l.length&&decide (l.length<=24)&&l.all (jaf d)
def mayP(t:Pt):Bool:=jaf 12 t&&decide (jap t<=24)
theorem jk7{f:Pt->Nat}{l:List Pt}{x:Pt}(h:x∈l):f x<=(l.map f).sum:=by
 induction l with
 |nil=>cases h
 |cons y l ih=>
  rw[List.map_cons,List.sum_cons];rcases yB.1 h with rfl|h
  . omega
  . have:=ih h;omega
theorem jjT{f:Pt->Nat}{l:List Pt}(h:∀x∈l,1<=f x):l.length<=(l.map f).sum:=by
 induction l with
 |nil=>simp
 |cons y l ih=>
  rw[List.map_cons,List.sum_cons,yI];have h1:=h y (zN ..);have h2:=ih (fun x hx=>h x (zR _ hx));omega
theorem jhz{k:Int}{w:List UInt8}{n:Nat}(h:jam k w n=true)(h1:k≠1):1<=n:=by
 rw[jam,if_neg h1]at h;split at h
 . simp at h;omega
 . split at h
   . simp at h;omega
   . cases h
theorem jhE{w:List UInt8}{n:Nat}(h:jam 1 w n=true):n=0:=by
 simp[jam]at h;exact h.1
theorem jjF:∀(d:Nat) (t:Pt),1<=plP d t
 |0,_=>by simp[plP]
 |d+1,⟨k,w,l⟩=>by
  rw[plP];split
  . rename_i hf;split
    . omega
    . rename_i h1;have h2:=jjT (l:=l) (fun x _=>jjF d x);have h3:=jhz hf h1;omega
  . omega
theorem jl4:∀(d:Nat) (t:Pt),plP d t<=25
 |0,_=>by simp[plP]
 |d+1,⟨k,w,l⟩=>by
  rw[plP];split
  . split<;>omega
  . omega
theorem jlh{f:Pt->Nat}{l:List Pt}:min 25 (l.map (fun x=>min 25 (f x))).sum=min 25 (l.map f).sum:=by
 induction l with
 |nil=>rfl
 |cons y l ih=>
  simp only[List.map_cons,List.sum_cons];omega
theorem jl6{f g:Pt->Nat}{l:List Pt}(h:∀x∈l,f x=g x):l.map f=l.map g:=yR h
theorem je5:∀(d:Nat) (t:Pt),jaf d t=true->plP d t=min 25 (jap t)
 |0,_,h=>by simp[jaf]at h
 |d+1,⟨k,w,l⟩,h=>by
  simp only[jaf,Bool.and_eq_true,decide_eq_true_eq,yF]at h;rw[plP,if_pos h.1.1,jaJ];by_cases h1:k=1
  . rw[if_pos h1,if_pos h1];rfl
  . rw[if_neg h1,if_neg h1,jl6 (g:=fun x=>min 25 (jap x)) (fun x hx=>je5 d x (h.2 x hx)),jlh]
theorem jji:∀(d:Nat) (t:Pt),jaf d t=false->plP d t=25
 |0,_,_=>by simp[plP]
 |d+1,⟨k,w,l⟩,h=>by
  rw[plP];split
  . rename_i hf;by_cases h1:k=1
    . subst h1;have h0:l=[]:=yP.1 (jhE hf);subst h0;rw[List.length_nil]at hf;simp[jaf]at h;rw[h]at hf;cases hf
    . rw[if_neg h1];by_cases h24:l.length<=24
      . have:∃x∈l,jaf d x=false:=by
         cases ha:l.all (jaf d)with
         |true=>simp[jaf,hf,h24]at h;rw[yF]at ha;obtain⟨x,hx,hn⟩:=h;rw[ha x hx]at hn;cases hn
         |false=>simpa using ha
        obtain⟨x,hx,hn⟩:=this;have:=jk7 (f:=plP d) hx;rw[jji d x hn]at this;omega
      . have:=jjT (l:=l) (fun x _=>jjF d x);omega
  . rfl
theorem jlo(t:Pt):decide (plP 12 t<25)=mayP t:=by
 cases h:jaf 12 t with
 |true=>
  rw[je5 12 t h,mayP,h,Bool.true_and];apply decide_eq_decide.2;omega
 |false=>rw[jji 12 t h,mayP,h];rfl
theorem jc5:∀(d:Nat) (t:Pt),jaf d t=true->jap t<=24^d
 |0,_,h=>by simp[jaf]at h
 |d+1,⟨k,w,l⟩,h=>by
  simp only[jaf,Bool.and_eq_true,decide_eq_true_eq,yF]at h;rw[jaJ];have hp:1<=24^d:=Nat.one_le_pow _ _ (by decide);by_cases h1:k=1
  . rw[if_pos h1,Nat.pow_succ];omega
  . rw[if_neg h1];have key:∀l:List Pt,(∀x∈l,jap x<=24^d)->(l.map jap).sum<=l.length*24^d:=by
     intro l hl;induction l with
     |nil=>simp
     |cons y l ih=>
      rw[List.map_cons,List.sum_cons,yI,Nat.succ_mul];have a:=hl y (zN ..);have b:=ih (fun x hx=>hl x (zR _ hx));omega
    have a:=key l (fun x hx=>jc5 d x (h.2 x hx));have b:l.length*24^d<=24*24^d:=Nat.mul_le_mul_right _ h.1.2;rw[Nat.pow_succ];omega
theorem jgE{l:List Nat}{m n:Nat}(hm:m<=n)(h:∀x∈l,x<=n):l.foldl max m<=n:=by
 induction l generalizing m with
 |nil=>exact hm
 |cons y l ih=>
  rw[yN];exact ih (Nat.max_le.2 ⟨hm,h y (zN ..)⟩) (fun x hx=>h x (zR _ hx))
theorem jeb:∀(d:Nat) (t:Pt),jaf d t=true->high t<=d
 |0,_,h=>by simp[jaf]at h
 |d+1,⟨k,w,l⟩,h=>by
  simp only[jaf,Bool.and_eq_true,decide_eq_true_eq,yF]at h;rw[jhb];have:(l.map high).foldl max 0<=d:=jgE (zO _) (fun x hx=>by
   obtain⟨y,hy,rfl⟩:=zV.1 hx;exact jeb d y (h.2 y hy))
  omega
abbrev Wd:=List UInt8
def seqL:List (List Wd->Prop)->List Wd->Prop
 |[],l=>l=[]
 |f::fs,l=>∃a b,l=a++b/\f a/\seqL fs b
def altL(fs:List (List Wd->Prop))(l:List Wd):Prop:=∃f∈fs,f l
def jf1(f:List Wd->Prop)(l:List Wd):Prop:=∃ls:List (List Wd),l=ls.flatten/\∀x∈ls,f x
def jeQ(f:List Wd->Prop)(l:List Wd):Prop:=∃a b,l=a++b/\f a/\jf1 f b
def jfP(k:Int)(w:Wd)(fs:List (List Wd->Prop))(l:List Wd):Prop:=
 if k=1 then l=[w]else if k=2 then seqL fs l else if k=4 then jf1 (altL fs) l else if k=5 then jeQ (altL fs) l else if k=6 then (l=[]\/altL fs l)else altL fs l
def jbe:Pt->List Wd->Prop
 |⟨k,w,kids⟩=>jfP k w (kids.map jbe)
theorem jcL(k:Int)(w:Wd)(kids:List Pt):jbe ⟨k,w,kids⟩=jfP k w (kids.map jbe):=by rw[jbe]
structure Prt where
 words:List Wd
 first:List Nat
 last:List Nat
 pairs:List (Nat×Nat)
 empty:Bool
def je0(a b:List Nat):List (Nat×Nat):=a.flatMap fun x=>b.map fun y=>(x,y)
theorem jbl{a b:List Nat}{x y:Nat}:(x,y)∈je0 a b↔x∈a/\y∈b:=by
 simp[je0]
def up(n:Nat)(l:List Nat):List Nat:=l.map (·+n)
def upP(n:Nat)(l:List (Nat×Nat)):List (Nat×Nat):=l.map fun p=>(p.1+n,p.2+n)
theorem jaR{n x:Nat}{l:List Nat}:x∈up n l↔∃y∈l,y+n=x:=by simp[up]
theorem jcj{n x y:Nat}{l:List (Nat×Nat)}:(x,y)∈upP n l↔∃a b,(a,b)∈l/\a+n=x/\b+n=y:=by
 simp[upP]
def seqC(x y:Prt):Prt:=
 ⟨x.words++y.words,if x.empty=true then x.first++up x.words.length y.first else x.first,if y.empty=true then x.last++up x.words.length y.last else up x.words.length y.last,
  x.pairs++upP x.words.length y.pairs++je0 x.last (up x.words.length y.first),x.empty&&y.empty⟩
def altC(x y:Prt):Prt:=
 ⟨x.words++y.words,x.first++up x.words.length y.first,x.last++up x.words.length y.last,x.pairs++upP x.words.length y.pairs,x.empty||y.empty⟩
def jdI(x:Prt):Prt:={ x with pairs:=x.pairs++je0 x.last x.first }
def jel(x:Prt):Prt:={ x with empty:=true }
def prt0(e:Bool):Prt:=⟨[],[],[],[],e⟩
def jev(k:Int)(w:Wd)(ps:List Prt):Prt:=
 if k=1 then⟨[w],[0],[0],[],false⟩else if k=2 then ps.foldl seqC (prt0 true)else if k=4 then jel (jdI (ps.foldl altC (prt0 false)))else if k=5 then jdI (ps.foldl altC (prt0 false))else if k=6 then jel (ps.foldl altC (prt0 false))else ps.foldl altC (prt0 false)
def jay:Pt->Prt
 |⟨k,w,kids⟩=>jev k w (kids.map jay)
theorem jcC(k:Int)(w:Wd)(kids:List Pt):jay ⟨k,w,kids⟩=jev k w (kids.map jay):=by rw[jay]
def ja6(p:Prt):Nat->List Nat->Prop
 |x,[]=>x∈p.last
 |x,y::r=>(x,y)∈p.pairs/\ja6 p y r
def runP(p:Prt):List Nat->Prop
 |[]=>p.empty=true
 |x::r=>x∈p.first/\ja6 p x r
structure Fits (p:Prt):Prop where
 first:∀x∈p.first,x<p.words.length
 last:∀x∈p.last,x<p.words.length
 pairs:∀x y,(x,y)∈p.pairs->x<p.words.length/\y<p.words.length
theorem jhI{p:Prt}(h:Fits p):∀(r:List Nat) (x:Nat),ja6 p x r->x<p.words.length/\∀y∈r,y<p.words.length
 |[],x,hw=>⟨h.last x hw,by simp⟩
 |y::r,x,hw=>by
  obtain⟨h1,h2⟩:=jhI h r y hw.2;refine⟨(h.pairs x y hw.1).1,fun z hz=>?_⟩;rcases yB.1 hz with rfl|hz
  . exact h1
  . exact h2 z hz
theorem jfB{p:Prt}(h:Fits p){ps:List Nat}(hr:runP p ps):∀x∈ps,x<p.words.length:=by
 cases ps with
 |nil=>simp
 |cons x r=>
  obtain⟨h1,h2⟩:=jhI h r x hr.2;intro z hz;rcases yB.1 hz with rfl|hz
  . exact h1
  . exact h2 z hz
def jaO(p:Prt)(l:List Wd):Prop:=∃ps,runP p ps/\l.map some=ps.map fun i=>p.words[i]?
section
variable {x y:Prt}
theorem jkp(hx:Fits x)(hy:Fits y):Fits (seqC x y):=by
 have e:(seqC x y).words.length=x.words.length+y.words.length:=by simp[seqC]
 refine⟨fun z hz=>?_,fun z hz=>?_,fun a b aa=>?_⟩
 . rw[e];simp only[seqC]at hz;split at hz
   . rcases zL.1 hz with hz|hz
     . have:=hx.first z hz;omega
     . obtain⟨u,hu,rfl⟩:=jaR.1 hz;have:=hy.first u hu;omega
   . have:=hx.first z hz;omega
 . rw[e];simp only[seqC]at hz;split at hz
   . rcases zL.1 hz with hz|hz
     . have:=hx.last z hz;omega
     . obtain⟨u,hu,rfl⟩:=jaR.1 hz;have:=hy.last u hu;omega
   . obtain⟨u,hu,rfl⟩:=jaR.1 hz;have:=hy.last u hu;omega
 . rw[e];simp only[seqC]at aa;rcases zL.1 aa with aa|aa
   . rcases zL.1 aa with aa|aa
     . have:=hx.pairs a b aa;omega
     . obtain⟨u,v,ab,rfl,rfl⟩:=jcj.1 aa;have:=hy.pairs u v ab;omega
   . obtain⟨h1,h2⟩:=jbl.1 aa;obtain⟨u,hu,rfl⟩:=jaR.1 h2;have:=hx.last a h1;have:=hy.first u hu
     omega
theorem jdp(hx:Fits x):∀(r:List Nat) (b:Nat),ja6 (seqC x y) (b+x.words.length) r->∃q,r=up x.words.length q/\ja6 y b q
 |[],b,h=>by
  refine⟨[],rfl,?_⟩;have h:b+x.words.length∈(seqC x y).last:=h;simp only[seqC]at h;split at h
  . rcases zL.1 h with h|h
    . have:=hx.last _ h;omega
    . obtain⟨u,hu,e⟩:=jaR.1 h;obtain rfl:u=b:=by omega
      exact hu
  . obtain⟨u,hu,e⟩:=jaR.1 h;obtain rfl:u=b:=by omega
    exact hu
 |z::r,b,h=>by
  obtain⟨h1,h2⟩:=h;simp only[seqC]at h1;rcases zL.1 h1 with h1|h1
  . rcases zL.1 h1 with h1|h1
    . have:=(hx.pairs _ _ h1).1;omega
    . obtain⟨u,v,huv,e1,e2⟩:=jcj.1 h1;obtain rfl:u=b:=by omega
      subst e2;obtain⟨q,rfl,hq⟩:=jdp hx r v h2;exact⟨v::q,rfl,huv,hq⟩
  . have:=hx.last _ (jbl.1 h1).1;omega
theorem jfa(hx:Fits x)(hy:Fits y):∀(r:List Nat) (a:Nat),a<x.words.length->ja6 (seqC x y) a r->(y.empty=true/\ja6 x a r)\/∃p b q,r=p++up x.words.length (b::q)/\ja6 x a p/\b∈y.first/\ja6 y b q
 |[],a,ha,h=>by
  left;have h:a∈(seqC x y).last:=h;simp only[seqC]at h;split at h
  . rename_i he;rcases zL.1 h with h|h
    . exact⟨he,h⟩
    . obtain⟨u,hu,e⟩:=jaR.1 h;omega
  . obtain⟨u,hu,e⟩:=jaR.1 h;omega
 |z::r,a,ha,h=>by
  obtain⟨h1,h2⟩:=h;simp only[seqC]at h1;rcases zL.1 h1 with h1|h1
  . rcases zL.1 h1 with h1|h1
    . rcases jfa hx hy r z (hx.pairs a z h1).2 h2 with⟨he,hw⟩|⟨p,b,q,e,hw,hb,hq⟩
      . exact .inl ⟨he,h1,hw⟩
      . exact .inr ⟨z::p,b,q,by rw[e];rfl,⟨h1,hw⟩,hb,hq⟩
    . obtain⟨u,v,_,e1,_⟩:=jcj.1 h1;omega
  . obtain⟨ha2,hz⟩:=jbl.1 h1;obtain⟨b,hb,rfl⟩:=jaR.1 hz;obtain⟨q,rfl,hq⟩:=jdp hx r b h2;exact .inr ⟨[],b,q,rfl,ha2,hb,hq⟩
theorem jcS:∀(q:List Nat) (b:Nat),ja6 y b q->ja6 (seqC x y) (b+x.words.length) (up x.words.length q)
 |[],b,h=>by
  show b+x.words.length∈(seqC x y).last;simp only[seqC];split
  . exact List.mem_append_right _ (jaR.2 ⟨b,h,rfl⟩)
  . exact jaR.2 ⟨b,h,rfl⟩
 |v::q,b,h=>⟨by
  simp only[seqC];exact yL _ (List.mem_append_right _ (jcj.2 ⟨b,v,h.1,rfl,rfl⟩)),jcS q v h.2⟩
theorem jdm:∀(p:List Nat) (a b:Nat) (q:List Nat),ja6 x a p->b∈y.first->ja6 y b q->ja6 (seqC x y) a (p++up x.words.length (b::q))
 |[],a,b,q,h1,h2,h3=>⟨by
  simp only[seqC];exact List.mem_append_right _ (jbl.2 ⟨h1,jaR.2 ⟨b,h2,rfl⟩⟩),jcS q b h3⟩
 |z::p,a,b,q,h1,h2,h3=>⟨by
  simp only[seqC];exact yL _ (yL _ h1.1),jdm p z b q h1.2 h2 h3⟩
theorem jdk:∀(p:List Nat) (a:Nat),y.empty=true->ja6 x a p->ja6 (seqC x y) a p
 |[],a,he,h=>by
  show a∈(seqC x y).last;simp only[seqC,he,if_true];exact yL _ h
 |z::p,a,he,h=>⟨by
  simp only[seqC];exact yL _ (yL _ h.1),jdk p z he h.2⟩
theorem ji0(hx:Fits x)(hy:Fits y)(ps:List Nat):runP (seqC x y) ps↔∃p q,ps=p++up x.words.length q/\runP x p/\runP y q:=by
 constructor
 . intro h;cases ps with
   |nil=>
    have h:(x.empty&&y.empty)=true:=h;rw[Bool.and_eq_true]at h;exact⟨[],[],rfl,h.1,h.2⟩
   |cons a r=>
    obtain⟨h1,h2⟩:=h;have aa:a∈x.first\/(x.empty=true/\∃b∈y.first,b+x.words.length=a):=by
     simp only[seqC]at h1;split at h1
     . rename_i he;rcases zL.1 h1 with h1|h1
       . exact .inl h1
       . exact .inr ⟨he,jaR.1 h1⟩
     . exact .inl h1
    rcases aa with ha|⟨he,b,hb,rfl⟩
    . rcases jfa hx hy r a (hx.first a ha) h2 with⟨he,hw⟩|⟨p,b,q,e,hw,hb,hq⟩
      . exact⟨a::r,[],by simp[up],⟨ha,hw⟩,he⟩
      . exact⟨a::p,b::q,by rw[e];rfl,⟨ha,hw⟩,hb,hq⟩
    . obtain⟨q,rfl,hq⟩:=jdp hx r b h2;exact⟨[],b::q,rfl,he,hb,hq⟩
 . rintro⟨p,q,rfl,hp,hq⟩;cases p with
   |nil=>
    cases q with
    |nil=>show (x.empty&&y.empty)=true;rw[show x.empty=true from hp,show y.empty=true from hq];rfl
    |cons b q=>
     refine⟨?_,jcS q b hq.2⟩;simp only[seqC,show x.empty=true from hp,if_true];exact List.mem_append_right _ (jaR.2 ⟨b,hq.1,rfl⟩)
   |cons a p=>
    have hf:a∈(seqC x y).first:=by
     simp only[seqC];split
     . exact yL _ hp.1
     . exact hp.1
    cases q with
    |nil=>exact⟨hf,by have:=jdk p a hq hp.2;rw[<- List.append_nil p]at this;exact this⟩
    |cons b q=>exact⟨hf,jdm p a b q hp.2 hq.1 hq.2⟩
end
theorem jcH{x y:Prt}{ps:List Nat}(h:∀i∈ps,i<x.words.length):ps.map (fun i=>(x.words++y.words)[i]?)=ps.map fun i=>x.words[i]?:=
 yR (fun i hi=>yJ (h i hi))
theorem jcc{x y:Prt}(ps:List Nat):(up x.words.length ps).map (fun i=>(x.words++y.words)[i]?)=ps.map fun i=>y.words[i]?:=by
 rw[up,List.map_map];refine yR (fun i _=>?_);rw[Function.comp,yM (by omega),Nat.add_sub_cancel]
theorem jdD{l:List Wd}{a b:List (Option Wd)}(h:l.map some=a++b):∃l1 l2,l=l1++l2/\l1.map some=a/\l2.map some=b:=by
 refine⟨l.take a.length,l.drop a.length,(List.take_append_drop _ _).symm,?_,?_⟩
 . rw[List.map_take,h,List.take_left' rfl]
 . rw[List.map_drop,h,List.drop_left' rfl]
theorem jgh{x y:Prt}(hx:Fits x)(hy:Fits y)(l:List Wd):jaO (seqC x y) l↔∃a b,l=a++b/\jaO x a/\jaO y b:=by
 constructor
 . rintro⟨ps,hr,hl⟩;obtain⟨p,q,rfl,hp,hq⟩:=(ji0 hx hy ps).1 hr;rw[yG,show (seqC x y).words=x.words++y.words from rfl,jcH (jfB hx hp),jcc]at hl;obtain⟨l1,l2,rfl,h1,h2⟩:=jdD hl;exact⟨l1,l2,rfl,⟨p,hp,h1⟩,⟨q,hq,h2⟩⟩
 . rintro⟨a,b,rfl,⟨p,hp,h1⟩,⟨q,hq,h2⟩⟩;refine⟨p++up x.words.length q,(ji0 hx hy _).2 ⟨p,q,rfl,hp,hq⟩,?_⟩;rw[yG,yG,show (seqC x y).words=x.words++y.words from rfl,jcH (jfB hx hp),jcc,h1,h2]
theorem jkc{x y:Prt}(hx:Fits x)(hy:Fits y):Fits (altC x y):=by
 have e:(altC x y).words.length=x.words.length+y.words.length:=by simp[altC]
 refine⟨fun z hz=>?_,fun z hz=>?_,fun a b aa=>?_⟩
 . rw[e];rcases zL.1 hz with hz|hz
   . have:=hx.first z hz;omega
   . obtain⟨u,hu,rfl⟩:=jaR.1 hz;have:=hy.first u hu;omega
 . rw[e];rcases zL.1 hz with hz|hz
   . have:=hx.last z hz;omega
   . obtain⟨u,hu,rfl⟩:=jaR.1 hz;have:=hy.last u hu;omega
 . rw[e];rcases zL.1 aa with aa|aa
   . have:=hx.pairs a b aa;omega
   . obtain⟨u,v,ab,rfl,rfl⟩:=jcj.1 aa;have:=hy.pairs u v ab;omega
theorem jfd{x y:Prt}(hx:Fits x):∀(r:List Nat) (a:Nat),a<x.words.length->ja6 (altC x y) a r->ja6 x a r
 |[],a,ha,h=>by
  rcases zL.1 (show a∈x.last++up x.words.length y.last from h)with h|h
  . exact h
  . obtain⟨u,hu,e⟩:=jaR.1 h;omega
 |z::r,a,ha,h=>by
  rcases zL.1 (show (a,z)∈x.pairs++upP x.words.length y.pairs from h.1)with h1|h1
  . exact⟨h1,jfd hx r z (hx.pairs a z h1).2 h.2⟩
  . obtain⟨u,v,_,e,_⟩:=jcj.1 h1;omega
theorem jfl{x y:Prt}(hx:Fits x):∀(r:List Nat) (b:Nat),ja6 (altC x y) (b+x.words.length) r->∃q,r=up x.words.length q/\ja6 y b q
 |[],b,h=>by
  rcases zL.1 (show b+x.words.length∈x.last++up x.words.length y.last from h)with h|h
  . have:=hx.last _ h;omega
  . obtain⟨u,hu,e⟩:=jaR.1 h;obtain rfl:u=b:=by omega
    exact⟨[],rfl,hu⟩
 |z::r,b,h=>by
  rcases zL.1 (show (b+x.words.length,z)∈x.pairs++upP x.words.length y.pairs from h.1)with h1|h1
  . have:=(hx.pairs _ _ h1).1;omega
  . obtain⟨u,v,huv,e,rfl⟩:=jcj.1 h1;obtain rfl:u=b:=by omega
    obtain⟨q,rfl,hq⟩:=jfl hx r v h.2;exact⟨v::q,rfl,huv,hq⟩
theorem jfs{x y:Prt}:∀(r:List Nat) (a:Nat),ja6 x a r->ja6 (altC x y) a r
 |[],_,h=>yL _ h
 |z::r,_,h=>⟨yL _ h.1,jfs r z h.2⟩
theorem jfq{x y:Prt}:∀(q:List Nat) (b:Nat),ja6 y b q->ja6 (altC x y) (b+x.words.length) (up x.words.length q)
 |[],b,h=>List.mem_append_right _ (jaR.2 ⟨b,h,rfl⟩)
 |v::q,b,h=>⟨List.mem_append_right _ (jcj.2 ⟨b,v,h.1,rfl,rfl⟩),jfq q v h.2⟩
theorem jjz{x y:Prt}(hx:Fits x)(l:List Wd):jaO (altC x y) l↔jaO x l\/jaO y l:=by
 constructor
 . rintro⟨ps,hr,hl⟩;rw[show (altC x y).words=x.words++y.words from rfl]at hl;cases ps with
   |nil=>
    have h:(x.empty||y.empty)=true:=hr;rw[Bool.or_eq_true]at h;rcases h with h|h
    . exact .inl ⟨[],h,hl⟩
    . exact .inr ⟨[],h,hl⟩
   |cons a r=>
    rcases zL.1 (show a∈x.first++up x.words.length y.first from hr.1)with h1|h1
    . have hw:=jfd hx r a (hx.first a h1) hr.2;refine .inl ⟨a::r,⟨h1,hw⟩,?_⟩;rw[hl,jcH (jfB hx (show runP x (a::r)from⟨h1,hw⟩))]
    . obtain⟨b,hb,rfl⟩:=jaR.1 h1;obtain⟨q,rfl,hq⟩:=jfl hx r b hr.2;refine .inr ⟨b::q,⟨hb,hq⟩,?_⟩;rw[hl];exact jcc (b::q)
 . rintro (⟨ps,hr,hl⟩|⟨ps,hr,hl⟩)
   . refine⟨ps,?_,?_⟩
     . cases ps with
       |nil=>show (x.empty||y.empty)=true;rw[show x.empty=true from hr];rfl
       |cons a r=>exact⟨yL _ hr.1,jfs r a hr.2⟩
     . rw[show (altC x y).words=x.words++y.words from rfl,jcH (jfB hx hr),hl]
   . refine⟨up x.words.length ps,?_,?_⟩
     . cases ps with
       |nil=>show (x.empty||y.empty)=true;rw[show y.empty=true from hr,Bool.or_true]
       |cons a r=>exact⟨List.mem_append_right _ (jaR.2 ⟨a,hr.1,rfl⟩),jfq r a hr.2⟩
     . rw[show (altC x y).words=x.words++y.words from rfl,jcc,hl]
theorem jgK{x:Prt}(hx:Fits x):Fits (jdI x):=
 ⟨hx.first,hx.last,fun a b hab=>by
  rcases zL.1 (show (a,b)∈x.pairs++je0 x.last x.first from hab)with h|h
  . exact hx.pairs a b h
  . obtain⟨h1,h2⟩:=jbl.1 h;exact⟨hx.last a h1,hx.first b h2⟩⟩
theorem jib{x:Prt}(hx:Fits x):Fits (jel x):=⟨hx.first,hx.last,hx.pairs⟩
theorem jgT{x:Prt}:∀(r:List Nat) (a:Nat),ja6 (jdI x) a r->∃(r1:List Nat) (qs:List (List Nat)),r=r1++qs.flatten/\ja6 x a r1/\∀q∈qs,q≠[]/\runP x q
 |[],a,h=>⟨[],[],rfl,h,by simp⟩
 |z::r,a,h=>by
  obtain⟨r1,qs,rfl,hw,hq⟩:=jgT r z h.2;rcases zL.1 (show (a,z)∈x.pairs++je0 x.last x.first from h.1)with h1|h1
  . exact⟨z::r1,qs,rfl,⟨h1,hw⟩,hq⟩
  . obtain⟨h2,h3⟩:=jbl.1 h1;refine⟨[],(z::r1)::qs,by simp,h2,fun q hq2=>?_⟩;rcases yB.1 hq2 with rfl|hq2
    . exact⟨by simp,h3,hw⟩
    . exact hq q hq2
theorem jg2{x:Prt}(qs:List (List Nat)):(∀q∈qs,q≠[]/\runP x q)->∀(r1:List Nat) (a:Nat),ja6 x a r1->ja6 (jdI x) a (r1++qs.flatten):=by
 induction qs with
 |nil=>
  intro _ r1;induction r1 with
  |nil=>intro a h;exact h
  |cons z r1 ih=>intro a h;exact⟨yL _ h.1,ih z h.2⟩
 |cons q qs ih=>
  intro hq r1;have h1:=hq q (zN ..);have ih:=ih (fun q hq2=>hq q (zR _ hq2));induction r1 with
  |nil=>
   intro a h;cases q with
   |nil=>exact absurd rfl h1.1
   |cons b q=>exact⟨List.mem_append_right _ (jbl.2 ⟨h,h1.2.1⟩),ih q b h1.2.2⟩
  |cons z r1 ih2=>intro a h;exact⟨yL _ h.1,ih2 z h.2⟩
theorem jeo{x:Prt}:∀(qs:List (List Nat)) (l:List Wd),(∀q∈qs,q≠[]/\runP x q)->l.map some=qs.flatten.map (fun i=>x.words[i]?)->jf1 (jaO x) l
 |[],l,_,h=>⟨[],by simpa using h,by simp⟩
 |q::qs,l,hq,h=>by
  rw[List.flatten_cons,yG]at h;obtain⟨l1,l2,rfl,h1,h2⟩:=jdD h;obtain⟨ls,rfl,hl⟩:=jeo qs l2 (fun q hq2=>hq q (zR _ hq2)) h2;refine⟨l1::ls,by simp,fun y hy=>?_⟩;rcases yB.1 hy with rfl|hy
  . exact⟨q,(hq q (zN ..)).2,h1⟩
  . exact hl y hy
theorem jfr{x:Prt}:∀(ls:List (List Wd)),(∀y∈ls,jaO x y)->∃qs:List (List Nat),(∀q∈qs,q≠[]/\runP x q)/\ls.flatten.map some=qs.flatten.map (fun i=>x.words[i]?)
 |[],_=>⟨[],by simp,by simp⟩
 |y::ls,h=>by
  obtain⟨qs,h1,h2⟩:=jfr ls (fun z hz=>h z (zR _ hz));obtain⟨ps,hr,hl⟩:=h y (zN ..);cases ps with
  |nil=>
   have:y=[]:=by simpa using hl
   subst this;exact⟨qs,h1,by simpa using h2⟩
  |cons a r=>
   refine⟨(a::r)::qs,fun q hq=>?_,by rw[List.flatten_cons,List.flatten_cons,yG,yG,hl,h2]⟩;rcases yB.1 hq with rfl|hq
   . exact⟨by simp,hr⟩
   . exact h1 q hq
theorem je2{x:Prt}(l:List Wd):jaO (jdI x) l↔jeQ (jaO x) l:=by
 constructor
 . rintro⟨ps,hr,hl⟩;cases ps with
   |nil=>
    have:l=[]:=by simpa using hl
    subst this;exact⟨[],[],rfl,⟨[],hr,rfl⟩,[],rfl,by simp⟩
   |cons a r=>
    obtain⟨r1,qs,rfl,hw,hq⟩:=jgT r a hr.2;rw[show a::(r1++qs.flatten)=(a::r1)++qs.flatten from rfl,yG]at hl;obtain⟨l1,l2,rfl,h1,h2⟩:=jdD hl;exact⟨l1,l2,rfl,⟨a::r1,⟨hr.1,hw⟩,h1⟩,jeo qs l2 hq h2⟩
 . rintro⟨a,b,rfl,⟨ps,hr,hl⟩,ls,rfl,aa⟩;obtain⟨qs,h1,h2⟩:=jfr ls aa;refine⟨ps++qs.flatten,?_,by rw[yG,yG,h2];exact congrArg (·++_) hl⟩;cases ps with
   |nil=>
    cases qs with
    |nil=>exact hr
    |cons q qs=>
     have hq:=h1 q (zN ..);cases q with
     |nil=>exact absurd rfl hq.1
     |cons c q=>exact⟨hq.2.1,jg2 qs (fun q hq2=>h1 q (zR _ hq2)) q c hq.2.2⟩
   |cons c r=>exact⟨hr.1,jg2 qs h1 r c hr.2⟩
theorem jfN{x:Prt}:∀(r:List Nat) (a:Nat),ja6 (jel x) a r↔ja6 x a r
 |[],_=>Iff.rfl
 |z::r,_=>and_congr Iff.rfl (jfN r z)
theorem jgx{x:Prt}(l:List Wd):jaO (jel x) l↔l=[]\/jaO x l:=by
 constructor
 . rintro⟨ps,hr,hl⟩;cases ps with
   |nil=>exact .inl (by simpa using hl)
   |cons a r=>exact .inr ⟨a::r,⟨hr.1,(jfN r a).1 hr.2⟩,hl⟩
 . rintro (rfl|⟨ps,hr,hl⟩)
   . exact⟨[],rfl,rfl⟩
   . refine⟨ps,?_,hl⟩;cases ps with
     |nil=>rfl
     |cons a r=>exact⟨hr.1,(jfN r a).2 hr.2⟩
theorem jjm{f:List Wd->Prop}(l:List Wd):(l=[]\/jeQ f l)↔jf1 f l:=by
 constructor
 . rintro (rfl|⟨a,b,rfl,ha,ls,rfl,aa⟩)
   . exact⟨[],rfl,by simp⟩
   . refine⟨a::ls,by simp,fun x hx=>?_⟩;rcases yB.1 hx with rfl|hx
     . exact ha
     . exact aa x hx
 . rintro⟨ls,rfl,aa⟩;cases ls with
   |nil=>exact .inl rfl
   |cons a ls=>exact .inr ⟨a,ls.flatten,by simp,aa a (zN ..),ls,rfl,fun x hx=>aa x (zR _ hx)⟩
theorem jgo(e:Bool):Fits (prt0 e):=⟨by simp[prt0],by simp[prt0],by simp[prt0]⟩
theorem jh1:∀(ps:List Prt) (x:Prt),Fits x->(∀p∈ps,Fits p)->Fits (ps.foldl seqC x)/\∀l,jaO (ps.foldl seqC x) l↔∃a b,l=a++b/\jaO x a/\seqL (ps.map jaO) b
 |[],x,hx,_=>⟨hx,fun l=>⟨fun h=>⟨l,[],by simp,h,rfl⟩,by rintro⟨a,b,rfl,h,rfl⟩;simpa using h⟩⟩
 |p::ps,x,hx,hp=>by
  have h1:=hp p (zN ..);obtain⟨h2,h3⟩:=jh1 ps (seqC x p) (jkp hx h1) (fun q hq=>hp q (zR _ hq));refine⟨h2,fun l=>?_⟩;rw[yN,h3 l];constructor
  . rintro⟨a,b,rfl,ha,hb⟩;obtain⟨c,d,rfl,hc,hd⟩:=(jgh hx h1 a).1 ha;exact⟨c,d++b,by simp,hc,d,b,rfl,hd,hb⟩
  . rintro⟨a,b,rfl,ha,c,d,rfl,hc,hd⟩;exact⟨a++c,d,by simp,(jgh hx h1 _).2 ⟨a,c,rfl,ha,hc⟩,hd⟩
theorem jh2:∀(ps:List Prt) (x:Prt),Fits x->(∀p∈ps,Fits p)->Fits (ps.foldl altC x)/\∀l,jaO (ps.foldl altC x) l↔jaO x l\/altL (ps.map jaO) l
 |[],x,hx,_=>⟨hx,fun l=>⟨fun h=>.inl h,by
  rintro (h|⟨f,hf,_⟩)
  . exact h
  . simp at hf⟩⟩
 |p::ps,x,hx,hp=>by
  have h1:=hp p (zN ..);obtain⟨h2,h3⟩:=jh2 ps (altC x p) (jkc hx h1) (fun q hq=>hp q (zR _ hq));refine⟨h2,fun l=>?_⟩;rw[yN,h3 l,jjz hx];constructor
  . rintro ((h|h)|⟨f,hf,h⟩)
    . exact .inl h
    . exact .inr ⟨jaO p,by simp,h⟩
    . exact .inr ⟨f,zR _ hf,h⟩
  . rintro (h|⟨f,hf,h⟩)
    . exact .inl (.inl h)
    . rcases yB.1 hf with rfl|hf
      . exact .inl (.inr h)
      . exact .inr ⟨f,hf,h⟩
theorem jiB(l:List Wd):¬jaO (prt0 false) l:=by
 rintro⟨ps,hr,_⟩;cases ps with
 |nil=>cases hr
 |cons a r=>exact absurd hr.1 (by simp[prt0])
theorem jgg(l:List Wd):jaO (prt0 true) l↔l=[]:=by
 constructor
 . rintro⟨ps,hr,hl⟩;cases ps with
   |nil=>simpa using hl
   |cons a r=>exact absurd hr.1 (by simp[prt0])
 . rintro rfl;exact⟨[],rfl,rfl⟩
theorem jld{f g:Pt->List Wd->Prop}{kids:List Pt}(h:∀x∈kids,∀l,f x l↔g x l):kids.map f=kids.map g:=
 yR (fun x hx=>funext (fun l=>propext (h x hx l)))
theorem jeF:∀t:Pt,Fits (jay t)/\∀l,jaO (jay t) l↔jbe t l:=by
 refine Pt.ind (fun k w kids ih=>?_);have hf:∀p∈kids.map jay,Fits p:=fun p hp=>by
  obtain⟨x,hx,rfl⟩:=zV.1 hp;exact(ih x hx).1
 have hm:(kids.map jay).map jaO=kids.map jbe:=by
  rw[List.map_map];exact jld (fun x hx l=>(ih x hx).2 l)
 rw[jcC,jcL];obtain⟨s1,s2⟩:=jh1 (kids.map jay) (prt0 true) (jgo _) hf;obtain⟨a1,a2⟩:=jh2 (kids.map jay) (prt0 false) (jgo _) hf;rw[hm]at s2 a2;have a3:jaO ((kids.map jay).foldl altC (prt0 false))=altL (kids.map jbe):=funext (fun l=>propext ((a2 l).trans ⟨fun h=>h.resolve_left (jiB l),.inr⟩));unfold jev;simp only[jfP];by_cases h1:k=1
 . simp only[h1,if_true];refine⟨⟨by simp,by simp,by simp⟩,fun l=>⟨?_,?_⟩⟩
   . rintro⟨ps,hr,hl⟩;cases ps with
     |nil=>cases hr
     |cons a r=>
      obtain⟨ha,hw⟩:=hr;have ha:a=0:=by simpa using ha
      subst ha;cases r with
      |nil=>
       simp only[List.map_cons,List.map_nil,List.getElem?_cons_zero]at hl;cases l with
       |nil=>simp at hl
       |cons u l=>simpa using hl
      |cons z r=>exact absurd hw.1 (by simp)
   . rintro rfl;exact⟨[0],⟨by simp,by simp[ja6]⟩,rfl⟩
 . simp only[h1,if_false];by_cases h2:k=2
   . simp only[h2,if_true];refine⟨s1,fun l=>(s2 l).trans ⟨?_,fun h=>⟨[],l,rfl,(jgg []).2 rfl,h⟩⟩⟩;rintro⟨a,b,rfl,ha,hb⟩;rw[(jgg a).1 ha];exact hb
   . simp only[h2,if_false];by_cases h4:k=4
     . simp only[h4,if_true];refine⟨jib (jgK a1),fun l=>?_⟩;rw[jgx,je2,a3];exact jjm l
     . simp only[h4,if_false];by_cases h5:k=5
       . simp only[h5,if_true];refine⟨jgK a1,fun l=>?_⟩;rw[je2,a3]
       . simp only[h5,if_false];by_cases h6:k=6
         . simp only[h6,if_true];refine⟨jib a1,fun l=>?_⟩;rw[jgx,a3]
         . simp only[h6,if_false];exact⟨a1,fun l=>by rw[a3]⟩
end Go.Proofs.YtkbgmcmcpbegjaaGreatDoor
