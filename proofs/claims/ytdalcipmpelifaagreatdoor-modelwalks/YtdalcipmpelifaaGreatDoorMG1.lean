/- VMath, QMath, AMath. -/
import Derived.Test.YtdalcipmpelifaaGreatDoorMG0
import Derived.Test.YtdalcipmpelifaaGreatDoorRows
import Derived.Lib.Bytealg
import Derived.Sort.Statements
import Derived.Maps.OwnSet
set_option maxRecDepth 100000
namespace Go.Proofs.YtdalcipmpelifaaGreatDoor
def mayN(n:Nat):Bool:=(decide (97<=n)&&decide (n<=122))||(decide (48<=n)&&decide (n<=57))||decide (n=45)||decide (n=58)
abbrev mayB(c:UInt8):Bool:=mayN c.toNat
theorem mayN_yes{n:Nat}(h:n=45\/n=58\/(48<=n/\n<=57)\/(97<=n/\n<=122)):mayN n=true:=by
 simp only[mayN,Bool.or_eq_true,Bool.and_eq_true,decide_eq_true_iff];omega
theorem mayN_no{n:Nat}(h:¬(n=45\/n=58\/(48<=n/\n<=57)\/(97<=n/\n<=122))):mayN n=false:=by
 rw[Bool.eq_false_iff];simp only[mayN,ne_eq,Bool.or_eq_true,Bool.and_eq_true,decide_eq_true_iff];omega
theorem byte_cases(n:Nat):n<45\/n=45\/(45<n/\n<48)\/(48<=n/\n<=57)\/n=58\/(58<n/\n<97)\/(97<=n/\n<=122)\/122<n:=by omega
def isW(l:List UInt8):Bool:=decide (1<=l.length)&&decide (l.length<=16)&&l.all mayB
theorem isW_len{l:List UInt8}(h:isW l=true):1<=l.length/\l.length<=16:=by
 simp only[isW,Bool.and_eq_true,decide_eq_true_eq]at h;exact h.1
def Once(ws:List (List UInt8)):Prop:=∀(i j:Nat) (s:List UInt8),ws[i]?=some s->ws[j]?=some s->i=j
def AllW(ws:List (List UInt8)):Prop:=∀s∈ws,isW s=true
theorem snoc_at{ws:List (List UInt8)}{s t:List UInt8}{i:Nat}(h:(ws++[t])[i]?=some s):ws[i]?=some s\/(i=ws.length/\s=t):=by
 by_cases hi:i<ws.length
 . left;rwa[yH hi]at h
 . right;rw[yM (by omega)]at h;by_cases h0:i-ws.length=0
   . rw[h0]at h;simp at h;exact⟨by omega,h.symm⟩
   . obtain⟨k,hk⟩:∃k,i-ws.length=k+1:=⟨i-ws.length-1,by omega⟩
     rw[hk]at h;simp at h
theorem at_last(ws:List (List UInt8))(t:List UInt8):(ws++[t])[ws.length]?=some t:=by simp
theorem Once.snoc{ws:List (List UInt8)}{t:List UInt8}(h:Once ws)(ht:t∉ws):Once (ws++[t]):=by
 intro i j s hi hj;rcases snoc_at hi with h1|⟨h1,e1⟩<;>rcases snoc_at hj with h2|⟨h2,e2⟩
 . exact h i j s h1 h2
 . subst e2;exact absurd (zC h1) ht
 . subst e1;exact absurd (zC h2) ht
 . omega
theorem AllW.snoc{ws:List (List UInt8)}{t:List UInt8}(h:AllW ws)(ht:isW t=true):AllW (ws++[t]):=by
 intro s hs;rcases zN.1 hs with hs|hs
 . exact h s hs
 . rw[zJ]at hs;rw[hs];exact ht
def PutR(ws:List (List UInt8))(s:List UInt8)(ws':List (List UInt8))(k er:Nat):Prop:=
 (isW s=false/\ws'=ws/\k=0/\er=1)\/(isW s=true/\ws[k]?=some s/\ws'=ws/\er=0)\/(isW s=true/\s∉ws/\ws'=ws++[s]/\k=ws.length/\er=0)
def IdR(ws:List (List UInt8))(s:List UInt8)(k er:Nat):Prop:=(s∉ws/\k=0/\er=3)\/(ws[k]?=some s/\er=0)
theorem PutR.one{ws ws1 ws2:List (List UInt8)}{s:List UInt8}{k1 k2 e1 e2:Nat}(h:Once ws)(h1:PutR ws s ws1 k1 e1)(h2:PutR ws s ws2 k2 e2):ws1=ws2/\k1=k2/\e1=e2:=by
 rcases h1 with⟨a1,a2,a3,a4⟩|⟨a1,a2,a3,a4⟩|⟨a1,a2,a3,a4,a5⟩<;>rcases h2 with⟨b1,b2,b3,b4⟩|⟨b1,b2,b3,b4⟩|⟨b1,b2,b3,b4,b5⟩
 . subst a2 b2 a3 b3 a4 b4;exact⟨rfl,rfl,rfl⟩
 . rw[a1]at b1;cases b1
 . rw[a1]at b1;cases b1
 . rw[a1]at b1;cases b1
 . exact⟨by rw[a3,b3],h _ _ _ a2 b2,by rw[a4,b4]⟩
 . exact absurd (zC a2) b2
 . rw[a1]at b1;cases b1
 . exact absurd (zC b2) a2
 . exact⟨by rw[a3,b3],by rw[a4,b4],by rw[a5,b5]⟩
theorem IdR.one{ws:List (List UInt8)}{s:List UInt8}{k1 k2 e1 e2:Nat}(h:Once ws)(h1:IdR ws s k1 e1)(h2:IdR ws s k2 e2):k1=k2/\e1=e2:=by
 rcases h1 with⟨a1,a2,a3⟩|⟨a1,a2⟩<;>rcases h2 with⟨b1,b2,b3⟩|⟨b1,b2⟩
 . omega
 . exact absurd (zC b1) a1
 . exact absurd (zC a1) b1
 . exact⟨h _ _ _ a1 b1,by omega⟩
theorem PutR.once{ws ws':List (List UInt8)}{s:List UInt8}{k e:Nat}(h:PutR ws s ws' k e)(ho:Once ws):Once ws':=by
 rcases h with⟨_,rfl,_⟩|⟨_,_,rfl,_⟩|⟨_,h2,rfl,_⟩
 . exact ho
 . exact ho
 . exact ho.snoc h2
theorem PutR.len{ws ws':List (List UInt8)}{s:List UInt8}{k e:Nat}(h:PutR ws s ws' k e):ws'.length<=ws.length+1:=by
 rcases h with⟨_,rfl,_⟩|⟨_,_,rfl,_⟩|⟨_,h2,rfl,_⟩<;>simp
theorem PutR.has{ws ws':List (List UInt8)}{s:List UInt8}{k e:Nat}(h:PutR ws s ws' k e):(e=0/\isW s=true/\ws'[k]?=some s)\/(e=1/\isW s=false):=by
 rcases h with⟨h1,_,_,h4⟩|⟨h1,h2,rfl,h4⟩|⟨h1,h2,rfl,h4,h5⟩
 . exact .inr ⟨h4,h1⟩
 . exact .inl ⟨h4,h1,h2⟩
 . exact .inl ⟨h5,h1,by rw[h4];exact at_last _ _⟩
theorem PutR.mem{ws ws':List (List UInt8)}{s t:List UInt8}{k e:Nat}(h:PutR ws s ws' k e):t∈ws'↔t∈ws\/(t=s/\isW s=true):=by
 rcases h with⟨h1,rfl,_,h4⟩|⟨h1,h2,rfl,h4⟩|⟨h1,h2,rfl,h4,h5⟩
 . rw[h1];simp
 . constructor
   . exact .inl
   . rintro (h|⟨rfl,_⟩)
     . exact h
     . exact zC h2
 . simp[h1]
abbrev less(a b:List UInt8):Bool:=Op.bytesLess a b
theorem less_irrefl:∀a:List UInt8,less a a=false
 |[]=>rfl
 |a::xs=>by
  have:=less_irrefl xs;simp only[less,Op.bytesLess]at this ⊢;simp[this]
theorem less_cases:∀(a b:List UInt8),less a b=false->less b a=false->a=b
 |[],[],_,_=>rfl
 |[],b::bs,h,_=>by simp[less,Op.bytesLess]at h
 |a::xs,[],_,h=>by simp[less,Op.bytesLess]at h
 |a::xs,b::bs,h1,h2=>by
  simp only[less,Op.bytesLess,Bool.or_eq_false_iff,decide_eq_false_iff_not,Bool.and_eq_false_iff,beq_eq_false_iff_ne]at h1 h2;have hab:a=b:=by
   have e1:=h1.1;have e2:=h2.1;rw[UInt8.lt_iff_toNat_lt]at e1 e2;exact UInt8.toNat_inj.1 (by omega)
  subst hab;rw[less_cases xs bs (by rcases h1.2 with h|h;exact absurd rfl h;exact h) (by rcases h2.2 with h|h;exact absurd rfl h;exact h)]
theorem less_trans:∀(a b c:List UInt8),less a b=true->less b c=true->less a c=true
 |[],_,[],_,h=>by cases ‹List UInt8› <;>simp[less,Op.bytesLess]at h
 |[],_,c::cs,_,_=>by simp[less,Op.bytesLess]
 |a::xs,[],_,h,_=>by simp[less,Op.bytesLess]at h
 |a::xs,b::bs,[],_,h=>by simp[less,Op.bytesLess]at h
 |a::xs,b::bs,c::cs,h1,h2=>by
  simp only[less,Op.bytesLess,Bool.or_eq_true,decide_eq_true_iff,Bool.and_eq_true,beq_iff_eq]at h1 h2 ⊢;rw[UInt8.lt_iff_toNat_lt]at h1 h2 ⊢;rcases h1 with h1|⟨rfl,h1⟩
  . rcases h2 with h2|⟨rfl,h2⟩
    . left;omega
    . left;exact h1
  . rcases h2 with h2|⟨rfl,h2⟩
    . left;exact h2
    . exact .inr ⟨rfl,less_trans xs bs cs h1 h2⟩
theorem less_asymm{a b:List UInt8}(h:less a b=true):less b a=false:=by
 cases hb:less b a with
 |false=>rfl
 |true=>have:=less_trans a b a h hb;rw[less_irrefl]at this;cases this
abbrev wordAt(ws:List (List UInt8))(i:Nat):List UInt8:=ws.getD i []
theorem at_wordAt{ws:List (List UInt8)}{i:Nat}(h:i<ws.length):ws[i]?=some (wordAt ws i):=by simp[wordAt,List.getD,List.getElem?_eq_getElem h]
def Sorts(ws:List (List UInt8))(is:List Nat):Prop:=is.Perm (List.range ws.length)/\is.Pairwise (fun i j=>less (wordAt ws i) (wordAt ws j)=true)
theorem eq_of_rising{l1 l2:List (List UInt8)}(hp:l1.Perm l2)(h1:l1.Pairwise (fun a b=>less a b=true))(h2:l2.Pairwise (fun a b=>less a b=true)):l1=l2:=by
 induction l1 generalizing l2 with
 |nil=>exact(List.nil_perm.1 hp).symm
 |cons a l1 ih=>
  cases l2 with
  |nil=>exact absurd hp.length_eq (by simp)
  |cons b l2=>
   rw[List.pairwise_cons]at h1 h2;have hab:a=b:=by
    have ha:a∈b::l2:=hp.mem_iff.1 (by simp);have hb:b∈a::l1:=hp.mem_iff.2 (by simp);rcases zX.1 ha with e|ha
    . exact e
    . rcases zX.1 hb with e|hb
      . exact e.symm
      . have:=less_asymm (h1.1 b hb);rw[h2.1 a ha]at this;cases this
   subst hab;rw[ih (List.Perm.cons_inv hp) h1.2 h2.2]
theorem Sorts.words{ws:List (List UInt8)}{is:List Nat}(h:Sorts ws is):(is.map (wordAt ws)).Perm ws/\(is.map (wordAt ws)).Pairwise (fun a b=>less a b=true):=by
 refine⟨?_,List.pairwise_map.2 h.2⟩;have:=h.1.map (wordAt ws);have e:(List.range ws.length).map (wordAt ws)=ws:=by
  apply List.ext_getElem?;intro i;rw[zI];by_cases hi:i<ws.length
  . rw[at_wordAt hi,yO hi];rfl
  . rw[yB (by simp;omega),yB (by omega)];rfl
 rwa[e]at this
theorem Sorts.len{ws:List (List UInt8)}{is:List Nat}(h:Sorts ws is):is.length=ws.length:=by
 have:=h.1.length_eq;simpa using this
theorem Sorts.lt{ws:List (List UInt8)}{is:List Nat}(h:Sorts ws is){i:Nat}(hi:i∈is):i<ws.length:=by
 have:=h.1.mem_iff.1 hi;simpa using this
theorem Sorts.one{ws:List (List UInt8)}{is js:List Nat}(ho:Once ws)(h1:Sorts ws is)(h2:Sorts ws js):is=js:=by
 obtain⟨p1,q1⟩:=h1.words;obtain⟨p2,q2⟩:=h2.words;have e:=eq_of_rising (p1.trans p2.symm) q1 q2;apply List.ext_getElem?;intro i;have ei:(is.map (wordAt ws))[i]?=(js.map (wordAt ws))[i]?:=by rw[e]
 rw[zI,zI]at ei;cases ha:is[i]? with
 |none=>
  rw[ha]at ei;cases hb:js[i]? with
  |none=>rfl
  |some y=>rw[hb]at ei;simp at ei
 |some x=>
  rw[ha]at ei;cases hb:js[i]? with
  |none=>rw[hb]at ei;simp at ei
  |some y=>
   rw[hb]at ei;simp only[Option.map_some,Option.some.injEq]at ei;rw[ho x y _ (at_wordAt (h1.lt (zC ha))) (by rw[ei];exact at_wordAt (h2.lt (zC hb)))]
end Go.Proofs.YtdalcipmpelifaaGreatDoor
namespace Go.Proofs.YtdalcipmpelifaaGreatDoor
open Go.RowKit
structure Vt where
 kind:Int
 word:List UInt8
 val:Value
 kids:List Vt
structure Pt where
 kind:Int
 word:List UInt8
 kids:List Pt
theorem Vt.ind{P:Vt->Prop}(h:∀k w v kids,(∀x∈kids,P x)->P ⟨k,w,v,kids⟩):∀t,P t
 |⟨k,w,v,kids⟩=>h k w v kids (fun x _=>Vt.ind h x)
theorem Pt.ind{P:Pt->Prop}(h:∀k w kids,(∀x∈kids,P x)->P ⟨k,w,kids⟩):∀t,P t
 |⟨k,w,kids⟩=>h k w kids (fun x _=>Pt.ind h x)
def Vt.pt:Vt->Pt
 |⟨k,w,_,l⟩=>⟨k,w,l.map Vt.pt⟩
theorem Vt.pt_mk(k:Int)(w:List UInt8)(v:Value)(l:List Vt):Vt.pt ⟨k,w,v,l⟩=⟨k,w,l.map Vt.pt⟩:=by rw[Vt.pt]
def formedP(k:Int)(w:List UInt8)(n:Nat):Bool:=
 if k=1 then decide (n=0)&&isW w else if k=2\/k=3 then decide (2<=n)&&w.isEmpty else if k=4\/k=5\/k=6 then decide (n=1)&&w.isEmpty else false
def plP:Nat->Pt->Nat
 |0,_=>25
 |d+1,⟨k,w,l⟩=>if formedP k w l.length then (if k=1 then 1 else min 25 (l.map (plP d)).sum)else 25
def leaves:Pt->Nat
 |⟨k,_,l⟩=>if k=1 then 1 else (l.map leaves).sum
theorem leaves_mk(k:Int)(w:List UInt8)(l:List Pt):leaves ⟨k,w,l⟩=if k=1 then 1 else (l.map leaves).sum:=by rw[leaves]
def high:Pt->Nat
 |⟨_,_,l⟩=>(l.map high).foldl max 0+1
theorem high_mk(k:Int)(w:List UInt8)(l:List Pt):high ⟨k,w,l⟩=(l.map high).foldl max 0+1:=by rw[high]
def shapedP:Nat->Pt->Bool
 |0,_=>false
 |d+1,⟨k,w,l⟩=>formedP k w l.length&&decide (l.length<=24)&&l.all (shapedP d)
def mayP(t:Pt):Bool:=shapedP 12 t&&decide (leaves t<=24)
theorem sum_ge{f:Pt->Nat}{l:List Pt}{x:Pt}(h:x∈l):f x<=(l.map f).sum:=by
 induction l with
 |nil=>cases h
 |cons y l ih=>
  rw[List.map_cons,List.sum_cons];rcases zX.1 h with rfl|h
  . omega
  . have:=ih h;omega
theorem sum_len{f:Pt->Nat}{l:List Pt}(h:∀x∈l,1<=f x):l.length<=(l.map f).sum:=by
 induction l with
 |nil=>simp
 |cons y l ih=>
  rw[List.map_cons,List.sum_cons,yE];have h1:=h y (zL ..);have h2:=ih (fun x hx=>h x (zP _ hx));omega
theorem formed_kids{k:Int}{w:List UInt8}{n:Nat}(h:formedP k w n=true)(h1:k≠1):1<=n:=by
 rw[formedP,if_neg h1]at h;split at h
 . simp at h;omega
 . split at h
   . simp at h;omega
   . cases h
theorem formed_word{w:List UInt8}{n:Nat}(h:formedP 1 w n=true):n=0:=by
 simp[formedP]at h;exact h.1
theorem plP_pos:∀(d:Nat) (t:Pt),1<=plP d t
 |0,_=>by simp[plP]
 |d+1,⟨k,w,l⟩=>by
  rw[plP];split
  . rename_i hf;split
    . omega
    . rename_i h1;have h2:=sum_len (l:=l) (fun x _=>plP_pos d x);have h3:=formed_kids hf h1;omega
  . omega
theorem plP_le:∀(d:Nat) (t:Pt),plP d t<=25
 |0,_=>by simp[plP]
 |d+1,⟨k,w,l⟩=>by
  rw[plP];split
  . split<;>omega
  . omega
theorem min_sum{f:Pt->Nat}{l:List Pt}:min 25 (l.map (fun x=>min 25 (f x))).sum=min 25 (l.map f).sum:=by
 induction l with
 |nil=>rfl
 |cons y l ih=>
  simp only[List.map_cons,List.sum_cons];omega
theorem map_eq{f g:Pt->Nat}{l:List Pt}(h:∀x∈l,f x=g x):l.map f=l.map g:=yQ h
theorem plP_shaped:∀(d:Nat) (t:Pt),shapedP d t=true->plP d t=min 25 (leaves t)
 |0,_,h=>by simp[shapedP]at h
 |d+1,⟨k,w,l⟩,h=>by
  simp only[shapedP,Bool.and_eq_true,decide_eq_true_eq,yJ]at h;rw[plP,if_pos h.1.1,leaves_mk];by_cases h1:k=1
  . rw[if_pos h1,if_pos h1];rfl
  . rw[if_neg h1,if_neg h1,map_eq (g:=fun x=>min 25 (leaves x)) (fun x hx=>plP_shaped d x (h.2 x hx)),min_sum]
theorem plP_not:∀(d:Nat) (t:Pt),shapedP d t=false->plP d t=25
 |0,_,_=>by simp[plP]
 |d+1,⟨k,w,l⟩,h=>by
  rw[plP];split
  . rename_i hf;by_cases h1:k=1
    . subst h1;have h0:l=[]:=yG.1 (formed_word hf);subst h0;rw[List.length_nil]at hf;simp[shapedP]at h;rw[h]at hf;cases hf
    . rw[if_neg h1];by_cases h24:l.length<=24
      . have:∃x∈l,shapedP d x=false:=by
         cases ha:l.all (shapedP d)with
         |true=>simp[shapedP,hf,h24]at h;rw[yJ]at ha;obtain⟨x,hx,hn⟩:=h;rw[ha x hx]at hn;cases hn
         |false=>simpa using ha
        obtain⟨x,hx,hn⟩:=this;have:=sum_ge (f:=plP d) hx;rw[plP_not d x hn]at this;omega
      . have:=sum_len (l:=l) (fun x _=>plP_pos d x);omega
  . rfl
theorem plP_may(t:Pt):decide (plP 12 t<25)=mayP t:=by
 cases h:shapedP 12 t with
 |true=>
  rw[plP_shaped 12 t h,mayP,h,Bool.true_and];apply decide_eq_decide.2;omega
 |false=>rw[plP_not 12 t h,mayP,h];rfl
theorem leaves_shaped:∀(d:Nat) (t:Pt),shapedP d t=true->leaves t<=24^d
 |0,_,h=>by simp[shapedP]at h
 |d+1,⟨k,w,l⟩,h=>by
  simp only[shapedP,Bool.and_eq_true,decide_eq_true_eq,yJ]at h;rw[leaves_mk];have hp:1<=24^d:=Nat.one_le_pow _ _ (by decide);by_cases h1:k=1
  . rw[if_pos h1,Nat.pow_succ];omega
  . rw[if_neg h1];have key:∀l:List Pt,(∀x∈l,leaves x<=24^d)->(l.map leaves).sum<=l.length*24^d:=by
     intro l hl;induction l with
     |nil=>simp
     |cons y l ih=>
      rw[List.map_cons,List.sum_cons,yE,Nat.succ_mul];have a:=hl y (zL ..);have b:=ih (fun x hx=>hl x (zP _ hx));omega
    have a:=key l (fun x hx=>leaves_shaped d x (h.2 x hx));have b:l.length*24^d<=24*24^d:=Nat.mul_le_mul_right _ h.1.2;rw[Nat.pow_succ];omega
abbrev Wd:=List UInt8
def seqL:List (List Wd->Prop)->List Wd->Prop
 |[],l=>l=[]
 |f::fs,l=>∃a b,l=a++b/\f a/\seqL fs b
def altL(fs:List (List Wd->Prop))(l:List Wd):Prop:=∃f∈fs,f l
def starL(f:List Wd->Prop)(l:List Wd):Prop:=∃ls:List (List Wd),l=ls.flatten/\∀x∈ls,f x
def plusL(f:List Wd->Prop)(l:List Wd):Prop:=∃a b,l=a++b/\f a/\starL f b
def kindL(k:Int)(w:Wd)(fs:List (List Wd->Prop))(l:List Wd):Prop:=
 if k=1 then l=[w]else if k=2 then seqL fs l else if k=4 then starL (altL fs) l else if k=5 then plusL (altL fs) l else if k=6 then (l=[]\/altL fs l)else altL fs l
def willL:Pt->List Wd->Prop
 |⟨k,w,kids⟩=>kindL k w (kids.map willL)
theorem willL_mk(k:Int)(w:Wd)(kids:List Pt):willL ⟨k,w,kids⟩=kindL k w (kids.map willL):=by rw[willL]
structure Prt where
 words:List Wd
 first:List Nat
 last:List Nat
 pairs:List (Nat×Nat)
 empty:Bool
def cross(a b:List Nat):List (Nat×Nat):=a.flatMap fun x=>b.map fun y=>(x,y)
theorem mem_cross{a b:List Nat}{x y:Nat}:(x,y)∈cross a b↔x∈a/\y∈b:=by
 simp[cross]
def up(n:Nat)(l:List Nat):List Nat:=l.map (·+n)
def upP(n:Nat)(l:List (Nat×Nat)):List (Nat×Nat):=l.map fun p=>(p.1+n,p.2+n)
theorem mem_up{n x:Nat}{l:List Nat}:x∈up n l↔∃y∈l,y+n=x:=by simp[up]
theorem mem_upP{n x y:Nat}{l:List (Nat×Nat)}:(x,y)∈upP n l↔∃a b,(a,b)∈l/\a+n=x/\b+n=y:=by
 simp[upP]
def seqC(x y:Prt):Prt:=
 ⟨x.words++y.words,if x.empty=true then x.first++up x.words.length y.first else x.first,if y.empty=true then x.last++up x.words.length y.last else up x.words.length y.last,
  x.pairs++upP x.words.length y.pairs++cross x.last (up x.words.length y.first),x.empty&&y.empty⟩
def altC(x y:Prt):Prt:=
 ⟨x.words++y.words,x.first++up x.words.length y.first,x.last++up x.words.length y.last,x.pairs++upP x.words.length y.pairs,x.empty||y.empty⟩
def loopC(x:Prt):Prt:={ x with pairs:=x.pairs++cross x.last x.first }
def mayC2(x:Prt):Prt:={ x with empty:=true }
def prt0(e:Bool):Prt:=⟨[],[],[],[],e⟩
def kindC(k:Int)(w:Wd)(ps:List Prt):Prt:=
 if k=1 then⟨[w],[0],[0],[],false⟩else if k=2 then ps.foldl seqC (prt0 true)else if k=4 then mayC2 (loopC (ps.foldl altC (prt0 false)))else if k=5 then loopC (ps.foldl altC (prt0 false))else if k=6 then mayC2 (ps.foldl altC (prt0 false))else ps.foldl altC (prt0 false)
def prtOf:Pt->Prt
 |⟨k,w,kids⟩=>kindC k w (kids.map prtOf)
theorem prtOf_mk(k:Int)(w:Wd)(kids:List Pt):prtOf ⟨k,w,kids⟩=kindC k w (kids.map prtOf):=by rw[prtOf]
def walkP(p:Prt):Nat->List Nat->Prop
 |x,[]=>x∈p.last
 |x,y::r=>(x,y)∈p.pairs/\walkP p y r
def runP(p:Prt):List Nat->Prop
 |[]=>p.empty=true
 |x::r=>x∈p.first/\walkP p x r
structure Fits (p:Prt):Prop where
 first:∀x∈p.first,x<p.words.length
 last:∀x∈p.last,x<p.words.length
 pairs:∀x y,(x,y)∈p.pairs->x<p.words.length/\y<p.words.length
theorem walkP_lt{p:Prt}(h:Fits p):∀(r:List Nat) (x:Nat),walkP p x r->x<p.words.length/\∀y∈r,y<p.words.length
 |[],x,hw=>⟨h.last x hw,by simp⟩
 |y::r,x,hw=>by
  obtain⟨h1,h2⟩:=walkP_lt h r y hw.2;refine⟨(h.pairs x y hw.1).1,fun z hz=>?_⟩;rcases zX.1 hz with rfl|hz
  . exact h1
  . exact h2 z hz
theorem runP_lt{p:Prt}(h:Fits p){ps:List Nat}(hr:runP p ps):∀x∈ps,x<p.words.length:=by
 cases ps with
 |nil=>simp
 |cons x r=>
  obtain⟨h1,h2⟩:=walkP_lt h r x hr.2;intro z hz;rcases zX.1 hz with rfl|hz
  . exact h1
  . exact h2 z hz
def readsP(p:Prt)(l:List Wd):Prop:=∃ps,runP p ps/\l.map some=ps.map fun i=>p.words[i]?
section
variable {x y:Prt}
theorem fits_seq(hx:Fits x)(hy:Fits y):Fits (seqC x y):=by
 have e:(seqC x y).words.length=x.words.length+y.words.length:=by simp[seqC]
 refine⟨fun z hz=>?_,fun z hz=>?_,fun a b hab=>?_⟩
 . rw[e];simp only[seqC]at hz;split at hz
   . rcases zN.1 hz with hz|hz
     . have:=hx.first z hz;omega
     . obtain⟨u,hu,rfl⟩:=mem_up.1 hz;have:=hy.first u hu;omega
   . have:=hx.first z hz;omega
 . rw[e];simp only[seqC]at hz;split at hz
   . rcases zN.1 hz with hz|hz
     . have:=hx.last z hz;omega
     . obtain⟨u,hu,rfl⟩:=mem_up.1 hz;have:=hy.last u hu;omega
   . obtain⟨u,hu,rfl⟩:=mem_up.1 hz;have:=hy.last u hu;omega
 . rw[e];simp only[seqC]at hab;rcases zN.1 hab with hab|hab
   . rcases zN.1 hab with hab|hab
     . have:=hx.pairs a b hab;omega
     . obtain⟨u,v,huv,rfl,rfl⟩:=mem_upP.1 hab;have:=hy.pairs u v huv;omega
   . obtain⟨h1,h2⟩:=mem_cross.1 hab;obtain⟨u,hu,rfl⟩:=mem_up.1 h2;have:=hx.last a h1;have:=hy.first u hu
     omega
theorem seq_walk_y(hx:Fits x):∀(r:List Nat) (b:Nat),walkP (seqC x y) (b+x.words.length) r->∃q,r=up x.words.length q/\walkP y b q
 |[],b,h=>by
  refine⟨[],rfl,?_⟩;have h:b+x.words.length∈(seqC x y).last:=h;simp only[seqC]at h;split at h
  . rcases zN.1 h with h|h
    . have:=hx.last _ h;omega
    . obtain⟨u,hu,e⟩:=mem_up.1 h;obtain rfl:u=b:=by omega
      exact hu
  . obtain⟨u,hu,e⟩:=mem_up.1 h;obtain rfl:u=b:=by omega
    exact hu
 |z::r,b,h=>by
  obtain⟨h1,h2⟩:=h;simp only[seqC]at h1;rcases zN.1 h1 with h1|h1
  . rcases zN.1 h1 with h1|h1
    . have:=(hx.pairs _ _ h1).1;omega
    . obtain⟨u,v,huv,e1,e2⟩:=mem_upP.1 h1;obtain rfl:u=b:=by omega
      subst e2;obtain⟨q,rfl,hq⟩:=seq_walk_y hx r v h2;exact⟨v::q,rfl,huv,hq⟩
  . have:=hx.last _ (mem_cross.1 h1).1;omega
theorem seq_walk_x(hx:Fits x)(hy:Fits y):∀(r:List Nat) (a:Nat),a<x.words.length->walkP (seqC x y) a r->(y.empty=true/\walkP x a r)\/∃p b q,r=p++up x.words.length (b::q)/\walkP x a p/\b∈y.first/\walkP y b q
 |[],a,ha,h=>by
  left;have h:a∈(seqC x y).last:=h;simp only[seqC]at h;split at h
  . rename_i he;rcases zN.1 h with h|h
    . exact⟨he,h⟩
    . obtain⟨u,hu,e⟩:=mem_up.1 h;omega
  . obtain⟨u,hu,e⟩:=mem_up.1 h;omega
 |z::r,a,ha,h=>by
  obtain⟨h1,h2⟩:=h;simp only[seqC]at h1;rcases zN.1 h1 with h1|h1
  . rcases zN.1 h1 with h1|h1
    . rcases seq_walk_x hx hy r z (hx.pairs a z h1).2 h2 with⟨he,hw⟩|⟨p,b,q,e,hw,hb,hq⟩
      . exact .inl ⟨he,h1,hw⟩
      . exact .inr ⟨z::p,b,q,by rw[e];rfl,⟨h1,hw⟩,hb,hq⟩
    . obtain⟨u,v,_,e1,_⟩:=mem_upP.1 h1;omega
  . obtain⟨ha2,hz⟩:=mem_cross.1 h1;obtain⟨b,hb,rfl⟩:=mem_up.1 hz;obtain⟨q,rfl,hq⟩:=seq_walk_y hx r b h2;exact .inr ⟨[],b,q,rfl,ha2,hb,hq⟩
theorem seq_walk_up:∀(q:List Nat) (b:Nat),walkP y b q->walkP (seqC x y) (b+x.words.length) (up x.words.length q)
 |[],b,h=>by
  show b+x.words.length∈(seqC x y).last;simp only[seqC];split
  . exact List.mem_append_right _ (mem_up.2 ⟨b,h,rfl⟩)
  . exact mem_up.2 ⟨b,h,rfl⟩
 |v::q,b,h=>⟨by
  simp only[seqC];exact yI _ (List.mem_append_right _ (mem_upP.2 ⟨b,v,h.1,rfl,rfl⟩)),seq_walk_up q v h.2⟩
theorem seq_walk_both:∀(p:List Nat) (a b:Nat) (q:List Nat),walkP x a p->b∈y.first->walkP y b q->walkP (seqC x y) a (p++up x.words.length (b::q))
 |[],a,b,q,h1,h2,h3=>⟨by
  simp only[seqC];exact List.mem_append_right _ (mem_cross.2 ⟨h1,mem_up.2 ⟨b,h2,rfl⟩⟩),seq_walk_up q b h3⟩
 |z::p,a,b,q,h1,h2,h3=>⟨by
  simp only[seqC];exact yI _ (yI _ h1.1),seq_walk_both p z b q h1.2 h2 h3⟩
theorem seq_walk_left:∀(p:List Nat) (a:Nat),y.empty=true->walkP x a p->walkP (seqC x y) a p
 |[],a,he,h=>by
  show a∈(seqC x y).last;simp only[seqC,he,if_true];exact yI _ h
 |z::p,a,he,h=>⟨by
  simp only[seqC];exact yI _ (yI _ h.1),seq_walk_left p z he h.2⟩
theorem seq_run(hx:Fits x)(hy:Fits y)(ps:List Nat):runP (seqC x y) ps↔∃p q,ps=p++up x.words.length q/\runP x p/\runP y q:=by
 constructor
 . intro h;cases ps with
   |nil=>
    have h:(x.empty&&y.empty)=true:=h;rw[Bool.and_eq_true]at h;exact⟨[],[],rfl,h.1,h.2⟩
   |cons a r=>
    obtain⟨h1,h2⟩:=h;have key:a∈x.first\/(x.empty=true/\∃b∈y.first,b+x.words.length=a):=by
     simp only[seqC]at h1;split at h1
     . rename_i he;rcases zN.1 h1 with h1|h1
       . exact .inl h1
       . exact .inr ⟨he,mem_up.1 h1⟩
     . exact .inl h1
    rcases key with ha|⟨he,b,hb,rfl⟩
    . rcases seq_walk_x hx hy r a (hx.first a ha) h2 with⟨he,hw⟩|⟨p,b,q,e,hw,hb,hq⟩
      . exact⟨a::r,[],by simp[up],⟨ha,hw⟩,he⟩
      . exact⟨a::p,b::q,by rw[e];rfl,⟨ha,hw⟩,hb,hq⟩
    . obtain⟨q,rfl,hq⟩:=seq_walk_y hx r b h2;exact⟨[],b::q,rfl,he,hb,hq⟩
 . rintro⟨p,q,rfl,hp,hq⟩;cases p with
   |nil=>
    cases q with
    |nil=>show (x.empty&&y.empty)=true;rw[show x.empty=true from hp,show y.empty=true from hq];rfl
    |cons b q=>
     refine⟨?_,seq_walk_up q b hq.2⟩;simp only[seqC,show x.empty=true from hp,if_true];exact List.mem_append_right _ (mem_up.2 ⟨b,hq.1,rfl⟩)
   |cons a p=>
    have hf:a∈(seqC x y).first:=by
     simp only[seqC];split
     . exact yI _ hp.1
     . exact hp.1
    cases q with
    |nil=>exact⟨hf,by have:=seq_walk_left p a hq hp.2;rw[<- List.append_nil p]at this;exact this⟩
    |cons b q=>exact⟨hf,seq_walk_both p a b q hp.2 hq.1 hq.2⟩
end
theorem words_left{x y:Prt}{ps:List Nat}(h:∀i∈ps,i<x.words.length):ps.map (fun i=>(x.words++y.words)[i]?)=ps.map fun i=>x.words[i]?:=
 yQ (fun i hi=>yH (h i hi))
theorem words_right{x y:Prt}(ps:List Nat):(up x.words.length ps).map (fun i=>(x.words++y.words)[i]?)=ps.map fun i=>y.words[i]?:=by
 rw[up,List.map_map];refine yQ (fun i _=>?_);rw[Function.comp,yM (by omega),Nat.add_sub_cancel]
theorem some_split{l:List Wd}{a b:List (Option Wd)}(h:l.map some=a++b):∃l1 l2,l=l1++l2/\l1.map some=a/\l2.map some=b:=by
 refine⟨l.take a.length,l.drop a.length,(List.take_append_drop _ _).symm,?_,?_⟩
 . rw[List.map_take,h,List.take_left' rfl]
 . rw[List.map_drop,h,List.drop_left' rfl]
theorem seq_reads{x y:Prt}(hx:Fits x)(hy:Fits y)(l:List Wd):readsP (seqC x y) l↔∃a b,l=a++b/\readsP x a/\readsP y b:=by
 constructor
 . rintro⟨ps,hr,hl⟩;obtain⟨p,q,rfl,hp,hq⟩:=(seq_run hx hy ps).1 hr;rw[yP,show (seqC x y).words=x.words++y.words from rfl,words_left (runP_lt hx hp),words_right]at hl;obtain⟨l1,l2,rfl,h1,h2⟩:=some_split hl;exact⟨l1,l2,rfl,⟨p,hp,h1⟩,⟨q,hq,h2⟩⟩
 . rintro⟨a,b,rfl,⟨p,hp,h1⟩,⟨q,hq,h2⟩⟩;refine⟨p++up x.words.length q,(seq_run hx hy _).2 ⟨p,q,rfl,hp,hq⟩,?_⟩;rw[yP,yP,show (seqC x y).words=x.words++y.words from rfl,words_left (runP_lt hx hp),words_right,h1,h2]
theorem fits_alt{x y:Prt}(hx:Fits x)(hy:Fits y):Fits (altC x y):=by
 have e:(altC x y).words.length=x.words.length+y.words.length:=by simp[altC]
 refine⟨fun z hz=>?_,fun z hz=>?_,fun a b hab=>?_⟩
 . rw[e];rcases zN.1 hz with hz|hz
   . have:=hx.first z hz;omega
   . obtain⟨u,hu,rfl⟩:=mem_up.1 hz;have:=hy.first u hu;omega
 . rw[e];rcases zN.1 hz with hz|hz
   . have:=hx.last z hz;omega
   . obtain⟨u,hu,rfl⟩:=mem_up.1 hz;have:=hy.last u hu;omega
 . rw[e];rcases zN.1 hab with hab|hab
   . have:=hx.pairs a b hab;omega
   . obtain⟨u,v,huv,rfl,rfl⟩:=mem_upP.1 hab;have:=hy.pairs u v huv;omega
theorem alt_walk_x{x y:Prt}(hx:Fits x):∀(r:List Nat) (a:Nat),a<x.words.length->walkP (altC x y) a r->walkP x a r
 |[],a,ha,h=>by
  rcases zN.1 (show a∈x.last++up x.words.length y.last from h)with h|h
  . exact h
  . obtain⟨u,hu,e⟩:=mem_up.1 h;omega
 |z::r,a,ha,h=>by
  rcases zN.1 (show (a,z)∈x.pairs++upP x.words.length y.pairs from h.1)with h1|h1
  . exact⟨h1,alt_walk_x hx r z (hx.pairs a z h1).2 h.2⟩
  . obtain⟨u,v,_,e,_⟩:=mem_upP.1 h1;omega
theorem alt_walk_y{x y:Prt}(hx:Fits x):∀(r:List Nat) (b:Nat),walkP (altC x y) (b+x.words.length) r->∃q,r=up x.words.length q/\walkP y b q
 |[],b,h=>by
  rcases zN.1 (show b+x.words.length∈x.last++up x.words.length y.last from h)with h|h
  . have:=hx.last _ h;omega
  . obtain⟨u,hu,e⟩:=mem_up.1 h;obtain rfl:u=b:=by omega
    exact⟨[],rfl,hu⟩
 |z::r,b,h=>by
  rcases zN.1 (show (b+x.words.length,z)∈x.pairs++upP x.words.length y.pairs from h.1)with h1|h1
  . have:=(hx.pairs _ _ h1).1;omega
  . obtain⟨u,v,huv,e,rfl⟩:=mem_upP.1 h1;obtain rfl:u=b:=by omega
    obtain⟨q,rfl,hq⟩:=alt_walk_y hx r v h.2;exact⟨v::q,rfl,huv,hq⟩
theorem alt_walk_l{x y:Prt}:∀(r:List Nat) (a:Nat),walkP x a r->walkP (altC x y) a r
 |[],_,h=>yI _ h
 |z::r,_,h=>⟨yI _ h.1,alt_walk_l r z h.2⟩
theorem alt_walk_r{x y:Prt}:∀(q:List Nat) (b:Nat),walkP y b q->walkP (altC x y) (b+x.words.length) (up x.words.length q)
 |[],b,h=>List.mem_append_right _ (mem_up.2 ⟨b,h,rfl⟩)
 |v::q,b,h=>⟨List.mem_append_right _ (mem_upP.2 ⟨b,v,h.1,rfl,rfl⟩),alt_walk_r q v h.2⟩
theorem alt_reads{x y:Prt}(hx:Fits x)(l:List Wd):readsP (altC x y) l↔readsP x l\/readsP y l:=by
 constructor
 . rintro⟨ps,hr,hl⟩;rw[show (altC x y).words=x.words++y.words from rfl]at hl;cases ps with
   |nil=>
    have h:(x.empty||y.empty)=true:=hr;rw[Bool.or_eq_true]at h;rcases h with h|h
    . exact .inl ⟨[],h,hl⟩
    . exact .inr ⟨[],h,hl⟩
   |cons a r=>
    rcases zN.1 (show a∈x.first++up x.words.length y.first from hr.1)with h1|h1
    . have hw:=alt_walk_x hx r a (hx.first a h1) hr.2;refine .inl ⟨a::r,⟨h1,hw⟩,?_⟩;rw[hl,words_left (runP_lt hx (show runP x (a::r)from⟨h1,hw⟩))]
    . obtain⟨b,hb,rfl⟩:=mem_up.1 h1;obtain⟨q,rfl,hq⟩:=alt_walk_y hx r b hr.2;refine .inr ⟨b::q,⟨hb,hq⟩,?_⟩;rw[hl];exact words_right (b::q)
 . rintro (⟨ps,hr,hl⟩|⟨ps,hr,hl⟩)
   . refine⟨ps,?_,?_⟩
     . cases ps with
       |nil=>show (x.empty||y.empty)=true;rw[show x.empty=true from hr];rfl
       |cons a r=>exact⟨yI _ hr.1,alt_walk_l r a hr.2⟩
     . rw[show (altC x y).words=x.words++y.words from rfl,words_left (runP_lt hx hr),hl]
   . refine⟨up x.words.length ps,?_,?_⟩
     . cases ps with
       |nil=>show (x.empty||y.empty)=true;rw[show y.empty=true from hr,Bool.or_true]
       |cons a r=>exact⟨List.mem_append_right _ (mem_up.2 ⟨a,hr.1,rfl⟩),alt_walk_r r a hr.2⟩
     . rw[show (altC x y).words=x.words++y.words from rfl,words_right,hl]
theorem fits_loop{x:Prt}(hx:Fits x):Fits (loopC x):=
 ⟨hx.first,hx.last,fun a b hab=>by
  rcases zN.1 (show (a,b)∈x.pairs++cross x.last x.first from hab)with h|h
  . exact hx.pairs a b h
  . obtain⟨h1,h2⟩:=mem_cross.1 h;exact⟨hx.last a h1,hx.first b h2⟩⟩
theorem fits_may{x:Prt}(hx:Fits x):Fits (mayC2 x):=⟨hx.first,hx.last,hx.pairs⟩
theorem loop_walk{x:Prt}:∀(r:List Nat) (a:Nat),walkP (loopC x) a r->∃(r1:List Nat) (qs:List (List Nat)),r=r1++qs.flatten/\walkP x a r1/\∀q∈qs,q≠[]/\runP x q
 |[],a,h=>⟨[],[],rfl,h,by simp⟩
 |z::r,a,h=>by
  obtain⟨r1,qs,rfl,hw,hq⟩:=loop_walk r z h.2;rcases zN.1 (show (a,z)∈x.pairs++cross x.last x.first from h.1)with h1|h1
  . exact⟨z::r1,qs,rfl,⟨h1,hw⟩,hq⟩
  . obtain⟨h2,h3⟩:=mem_cross.1 h1;refine⟨[],(z::r1)::qs,by simp,h2,fun q hq2=>?_⟩;rcases zX.1 hq2 with rfl|hq2
    . exact⟨by simp,h3,hw⟩
    . exact hq q hq2
theorem loop_join{x:Prt}(qs:List (List Nat)):(∀q∈qs,q≠[]/\runP x q)->∀(r1:List Nat) (a:Nat),walkP x a r1->walkP (loopC x) a (r1++qs.flatten):=by
 induction qs with
 |nil=>
  intro _ r1;induction r1 with
  |nil=>intro a h;exact h
  |cons z r1 ih=>intro a h;exact⟨yI _ h.1,ih z h.2⟩
 |cons q qs ih=>
  intro hq r1;have h1:=hq q (zL ..);have ih:=ih (fun q hq2=>hq q (zP _ hq2));induction r1 with
  |nil=>
   intro a h;cases q with
   |nil=>exact absurd rfl h1.1
   |cons b q=>exact⟨List.mem_append_right _ (mem_cross.2 ⟨h,h1.2.1⟩),ih q b h1.2.2⟩
  |cons z r1 ih2=>intro a h;exact⟨yI _ h.1,ih2 z h.2⟩
theorem pieces_read{x:Prt}:∀(qs:List (List Nat)) (l:List Wd),(∀q∈qs,q≠[]/\runP x q)->l.map some=qs.flatten.map (fun i=>x.words[i]?)->starL (readsP x) l
 |[],l,_,h=>⟨[],by simpa using h,by simp⟩
 |q::qs,l,hq,h=>by
  rw[List.flatten_cons,yP]at h;obtain⟨l1,l2,rfl,h1,h2⟩:=some_split h;obtain⟨ls,rfl,hl⟩:=pieces_read qs l2 (fun q hq2=>hq q (zP _ hq2)) h2;refine⟨l1::ls,by simp,fun y hy=>?_⟩;rcases zX.1 hy with rfl|hy
  . exact⟨q,(hq q (zL ..)).2,h1⟩
  . exact hl y hy
theorem pieces_run{x:Prt}:∀(ls:List (List Wd)),(∀y∈ls,readsP x y)->∃qs:List (List Nat),(∀q∈qs,q≠[]/\runP x q)/\ls.flatten.map some=qs.flatten.map (fun i=>x.words[i]?)
 |[],_=>⟨[],by simp,by simp⟩
 |y::ls,h=>by
  obtain⟨qs,h1,h2⟩:=pieces_run ls (fun z hz=>h z (zP _ hz));obtain⟨ps,hr,hl⟩:=h y (zL ..);cases ps with
  |nil=>
   have:y=[]:=by simpa using hl
   subst this;exact⟨qs,h1,by simpa using h2⟩
  |cons a r=>
   refine⟨(a::r)::qs,fun q hq=>?_,by rw[List.flatten_cons,List.flatten_cons,yP,yP,hl,h2]⟩;rcases zX.1 hq with rfl|hq
   . exact⟨by simp,hr⟩
   . exact h1 q hq
theorem loop_reads{x:Prt}(l:List Wd):readsP (loopC x) l↔plusL (readsP x) l:=by
 constructor
 . rintro⟨ps,hr,hl⟩;cases ps with
   |nil=>
    have:l=[]:=by simpa using hl
    subst this;exact⟨[],[],rfl,⟨[],hr,rfl⟩,[],rfl,by simp⟩
   |cons a r=>
    obtain⟨r1,qs,rfl,hw,hq⟩:=loop_walk r a hr.2;rw[show a::(r1++qs.flatten)=(a::r1)++qs.flatten from rfl,yP]at hl;obtain⟨l1,l2,rfl,h1,h2⟩:=some_split hl;exact⟨l1,l2,rfl,⟨a::r1,⟨hr.1,hw⟩,h1⟩,pieces_read qs l2 hq h2⟩
 . rintro⟨a,b,rfl,⟨ps,hr,hl⟩,ls,rfl,hls⟩;obtain⟨qs,h1,h2⟩:=pieces_run ls hls;refine⟨ps++qs.flatten,?_,by rw[yP,yP,h2];exact congrArg (·++_) hl⟩;cases ps with
   |nil=>
    cases qs with
    |nil=>exact hr
    |cons q qs=>
     have hq:=h1 q (zL ..);cases q with
     |nil=>exact absurd rfl hq.1
     |cons c q=>exact⟨hq.2.1,loop_join qs (fun q hq2=>h1 q (zP _ hq2)) q c hq.2.2⟩
   |cons c r=>exact⟨hr.1,loop_join qs h1 r c hr.2⟩
theorem may_walk{x:Prt}:∀(r:List Nat) (a:Nat),walkP (mayC2 x) a r↔walkP x a r
 |[],_=>Iff.rfl
 |z::r,_=>and_congr Iff.rfl (may_walk r z)
theorem may_reads{x:Prt}(l:List Wd):readsP (mayC2 x) l↔l=[]\/readsP x l:=by
 constructor
 . rintro⟨ps,hr,hl⟩;cases ps with
   |nil=>exact .inl (by simpa using hl)
   |cons a r=>exact .inr ⟨a::r,⟨hr.1,(may_walk r a).1 hr.2⟩,hl⟩
 . rintro (rfl|⟨ps,hr,hl⟩)
   . exact⟨[],rfl,rfl⟩
   . refine⟨ps,?_,hl⟩;cases ps with
     |nil=>rfl
     |cons a r=>exact⟨hr.1,(may_walk r a).2 hr.2⟩
theorem star_plus{f:List Wd->Prop}(l:List Wd):(l=[]\/plusL f l)↔starL f l:=by
 constructor
 . rintro (rfl|⟨a,b,rfl,ha,ls,rfl,hls⟩)
   . exact⟨[],rfl,by simp⟩
   . refine⟨a::ls,by simp,fun x hx=>?_⟩;rcases zX.1 hx with rfl|hx
     . exact ha
     . exact hls x hx
 . rintro⟨ls,rfl,hls⟩;cases ls with
   |nil=>exact .inl rfl
   |cons a ls=>exact .inr ⟨a,ls.flatten,by simp,hls a (zL ..),ls,rfl,fun x hx=>hls x (zP _ hx)⟩
theorem fits_none(e:Bool):Fits (prt0 e):=⟨by simp[prt0],by simp[prt0],by simp[prt0]⟩
theorem fold_seq:∀(ps:List Prt) (x:Prt),Fits x->(∀p∈ps,Fits p)->Fits (ps.foldl seqC x)/\∀l,readsP (ps.foldl seqC x) l↔∃a b,l=a++b/\readsP x a/\seqL (ps.map readsP) b
 |[],x,hx,_=>⟨hx,fun l=>⟨fun h=>⟨l,[],by simp,h,rfl⟩,by rintro⟨a,b,rfl,h,rfl⟩;simpa using h⟩⟩
 |p::ps,x,hx,hp=>by
  have h1:=hp p (zL ..);obtain⟨h2,h3⟩:=fold_seq ps (seqC x p) (fits_seq hx h1) (fun q hq=>hp q (zP _ hq));refine⟨h2,fun l=>?_⟩;rw[yN,h3 l];constructor
  . rintro⟨a,b,rfl,ha,hb⟩;obtain⟨c,d,rfl,hc,hd⟩:=(seq_reads hx h1 a).1 ha;exact⟨c,d++b,by simp,hc,d,b,rfl,hd,hb⟩
  . rintro⟨a,b,rfl,ha,c,d,rfl,hc,hd⟩;exact⟨a++c,d,by simp,(seq_reads hx h1 _).2 ⟨a,c,rfl,ha,hc⟩,hd⟩
theorem fold_alt:∀(ps:List Prt) (x:Prt),Fits x->(∀p∈ps,Fits p)->Fits (ps.foldl altC x)/\∀l,readsP (ps.foldl altC x) l↔readsP x l\/altL (ps.map readsP) l
 |[],x,hx,_=>⟨hx,fun l=>⟨fun h=>.inl h,by
  rintro (h|⟨f,hf,_⟩)
  . exact h
  . simp at hf⟩⟩
 |p::ps,x,hx,hp=>by
  have h1:=hp p (zL ..);obtain⟨h2,h3⟩:=fold_alt ps (altC x p) (fits_alt hx h1) (fun q hq=>hp q (zP _ hq));refine⟨h2,fun l=>?_⟩;rw[yN,h3 l,alt_reads hx];constructor
  . rintro ((h|h)|⟨f,hf,h⟩)
    . exact .inl h
    . exact .inr ⟨readsP p,by simp,h⟩
    . exact .inr ⟨f,zP _ hf,h⟩
  . rintro (h|⟨f,hf,h⟩)
    . exact .inl (.inl h)
    . rcases zX.1 hf with rfl|hf
      . exact .inl (.inr h)
      . exact .inr ⟨f,hf,h⟩
theorem reads_none(l:List Wd):¬readsP (prt0 false) l:=by
 rintro⟨ps,hr,_⟩;cases ps with
 |nil=>cases hr
 |cons a r=>exact absurd hr.1 (by simp[prt0])
theorem reads_nil(l:List Wd):readsP (prt0 true) l↔l=[]:=by
 constructor
 . rintro⟨ps,hr,hl⟩;cases ps with
   |nil=>simpa using hl
   |cons a r=>exact absurd hr.1 (by simp[prt0])
 . rintro rfl;exact⟨[],rfl,rfl⟩
theorem map_ext{f g:Pt->List Wd->Prop}{kids:List Pt}(h:∀x∈kids,∀l,f x l↔g x l):kids.map f=kids.map g:=
 yQ (fun x hx=>funext (fun l=>propext (h x hx l)))
theorem prtOf_reads:∀t:Pt,Fits (prtOf t)/\∀l,readsP (prtOf t) l↔willL t l:=by
 refine Pt.ind (fun k w kids ih=>?_);have hf:∀p∈kids.map prtOf,Fits p:=fun p hp=>by
  obtain⟨x,hx,rfl⟩:=zR.1 hp;exact(ih x hx).1
 have hm:(kids.map prtOf).map readsP=kids.map willL:=by
  rw[List.map_map];exact map_ext (fun x hx l=>(ih x hx).2 l)
 rw[prtOf_mk,willL_mk];obtain⟨s1,s2⟩:=fold_seq (kids.map prtOf) (prt0 true) (fits_none _) hf;obtain⟨a1,a2⟩:=fold_alt (kids.map prtOf) (prt0 false) (fits_none _) hf;rw[hm]at s2 a2;have a3:readsP ((kids.map prtOf).foldl altC (prt0 false))=altL (kids.map willL):=funext (fun l=>propext ((a2 l).trans ⟨fun h=>h.resolve_left (reads_none l),.inr⟩));unfold kindC;simp only[kindL];by_cases h1:k=1
 . simp only[h1,if_true];refine⟨⟨by simp,by simp,by simp⟩,fun l=>⟨?_,?_⟩⟩
   . rintro⟨ps,hr,hl⟩;cases ps with
     |nil=>cases hr
     |cons a r=>
      obtain⟨ha,hw⟩:=hr;have ha:a=0:=by simpa using ha
      subst ha;cases r with
      |nil=>
       simp only[List.map_cons,List.map_nil,List.getElem?_cons_zero]at hl;cases l with
       |nil=>simp at hl
       |cons u l=>simpa using hl
      |cons z r=>exact absurd hw.1 (by simp)
   . rintro rfl;exact⟨[0],⟨by simp,by simp[walkP]⟩,rfl⟩
 . simp only[h1,if_false];by_cases h2:k=2
   . simp only[h2,if_true];refine⟨s1,fun l=>(s2 l).trans ⟨?_,fun h=>⟨[],l,rfl,(reads_nil []).2 rfl,h⟩⟩⟩;rintro⟨a,b,rfl,ha,hb⟩;rw[(reads_nil a).1 ha];exact hb
   . simp only[h2,if_false];by_cases h4:k=4
     . simp only[h4,if_true];refine⟨fits_may (fits_loop a1),fun l=>?_⟩;rw[may_reads,loop_reads,a3];exact star_plus l
     . simp only[h4,if_false];by_cases h5:k=5
       . simp only[h5,if_true];refine⟨fits_loop a1,fun l=>?_⟩;rw[loop_reads,a3]
       . simp only[h5,if_false];by_cases h6:k=6
         . simp only[h6,if_true];refine⟨fits_may a1,fun l=>?_⟩;rw[may_reads,a3]
         . simp only[h6,if_false];exact⟨a1,fun l=>by rw[a3]⟩
end Go.Proofs.YtdalcipmpelifaaGreatDoor
