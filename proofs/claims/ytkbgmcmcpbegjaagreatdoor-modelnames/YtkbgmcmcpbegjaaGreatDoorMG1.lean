/- VMath, QMath, VIs, VAre. -/
import Derived.Test.YtkbgmcmcpbegjaaGreatDoorMG0
import Derived.Test.YtkbgmcmcpbegjaaGreatDoorRows
import Derived.Lib.Bytealg
import Derived.Sort.Statements
import Derived.Maps.OwnSet
import Derived.WalkSpells
import Derived.WalkLawsBesides
import Derived.WalkSmall
import Derived.BigQuiet
import Derived.Deep.QuietTactic
set_option maxRecDepth 100000
namespace Go.Proofs.YtkbgmcmcpbegjaaGreatDoor
def mayN(n:Nat):Bool:=(decide (97<=n)&&decide (n<=122))||(decide (48<=n)&&decide (n<=57))||decide (n=45)||decide (n=58)
abbrev mayB(c:UInt8):Bool:=mayN c.toNat
theorem mayN_yes{n:Nat}(h:n=45\/n=58\/(48<=n/\n<=57)\/(97<=n/\n<=122)):mayN n=true:=by
 simp only[mayN,Bool.or_eq_true,Bool.and_eq_true,decide_eq_true_iff];omega
theorem mayN_no{n:Nat}(h:¬(n=45\/n=58\/(48<=n/\n<=57)\/(97<=n/\n<=122))):mayN n=false:=by
 rw[Bool.eq_false_iff];simp only[mayN,ne_eq,Bool.or_eq_true,Bool.and_eq_true,decide_eq_true_iff];omega
theorem byte_cases(n:Nat):n<45\/n=45\/(45<n/\n<48)\/(48<=n/\n<=57)\/n=58\/(58<n/\n<97)\/(97<=n/\n<=122)\/122<n:=by omega
def isW(l:List UInt8):Bool:=decide (1<=l.length)&&decide (l.length<=16)&&l.all mayB
theorem isW_len{l:List UInt8}(h:isW l=true):1<=l.length/\l.length<=16:=by
 simp only[isW,Bool.and_eq_true,decide_eq_true_eq]at h;exact h.1
def Once(ws:List (List UInt8)):Prop:=∀(i j:Nat) (s:List UInt8),ws[i]?=some s->ws[j]?=some s->i=j
def AllW(ws:List (List UInt8)):Prop:=∀s∈ws,isW s=true
theorem snoc_at{ws:List (List UInt8)}{s t:List UInt8}{i:Nat}(h:(ws++[t])[i]?=some s):ws[i]?=some s\/(i=ws.length/\s=t):=by
 by_cases hi:i<ws.length
 . left;rwa[yH hi]at h
 . right;rw[yO (by omega)]at h;by_cases h0:i-ws.length=0
   . rw[h0]at h;simp at h;exact⟨by omega,h.symm⟩
   . obtain⟨k,hk⟩:∃k,i-ws.length=k+1:=⟨i-ws.length-1,by omega⟩
     rw[hk]at h;simp at h
theorem at_last(ws:List (List UInt8))(t:List UInt8):(ws++[t])[ws.length]?=some t:=by simp
theorem Once.snoc{ws:List (List UInt8)}{t:List UInt8}(h:Once ws)(ht:t∉ws):Once (ws++[t]):=by
 intro i j s hi hj;rcases snoc_at hi with h1|⟨h1,e1⟩<;>rcases snoc_at hj with h2|⟨h2,e2⟩
 . exact h i j s h1 h2
 . subst e2;exact absurd (zC h1) ht
 . subst e1;exact absurd (zC h2) ht
 . omega
theorem AllW.snoc{ws:List (List UInt8)}{t:List UInt8}(h:AllW ws)(ht:isW t=true):AllW (ws++[t]):=by
 intro s hs;rcases zM.1 hs with hs|hs
 . exact h s hs
 . rw[zK]at hs;rw[hs];exact ht
def PutR(ws:List (List UInt8))(s:List UInt8)(ws':List (List UInt8))(k er:Nat):Prop:=
 (isW s=false/\ws'=ws/\k=0/\er=1)\/(isW s=true/\ws[k]?=some s/\ws'=ws/\er=0)\/(isW s=true/\s∉ws/\ws'=ws++[s]/\k=ws.length/\er=0)
def IdR(ws:List (List UInt8))(s:List UInt8)(k er:Nat):Prop:=(s∉ws/\k=0/\er=3)\/(ws[k]?=some s/\er=0)
theorem PutR.one{ws ws1 ws2:List (List UInt8)}{s:List UInt8}{k1 k2 e1 e2:Nat}(h:Once ws)(h1:PutR ws s ws1 k1 e1)(h2:PutR ws s ws2 k2 e2):ws1=ws2/\k1=k2/\e1=e2:=by
 rcases h1 with⟨a1,a2,a3,a4⟩|⟨a1,a2,a3,a4⟩|⟨a1,a2,a3,a4,a5⟩<;>rcases h2 with⟨b1,b2,b3,b4⟩|⟨b1,b2,b3,b4⟩|⟨b1,b2,b3,b4,b5⟩
 . subst a2 b2 a3 b3 a4 b4;exact⟨rfl,rfl,rfl⟩
 . rw[a1]at b1;cases b1
 . rw[a1]at b1;cases b1
 . rw[a1]at b1;cases b1
 . exact⟨by rw[a3,b3],h _ _ _ a2 b2,by rw[a4,b4]⟩
 . exact absurd (zC a2) b2
 . rw[a1]at b1;cases b1
 . exact absurd (zC b2) a2
 . exact⟨by rw[a3,b3],by rw[a4,b4],by rw[a5,b5]⟩
theorem IdR.one{ws:List (List UInt8)}{s:List UInt8}{k1 k2 e1 e2:Nat}(h:Once ws)(h1:IdR ws s k1 e1)(h2:IdR ws s k2 e2):k1=k2/\e1=e2:=by
 rcases h1 with⟨a1,a2,a3⟩|⟨a1,a2⟩<;>rcases h2 with⟨b1,b2,b3⟩|⟨b1,b2⟩
 . omega
 . exact absurd (zC b1) a1
 . exact absurd (zC a1) b1
 . exact⟨h _ _ _ a1 b1,by omega⟩
theorem PutR.once{ws ws':List (List UInt8)}{s:List UInt8}{k e:Nat}(h:PutR ws s ws' k e)(ho:Once ws):Once ws':=by
 rcases h with⟨_,rfl,_⟩|⟨_,_,rfl,_⟩|⟨_,h2,rfl,_⟩
 . exact ho
 . exact ho
 . exact ho.snoc h2
theorem PutR.len{ws ws':List (List UInt8)}{s:List UInt8}{k e:Nat}(h:PutR ws s ws' k e):ws'.length<=ws.length+1:=by
 rcases h with⟨_,rfl,_⟩|⟨_,_,rfl,_⟩|⟨_,h2,rfl,_⟩<;>simp
theorem PutR.has{ws ws':List (List UInt8)}{s:List UInt8}{k e:Nat}(h:PutR ws s ws' k e):(e=0/\isW s=true/\ws'[k]?=some s)\/(e=1/\isW s=false):=by
 rcases h with⟨h1,_,_,h4⟩|⟨h1,h2,rfl,h4⟩|⟨h1,h2,rfl,h4,h5⟩
 . exact .inr ⟨h4,h1⟩
 . exact .inl ⟨h4,h1,h2⟩
 . exact .inl ⟨h5,h1,by rw[h4];exact at_last _ _⟩
theorem PutR.mem{ws ws':List (List UInt8)}{s t:List UInt8}{k e:Nat}(h:PutR ws s ws' k e):t∈ws'↔t∈ws\/(t=s/\isW s=true):=by
 rcases h with⟨h1,rfl,_,h4⟩|⟨h1,h2,rfl,h4⟩|⟨h1,h2,rfl,h4,h5⟩
 . rw[h1];simp
 . constructor
   . exact .inl
   . rintro (h|⟨rfl,_⟩)
     . exact h
     . exact zC h2
 . simp[h1]
abbrev less(a b:List UInt8):Bool:=Op.bytesLess a b
theorem less_irrefl:∀a:List UInt8,less a a=false
 |[]=>rfl
 |a::xs=>by
  have:=less_irrefl xs;simp only[less,Op.bytesLess]at this ⊢;simp[this]
theorem less_cases:∀(a b:List UInt8),less a b=false->less b a=false->a=b
 |[],[],_,_=>rfl
 |[],b::bs,h,_=>by simp[less,Op.bytesLess]at h
 |a::xs,[],_,h=>by simp[less,Op.bytesLess]at h
 |a::xs,b::bs,h1,h2=>by
  simp only[less,Op.bytesLess,Bool.or_eq_false_iff,decide_eq_false_iff_not,Bool.and_eq_false_iff,beq_eq_false_iff_ne]at h1 h2;have hab:a=b:=by
   have e1:=h1.1;have e2:=h2.1;rw[UInt8.lt_iff_toNat_lt]at e1 e2;exact UInt8.toNat_inj.1 (by omega)
  subst hab;rw[less_cases xs bs (by rcases h1.2 with h|h;exact absurd rfl h;exact h) (by rcases h2.2 with h|h;exact absurd rfl h;exact h)]
theorem less_trans:∀(a b c:List UInt8),less a b=true->less b c=true->less a c=true
 |[],_,[],_,h=>by cases ‹List UInt8› <;>simp[less,Op.bytesLess]at h
 |[],_,c::cs,_,_=>by simp[less,Op.bytesLess]
 |a::xs,[],_,h,_=>by simp[less,Op.bytesLess]at h
 |a::xs,b::bs,[],_,h=>by simp[less,Op.bytesLess]at h
 |a::xs,b::bs,c::cs,h1,h2=>by
  simp only[less,Op.bytesLess,Bool.or_eq_true,decide_eq_true_iff,Bool.and_eq_true,beq_iff_eq]at h1 h2 ⊢;rw[UInt8.lt_iff_toNat_lt]at h1 h2 ⊢;rcases h1 with h1|⟨rfl,h1⟩
  . rcases h2 with h2|⟨rfl,h2⟩
    . left;omega
    . left;exact h1
  . rcases h2 with h2|⟨rfl,h2⟩
    . left;exact h2
    . exact .inr ⟨rfl,less_trans xs bs cs h1 h2⟩
theorem less_asymm{a b:List UInt8}(h:less a b=true):less b a=false:=by
 cases hb:less b a with
 |false=>rfl
 |true=>have:=less_trans a b a h hb;rw[less_irrefl]at this;cases this
abbrev wordAt(ws:List (List UInt8))(i:Nat):List UInt8:=ws.getD i []
theorem at_wordAt{ws:List (List UInt8)}{i:Nat}(h:i<ws.length):ws[i]?=some (wordAt ws i):=by simp[wordAt,List.getD,List.getElem?_eq_getElem h]
def Sorts(ws:List (List UInt8))(is:List Nat):Prop:=is.Perm (List.range ws.length)/\is.Pairwise (fun i j=>less (wordAt ws i) (wordAt ws j)=true)
theorem eq_of_rising{l1 l2:List (List UInt8)}(hp:l1.Perm l2)(h1:l1.Pairwise (fun a b=>less a b=true))(h2:l2.Pairwise (fun a b=>less a b=true)):l1=l2:=by
 induction l1 generalizing l2 with
 |nil=>exact(List.nil_perm.1 hp).symm
 |cons a l1 ih=>
  cases l2 with
  |nil=>exact absurd hp.length_eq (by simp)
  |cons b l2=>
   rw[List.pairwise_cons]at h1 h2;have hab:a=b:=by
    have ha:a∈b::l2:=hp.mem_iff.1 (by simp);have hb:b∈a::l1:=hp.mem_iff.2 (by simp);rcases yB.1 ha with e|ha
    . exact e
    . rcases yB.1 hb with e|hb
      . exact e.symm
      . have:=less_asymm (h1.1 b hb);rw[h2.1 a ha]at this;cases this
   subst hab;rw[ih (List.Perm.cons_inv hp) h1.2 h2.2]
theorem Sorts.words{ws:List (List UInt8)}{is:List Nat}(h:Sorts ws is):(is.map (wordAt ws)).Perm ws/\(is.map (wordAt ws)).Pairwise (fun a b=>less a b=true):=by
 refine⟨?_,List.pairwise_map.2 h.2⟩;have:=h.1.map (wordAt ws);have e:(List.range ws.length).map (wordAt ws)=ws:=by
  apply List.ext_getElem?;intro i;rw[zI];by_cases hi:i<ws.length
  . rw[at_wordAt hi,yQ hi];rfl
  . rw[yE (by simp;omega),yE (by omega)];rfl
 rwa[e]at this
theorem Sorts.len{ws:List (List UInt8)}{is:List Nat}(h:Sorts ws is):is.length=ws.length:=by
 have:=h.1.length_eq;simpa using this
theorem Sorts.lt{ws:List (List UInt8)}{is:List Nat}(h:Sorts ws is){i:Nat}(hi:i∈is):i<ws.length:=by
 have:=h.1.mem_iff.1 hi;simpa using this
theorem Sorts.one{ws:List (List UInt8)}{is js:List Nat}(ho:Once ws)(h1:Sorts ws is)(h2:Sorts ws js):is=js:=by
 obtain⟨p1,q1⟩:=h1.words;obtain⟨p2,q2⟩:=h2.words;have e:=eq_of_rising (p1.trans p2.symm) q1 q2;apply List.ext_getElem?;intro i;have ei:(is.map (wordAt ws))[i]?=(js.map (wordAt ws))[i]?:=by rw[e]
 rw[zI,zI]at ei;cases ha:is[i]? with
 |none=>
  rw[ha]at ei;cases hb:js[i]? with
  |none=>rfl
  |some y=>rw[hb]at ei;simp at ei
 |some x=>
  rw[ha]at ei;cases hb:js[i]? with
  |none=>rw[hb]at ei;simp at ei
  |some y=>
   rw[hb]at ei;simp only[Option.map_some,Option.some.injEq]at ei;rw[ho x y _ (at_wordAt (h1.lt (zC ha))) (by rw[ei];exact at_wordAt (h2.lt (zC hb)))]
end Go.Proofs.YtkbgmcmcpbegjaaGreatDoor
namespace Go.Proofs.YtkbgmcmcpbegjaaGreatDoor
open Go.RowKit
structure Vt where
 kind:Int
 word:List UInt8
 val:Value
 kids:List Vt
structure Pt where
 kind:Int
 word:List UInt8
 kids:List Pt
theorem Vt.ind{P:Vt->Prop}(h:∀k w v kids,(∀x∈kids,P x)->P ⟨k,w,v,kids⟩):∀t,P t
 |⟨k,w,v,kids⟩=>h k w v kids (fun x _=>Vt.ind h x)
theorem Pt.ind{P:Pt->Prop}(h:∀k w kids,(∀x∈kids,P x)->P ⟨k,w,kids⟩):∀t,P t
 |⟨k,w,kids⟩=>h k w kids (fun x _=>Pt.ind h x)
def Vt.pt:Vt->Pt
 |⟨k,w,_,l⟩=>⟨k,w,l.map Vt.pt⟩
theorem Vt.pt_mk(k:Int)(w:List UInt8)(v:Value)(l:List Vt):Vt.pt ⟨k,w,v,l⟩=⟨k,w,l.map Vt.pt⟩:=by rw[Vt.pt]
def formedP(k:Int)(w:List UInt8)(n:Nat):Bool:=
 if k=1 then decide (n=0)&&isW w else if k=2\/k=3 then decide (2<=n)&&w.isEmpty else if k=4\/k=5\/k=6 then decide (n=1)&&w.isEmpty else false
def plP:Nat->Pt->Nat
 |0,_=>25
 |d+1,⟨k,w,l⟩=>if formedP k w l.length then (if k=1 then 1 else min 25 (l.map (plP d)).sum)else 25
def leaves:Pt->Nat
 |⟨k,_,l⟩=>if k=1 then 1 else (l.map leaves).sum
theorem leaves_mk(k:Int)(w:List UInt8)(l:List Pt):leaves ⟨k,w,l⟩=if k=1 then 1 else (l.map leaves).sum:=by rw[leaves]
def shapedP:Nat->Pt->Bool
 |0,_=>false
 |d+1,⟨k,w,l⟩=>formedP k w l.length&&decide (l.length<=24)&&l.all (shapedP d)
def mayP(t:Pt):Bool:=shapedP 12 t&&decide (leaves t<=24)
theorem sum_ge{f:Pt->Nat}{l:List Pt}{x:Pt}(h:x∈l):f x<=(l.map f).sum:=by
 induction l with
 |nil=>cases h
 |cons y l ih=>
  rw[List.map_cons,List.sum_cons];rcases yB.1 h with rfl|h
  . omega
  . have:=ih h;omega
theorem sum_len{f:Pt->Nat}{l:List Pt}(h:∀x∈l,1<=f x):l.length<=(l.map f).sum:=by
 induction l with
 |nil=>simp
 |cons y l ih=>
  rw[List.map_cons,List.sum_cons,yG];have h1:=h y (zL ..);have h2:=ih (fun x hx=>h x (zP _ hx));omega
theorem formed_kids{k:Int}{w:List UInt8}{n:Nat}(h:formedP k w n=true)(h1:k≠1):1<=n:=by
 rw[formedP,if_neg h1]at h;split at h
 . simp at h;omega
 . split at h
   . simp at h;omega
   . cases h
theorem formed_word{w:List UInt8}{n:Nat}(h:formedP 1 w n=true):n=0:=by
 simp[formedP]at h;exact h.1
theorem plP_pos:∀(d:Nat) (t:Pt),1<=plP d t
 |0,_=>by simp[plP]
 |d+1,⟨k,w,l⟩=>by
  rw[plP];split
  . rename_i hf;split
    . omega
    . rename_i h1;have h2:=sum_len (l:=l) (fun x _=>plP_pos d x);have h3:=formed_kids hf h1;omega
  . omega
theorem plP_le:∀(d:Nat) (t:Pt),plP d t<=25
 |0,_=>by simp[plP]
 |d+1,⟨k,w,l⟩=>by
  rw[plP];split
  . split<;>omega
  . omega
theorem min_sum{f:Pt->Nat}{l:List Pt}:min 25 (l.map (fun x=>min 25 (f x))).sum=min 25 (l.map f).sum:=by
 induction l with
 |nil=>rfl
 |cons y l ih=>
  simp only[List.map_cons,List.sum_cons];omega
theorem map_eq{f g:Pt->Nat}{l:List Pt}(h:∀x∈l,f x=g x):l.map f=l.map g:=yS h
theorem plP_shaped:∀(d:Nat) (t:Pt),shapedP d t=true->plP d t=min 25 (leaves t)
 |0,_,h=>by simp[shapedP]at h
 |d+1,⟨k,w,l⟩,h=>by
  simp only[shapedP,Bool.and_eq_true,decide_eq_true_eq,yI]at h;rw[plP,if_pos h.1.1,leaves_mk];by_cases h1:k=1
  . rw[if_pos h1,if_pos h1];rfl
  . rw[if_neg h1,if_neg h1,map_eq (g:=fun x=>min 25 (leaves x)) (fun x hx=>plP_shaped d x (h.2 x hx)),min_sum]
theorem plP_not:∀(d:Nat) (t:Pt),shapedP d t=false->plP d t=25
 |0,_,_=>by simp[plP]
 |d+1,⟨k,w,l⟩,h=>by
  rw[plP];split
  . rename_i hf;by_cases h1:k=1
    . subst h1;have h0:l=[]:=yL.1 (formed_word hf);subst h0;rw[List.length_nil]at hf;simp[shapedP]at h;rw[h]at hf;cases hf
    . rw[if_neg h1];by_cases h24:l.length<=24
      . have:∃x∈l,shapedP d x=false:=by
         cases ha:l.all (shapedP d)with
         |true=>simp[shapedP,hf,h24]at h;rw[yI]at ha;obtain⟨x,hx,hn⟩:=h;rw[ha x hx]at hn;cases hn
         |false=>simpa using ha
        obtain⟨x,hx,hn⟩:=this;have:=sum_ge (f:=plP d) hx;rw[plP_not d x hn]at this;omega
      . have:=sum_len (l:=l) (fun x _=>plP_pos d x);omega
  . rfl
theorem plP_may(t:Pt):decide (plP 12 t<25)=mayP t:=by
 cases h:shapedP 12 t with
 |true=>
  rw[plP_shaped 12 t h,mayP,h,Bool.true_and];apply decide_eq_decide.2;omega
 |false=>rw[plP_not 12 t h,mayP,h];rfl
theorem leaves_shaped:∀(d:Nat) (t:Pt),shapedP d t=true->leaves t<=24^d
 |0,_,h=>by simp[shapedP]at h
 |d+1,⟨k,w,l⟩,h=>by
  simp only[shapedP,Bool.and_eq_true,decide_eq_true_eq,yI]at h;rw[leaves_mk];have hp:1<=24^d:=Nat.one_le_pow _ _ (by decide);by_cases h1:k=1
  . rw[if_pos h1,Nat.pow_succ];omega
  . rw[if_neg h1];have key:∀l:List Pt,(∀x∈l,leaves x<=24^d)->(l.map leaves).sum<=l.length*24^d:=by
     intro l hl;induction l with
     |nil=>simp
     |cons y l ih=>
      rw[List.map_cons,List.sum_cons,yG,Nat.succ_mul];have a:=hl y (zL ..);have b:=ih (fun x hx=>hl x (zP _ hx));omega
    have a:=key l (fun x hx=>leaves_shaped d x (h.2 x hx));have b:l.length*24^d<=24*24^d:=Nat.mul_le_mul_right _ h.1.2;rw[Nat.pow_succ];omega
theorem data_at(s:ByteArray)(i:Nat)(h:i<s.size):s.data.toList[i]?=some (s[i]'h):=by
 have:i<s.data.toList.length:=by rw[Array.length_toList];exact h
 rw[zB this];rfl
theorem data_len(s:ByteArray):s.data.toList.length=s.size:=by rw[Array.length_toList];rfl
theorem size_list(l:List UInt8):(⟨l.toArray⟩:ByteArray).size=l.length:=by rw[<- ByteArray.size_data];simp
set_option maxHeartbeats 1000000 in
theorem mayStand_any(n:Nat)(w:World)(hn:n<256):
 Calls Tryz.prog 146 #[.int .u8 (n:Int)] w fun e w'=>e=.returned (.bool (mayN n))/\w'=w:=by
 rcases byte_cases n with h|h|h|h|h|h|h|h
 . have e1:¬(n:Int)=45:=by omega
   have e2:¬(n:Int)=58:=by omega
   have e3:((n:Int)==45)=false:=beq_eq_false_iff_ne.2 e1;have e4:((n:Int)==58)=false:=beq_eq_false_iff_ne.2 e2;rw[mayN_no (by omega)];go_enter Tryz.func146,Tryz.ntmps146;go_wp2;go_ret;exact⟨rfl,rfl⟩
 . subst h;rw[mayN_yes (by omega)];go_enter Tryz.func146,Tryz.ntmps146;go_wp2;go_ret;exact⟨rfl,rfl⟩
 . have e1:¬(n:Int)=45:=by omega
   have e2:¬(n:Int)=58:=by omega
   have e3:((n:Int)==45)=false:=beq_eq_false_iff_ne.2 e1;have e4:((n:Int)==58)=false:=beq_eq_false_iff_ne.2 e2;rw[mayN_no (by omega)];go_enter Tryz.func146,Tryz.ntmps146;go_wp2;go_ret;exact⟨rfl,rfl⟩
 . rw[mayN_yes (by omega)];go_enter Tryz.func146,Tryz.ntmps146;go_wp2;go_ret;exact⟨rfl,rfl⟩
 . subst h;rw[mayN_yes (by omega)];go_enter Tryz.func146,Tryz.ntmps146;go_wp2;go_ret;exact⟨rfl,rfl⟩
 . have e1:¬(n:Int)=45:=by omega
   have e2:¬(n:Int)=58:=by omega
   have e3:((n:Int)==45)=false:=beq_eq_false_iff_ne.2 e1;have e4:((n:Int)==58)=false:=beq_eq_false_iff_ne.2 e2;have f1:¬(n:Int)<=57:=by omega
   rw[mayN_no (by omega)];go_enter Tryz.func146,Tryz.ntmps146;go_wp2;go_ret;exact⟨rfl,rfl⟩
 . rw[mayN_yes (by omega)];go_enter Tryz.func146,Tryz.ntmps146;go_wp2;go_ret;exact⟨rfl,rfl⟩
 . have e1:¬(n:Int)=45:=by omega
   have e2:¬(n:Int)=58:=by omega
   have e3:((n:Int)==45)=false:=beq_eq_false_iff_ne.2 e1;have e4:((n:Int)==58)=false:=beq_eq_false_iff_ne.2 e2;have f1:¬(n:Int)<=57:=by omega
   have f2:¬(n:Int)<=122:=by omega
   rw[mayN_no (by omega)];go_enter Tryz.func146,Tryz.ntmps146;go_wp2;go_ret;exact⟨rfl,rfl⟩
theorem all_take_succ{l:List UInt8}{i:Nat}{x:UInt8}(hx:l[i]?=some x)(h:(l.take i).all mayB=true)(hm:mayB x=true):(l.take (i+1)).all mayB=true:=by
 rw[zS,hx,List.all_append,h];simp only[yR,List.all_cons,List.all_nil,Bool.and_true,Bool.true_and];exact hm
theorem all_not{l:List UInt8}{i:Nat}{x:UInt8}(hx:l[i]?=some x)(hm:mayB x=false):isW l=false:=by
 have:l.all mayB=false:=by
  rw[Bool.eq_false_iff];intro h;rw[yI]at h;rw[h x (zC hx)]at hm;cases hm
 simp[isW,this]
set_option maxHeartbeats 1000000 in
theorem is_any(s:ByteArray)(w:World):
 Calls Tryz.prog 128 #[.string s] w fun e w'=>e=.returned (.bool (isW s.data.toList))/\w'=w:=by
 have hl:=data_len s;by_cases h1:s.size<1
 . have hw:isW s.data.toList=false:=by simp[isW,hl];omega
   rw[hw];clear hw hl;go_enter Tryz.func128,Tryz.ntmps128;go_wp2;go_ret;exact⟨rfl,rfl⟩
 . by_cases h2:16<s.size
   . have hw:isW s.data.toList=false:=by simp[isW,hl];omega
     rw[hw];clear hw hl;go_enter Tryz.func128,Tryz.ntmps128;go_wp2;go_ret;exact⟨rfl,rfl⟩
   . have HL:=zA hl;clear hl;go_enter Tryz.func128,Tryz.ntmps128;go_wp2;go_loopw [14] (fun c wr=>∃i:Nat,i<=s.size/\c=.int .i64 i/\(s.data.toList.take i).all mayB=true/\wr=w) (fun c _=>s.size-(intOf c).toNat)
     case atStart=>exact⟨0,zO _,rfl,rfl,rfl⟩
     case round=>
      obtain⟨i,hi,rfl,hall,rfl⟩:=hrel;have HA:=zA hall;clear hall;by_cases hlt:i<s.size
      . have hltI:(i:Int)<(s.size:Int):=by omega
        obtain⟨x,hx⟩:∃x:UInt8,s[i]'hlt=x:=⟨_,rfl⟩
        have HX:=zA (by rw[data_at s i hlt,hx]:s.data.toList[i]?=some x);have hxb:=UInt8.toNat_lt x;obtain⟨m,hm⟩:∃m,mayN x.toNat=m:=⟨_,rfl⟩
        have C:=zA (mayStand_any x.toNat wr hxb);rw[hm]at C;have HM:=zA (show mayB x=m from hm);clear hm;cases m with
        |true=>
         go_wp2_with fail;refine C.out.mono ?_;rintro e w1 ⟨rfl,rfl⟩;go_wp2;go_roundw
         case rel=>exact⟨i+1,by omega,by go_num,all_take_succ HX.out HA.out HM.out,by trivial⟩
         case measure=>simp[intOf];omega
        |false=>
         go_wp2_with fail;refine C.out.mono ?_;rintro e w1 ⟨rfl,rfl⟩;go_wp2;go_ret;exact⟨by rw[all_not HX.out HM.out];rfl,rfl⟩
      . obtain rfl:i=s.size:=by omega
        have hw:isW s.data.toList=true:=by
         have a:=HA.out;rw[zJ (by rw[HL.out];exact zD _)]at a;simp only[isW,HL.out,a];simp;omega
        have HW:=zA hw;clear hw;go_wp2;go_ret;exact⟨by rw[HW.out];rfl,rfl⟩
set_option maxHeartbeats 4000000 in
theorem rIs_any(s:ByteArray)(w:World)(hs:s.size<=9223372036854775807):
 Calls Tryz.prog 49 #[.string s] w fun e w'=>e=.returned (.bool (isW s.data.toList))/\w'=w:=by
 have HL:=zA (data_len s);go_enter Tryz.func49,Tryz.ntmps49;go_wp2;go_loopw [3] (fun c wr=>∃i:Nat,i<=s.size/\c=.int .i64 i/\(s.data.toList.take i).all mayB=true/\wr=w) (fun c _=>s.size-(intOf c).toNat)
 case atStart=>exact⟨0,zO _,rfl,rfl,rfl⟩
 case round=>
  obtain⟨i,hi,rfl,hall,rfl⟩:=hrel;have HA:=zA hall;clear hall;by_cases hlt:i<s.size
  . have hltI:(i:Int)<(s.size:Int):=by omega
    obtain⟨x,hx⟩:∃x:UInt8,s[i]'hlt=x:=⟨_,rfl⟩
    have HX:=zA (by rw[data_at s i hlt,hx]:s.data.toList[i]?=some x);have hxb:=UInt8.toNat_lt x;obtain⟨n,hn⟩:∃n,x.toNat=n:=⟨_,rfl⟩
    have HN:Hid (∀m,mayN n=m->mayB x=m):=zA (fun m hm=>by rw[mayB,hn];exact hm);rw[hn]at hxb;rcases byte_cases n with h|h|h|h|h|h|h|h
    . have e1:¬(n:Int)=45:=by omega
      have e2:¬(n:Int)=58:=by omega
      have e3:((n:Int)!=45)=true:=by rw[bne_iff_ne];exact e1
      have e4:((n:Int)!=58)=true:=by rw[bne_iff_ne];exact e2
      have HM:=zA (HN.out _ (mayN_no (by omega)));go_wp2;go_ret;exact⟨by rw[all_not HX.out HM.out];rfl,rfl⟩
    . subst h;have HM:=zA (HN.out _ (mayN_yes (by omega)));go_wp2;go_roundw
      case rel=>exact⟨i+1,by omega,by go_num,all_take_succ HX.out HA.out HM.out,by trivial⟩
      case measure=>simp[intOf];omega
    . have e1:¬(n:Int)=45:=by omega
      have e2:¬(n:Int)=58:=by omega
      have e3:((n:Int)!=45)=true:=by rw[bne_iff_ne];exact e1
      have e4:((n:Int)!=58)=true:=by rw[bne_iff_ne];exact e2
      have HM:=zA (HN.out _ (mayN_no (by omega)));go_wp2;go_ret;exact⟨by rw[all_not HX.out HM.out];rfl,rfl⟩
    . have f1:¬ 57<(n:Int):=by omega
      have HM:=zA (HN.out _ (mayN_yes (by omega)));go_wp2;go_roundw
      case rel=>exact⟨i+1,by omega,by go_num,all_take_succ HX.out HA.out HM.out,by trivial⟩
      case measure=>simp[intOf];omega
    . subst h;have HM:=zA (HN.out _ (mayN_yes (by omega)));go_wp2;go_roundw
      case rel=>exact⟨i+1,by omega,by go_num,all_take_succ HX.out HA.out HM.out,by trivial⟩
      case measure=>simp[intOf];omega
    . have e1:¬(n:Int)=45:=by omega
      have e2:¬(n:Int)=58:=by omega
      have e3:((n:Int)!=45)=true:=by rw[bne_iff_ne];exact e1
      have e4:((n:Int)!=58)=true:=by rw[bne_iff_ne];exact e2
      have f1:57<(n:Int):=by omega
      have HM:=zA (HN.out _ (mayN_no (by omega)));go_wp2;go_ret;exact⟨by rw[all_not HX.out HM.out];rfl,rfl⟩
    . have f1:¬ 122<(n:Int):=by omega
      have HM:=zA (HN.out _ (mayN_yes (by omega)));go_wp2;go_roundw
      case rel=>exact⟨i+1,by omega,by go_num,all_take_succ HX.out HA.out HM.out,by trivial⟩
      case measure=>simp[intOf];omega
    . have e1:¬(n:Int)=45:=by omega
      have e2:¬(n:Int)=58:=by omega
      have e3:((n:Int)!=45)=true:=by rw[bne_iff_ne];exact e1
      have e4:((n:Int)!=58)=true:=by rw[bne_iff_ne];exact e2
      have f1:57<(n:Int):=by omega
      have f2:122<(n:Int):=by omega
      have HM:=zA (HN.out _ (mayN_no (by omega)));go_wp2;go_ret;exact⟨by rw[all_not HX.out HM.out];rfl,rfl⟩
  . obtain rfl:i=s.size:=by omega
    have hA:=HA.out;rw[zJ (by rw[HL.out];exact zD _)]at hA;by_cases h1:1<=s.size
    . by_cases h2:s.size<=16
      . have h1I:1<=(s.size:Int):=by omega
        have h2I:(s.size:Int)<=16:=by omega
        have HW:Hid (isW s.data.toList=true):=zA (by simp only[isW,HL.out,hA];simp;omega);clear hA;go_wp2;go_ret;exact⟨by rw[HW.out];rfl,rfl⟩
      . have HW:Hid (isW s.data.toList=false):=zA (by simp[isW,HL.out];omega);have h1I:1<=(s.size:Int):=by omega
        have h2I:¬(s.size:Int)<=16:=by omega
        clear hA;go_wp2;go_ret;exact⟨by rw[HW.out];rfl,rfl⟩
    . have h1I:¬ 1<=(s.size:Int):=by omega
      have HW:Hid (isW s.data.toList=false):=zA (by simp[isW,HL.out];omega);clear hA;go_wp2;go_ret;exact⟨by rw[HW.out];rfl,rfl⟩
end Go.Proofs.YtkbgmcmcpbegjaaGreatDoor
