/- EMath. -/
import Derived.Test.YtjoddkeamboeoaaMG8
set_option maxRecDepth 100000
namespace Go.Proofs.Ytjoddkeamboeoaa
structure En where
 ep:Nat
 ot:Nat
 fs:Nat
 wt:Nat
 q:List (List UInt8)
structure En.ok (e:En):Prop where
 ep1:1<=e.ep
 ep2:e.ep<=1099511627776
 ot2:e.ot<=4611686018427387903
 fs1:1<=e.fs
 fs2:e.fs<=4611686018427387904
 wt1:1<=e.wt
 wt2:e.wt<=4611686018427387904
 ql:e.q.length<=4096
 qs:∀p∈e.q,p.length<=32768
def packN(n:NoteD):List UInt8:=if n.may then sealB n.body else []
def carN(e:En)(k:Nat)(p:List UInt8):NoteD:=⟨1,[(e.ep:Int),(e.ot:Int),(k:Int),(e.wt:Int)],[p],[]⟩
def telN(e:En):NoteD:=⟨2,[(e.ep:Int),(e.ot:Int),(e.wt:Int)],[],[]⟩
def carB(e:En)(k:Nat)(p:List UInt8):List UInt8:=packN (carN e k p)
def telB(e:En):List UInt8:=packN (telN e)
def newE(ep:Nat):En:=⟨ep,0,1,1,[]⟩
theorem newE_ok{ep:Nat}(h1:1<=ep)(h2:ep<=1099511627776):(newE ep).ok:=⟨h1,h2,zO _,zC _,by simp[newE],zC _,by simp[newE],by simp[newE],by simp[newE]⟩
def fitsN(n:NoteD):Prop:=n.may/\(sealB n.body).length<=32768
instance (n:NoteD):Decidable (fitsN n):=inferInstanceAs (Decidable (_/\_))
def pushE(e:En)(p:List UInt8):En:={ e with q:=e.q++[p] }
theorem pushE_ok{e:En}(h:e.ok){p:List UInt8}(hl:e.q.length<4096)(hp:p.length<=32768):(pushE e p).ok:=by
 have kq:∀x∈(pushE e p).q,x.length<=32768:=by
  intro x hx;simp only[pushE,zZ,zX]at hx;rcases hx with hx|rfl
  . exact h.qs x hx
  . exact hp
 exact { h with ql:=by simp only[pushE,zE,zR,List.length_nil];omega,qs:=kq }
def putE(e:En)(n:NoteD):En×List (List UInt8)×Nat:=
 if ¬fitsN n then (e,[],1)
 else if 4096<=e.q.length then (e,[],2)
 else if 64<e.q.length+1 then (pushE e (sealB n.body),[],0)
 else(pushE e (sealB n.body),[carB e (e.fs+e.q.length) (sealB n.body)],0)
def tickF(e:En):Nat->List (List UInt8)->List (List UInt8)
 |_,[]=>[]
 |k,p::l=>carB e k p::tickF e (k+1) l
def tickE(e:En):List (List UInt8):=tickF e e.fs (e.q.take 64)
theorem tickF_len(e:En):∀(l:List (List UInt8)) (k:Nat),(tickF e k l).length=l.length
 |[],_=>rfl
 |_::l,k=>by simp[tickF,tickF_len e l (k+1)]
theorem tickF_snoc(e:En):∀(l:List (List UInt8)) (k:Nat) (p:List UInt8),tickF e k (l++[p])=tickF e k l++[carB e (k+l.length) p]
 |[],k,p=>by simp[tickF]
 |x::l,k,p=>by
  rw[List.cons_append,tickF,tickF_snoc e l (k+1) p,tickF,List.cons_append,zR];congr 4;omega
theorem tickE_len(e:En):(tickE e).length=min 64 e.q.length:=by rw[tickE,tickF_len,zQ]
structure Hd where
 ep:Int
 ot:Int
 wt:Int
 ca:Bool
 nr:Int
 pl:NoteD
def onlyP(l:List UInt8):NoteD×Bool:=((unpackP l).1,decide ((unpackP l).2.2=0)&&decide ((unpackP l).2.1=l.length))
def heardN(n:NoteD):Option Hd:=
 if n.rows.length≠0 then none
 else if n.kind=1 then
  (match n.nums,n.texts with
   |[a,b,c,d],[t]=>if(onlyP t).2=true then some ⟨a,b,d,true,c,(onlyP t).1⟩else none
   |_,_=>none)
 else if n.kind=2 then
  (match n.nums,n.texts with
   |[a,b,c],[]=>some ⟨a,b,c,false,0,.none⟩
   |_,_=>none)
 else none
def heardP(l:List UInt8):Option Hd:=if (onlyP l).2=true then heardN (onlyP l).1 else none
theorem onlyP_seal(n:NoteD)(h:n.may):onlyP (sealB n.body)=(n,true):=by
 have:=unpackP_seal n h [];rw[List.append_nil]at this;simp[onlyP,this]
theorem onlyP_ok{l:List UInt8}(h:(onlyP l).2=true):(onlyP l).1.may/\l=sealB (onlyP l).1.body:=by
 simp only[onlyP,Bool.and_eq_true,decide_eq_true_eq]at h ⊢;obtain⟨h1,h2⟩:=h;have h3:=unpackP_ok (l:=l) (n:=(unpackP l).1) (k:=(unpackP l).2.1) (by rw[<- h1]);refine⟨h3.1,?_⟩;have h4:=h3.2.1;rw[h2,List.drop_length,List.append_nil]at h4;exact h4
theorem heardP_good{l:List UInt8}{h:Hd}(e:heardP l=some h):goodNum h.ep/\goodNum h.ot/\goodNum h.wt/\goodNum h.nr/\(h.ca=true->h.pl.may):=by
 unfold heardP at e;split at e
 . rename_i ho;obtain⟨hm,_⟩:=onlyP_ok ho;have hg:=hm.1.2.2.2;unfold heardN at e;split at e
   . cases e
   . split at e
     . split at e
       . rename_i a b c d t hn ht;rw[hn]at hg;split at e
         . rename_i ho2;cases e
           exact⟨hg a (by simp),hg b (by simp),hg d (by simp),hg c (by simp),fun _=>(onlyP_ok ho2).1⟩
         . cases e
       . cases e
     . split at e
       . split at e
         . rename_i a b c hn ht;rw[hn]at hg;cases e
           exact⟨hg a (by simp),hg b (by simp),hg c (by simp),⟨by simp,by simp⟩,fun h=>by cases h⟩
         . cases e
       . cases e
 . cases e
def meetE(e:En)(k:Nat):En×Bool:=if e.ot=0 then ({ e with ot:=k,wt:=1 },false)else ({ e with ot:=k,wt:=1,fs:=1,q:=[] },true)
def seeE(e:En)(k:Nat):En×Bool:=if e.ot<k then meetE e k else (e,false)
def goneE(e:En)(k:Nat):Nat:=min (k-e.fs) e.q.length
def dropE(e:En)(k:Nat):En:={ e with fs:=e.fs+goneE e k,q:=e.q.drop (goneE e k) }
def tookE(d:En)(h:Hd)(anew:Bool):En×List NoteD×List (List UInt8)×Bool:=
 if h.ca=false then (d,[],[],anew)
 else if h.nr=(d.wt:Int)then ({ d with wt:=d.wt+1 },[h.pl],[telB { d with wt:=d.wt+1 }],anew)
 else(d,[],[telB d],anew)
def metE(m:En×Bool)(h:Hd):En×List NoteD×List (List UInt8)×Bool:=
 if h.ot≠(m.1.ep:Int)then (m.1,[],[telB m.1],m.2)else tookE (dropE m.1 h.wt.toNat) h m.2
def takeE(e:En)(l:List UInt8):En×List NoteD×List (List UInt8)×Bool:=
 match heardP l with
 |none=>(e,[],[],false)
 |some h=>if h.ep=0\/h.ep<(e.ot:Int)then (e,[],[],false)else metE (seeE e h.ep.toNat) h
theorem goneE_le(e:En)(k:Nat):goneE e k<=e.q.length:=Nat.min_le_right _ _
theorem dropE_ok{e:En}(h:e.ok){k:Nat}(hk:k<=4611686018427387903):(dropE e k).ok:=by
 have h1:=h.fs1;have h2:=h.fs2;have g1:e.fs+goneE e k<=4611686018427387904:=by
  unfold goneE;omega
 refine { h with fs1:=by simp only[dropE];omega,fs2:=g1,ql:=?_,qs:=?_ }
 . simp only[dropE,zN];have:=h.ql;omega
 . intro p hp;exact h.qs p (List.mem_of_mem_drop (by simpa[dropE]using hp))
theorem telN_may{e:En}(h:e.ok)(hw:e.wt<=4611686018427387903):(telN e).may:=by
 have h1:=h.ep2;have h2:=h.ot2;refine⟨⟨by simp[telN],by simp[telN],by simp[telN],fun x hx=>?_⟩,⟨by simp[telN],by simp[telN,cntR],by simp[telN,shortL],by simp[telN]⟩,?_⟩
 . simp only[telN,List.mem_cons,List.not_mem_nil,or_false]at hx;rcases hx with rfl|rfl|rfl<;>exact⟨by omega,by omega⟩
 . have a1:=numsB_le (telN e).nums;have a2:=rowsB_le (telN e).rows (by simp[telN]);have a3:=textsB_le2 (telN e).texts (by simp[telN,shortL]);have b1:(numB (telN e).kind.toNat).length<=9:=by have:=numsB_le [(telN e).kind];simpa[numsB]using this
   have b2:(numB (telN e).nums.length).length<=9:=by have:=numsB_le [((telN e).nums.length:Int)];simpa[numsB]using this
   have b3:(numB (telN e).texts.length).length<=9:=by have:=numsB_le [((telN e).texts.length:Int)];simpa[numsB]using this
   have b4:(numB (telN e).rows.length).length<=9:=by have:=numsB_le [((telN e).rows.length:Int)];simpa[numsB]using this
   simp only[NoteD.body,listB,zE];have c1:(telN e).nums.length=3:=rfl;have c2:(telN e).texts=[]:=rfl;have c3:(telN e).rows=[]:=rfl;rw[c2]at a3 b3 ⊢;rw[c3]at a2 b4 ⊢;rw[c1]at a1;simp only[sumL,sumR,cntR,List.map_nil,List.sum_nil,List.length_nil]at a1 a2 a3;omega
theorem carN_may{e:En}(h:e.ok)(hw:e.wt<=4611686018427387903){k:Nat}(hk:k<=4611686018427387903){p:List UInt8}(hp:p.length<=32768):(carN e k p).may:=by
 have h1:=h.ep2;have h2:=h.ot2;refine⟨⟨by simp[carN],by simp[carN],by simp[carN],fun x hx=>?_⟩,⟨by simp[carN],by simp[carN,cntR],?_,by simp[carN]⟩,?_⟩
 . simp only[carN,List.mem_cons,List.not_mem_nil,or_false]at hx;rcases hx with rfl|rfl|rfl|rfl<;>exact⟨by omega,by omega⟩
 . intro t ht;simp only[carN,zX]at ht;subst ht;omega
 . have hs:shortL (carN e k p).texts:=by
    intro t ht;simp only[carN,zX]at ht;subst ht;omega
   have a1:=numsB_le (carN e k p).nums;have a2:=rowsB_le (carN e k p).rows (by simp[carN]);have a3:=textsB_le2 (carN e k p).texts hs;have b1:(numB (carN e k p).kind.toNat).length<=9:=by have:=numsB_le [(carN e k p).kind];simpa[numsB]using this
   have b2:(numB (carN e k p).nums.length).length<=9:=by have:=numsB_le [((carN e k p).nums.length:Int)];simpa[numsB]using this
   have b3:(numB (carN e k p).texts.length).length<=9:=by have:=numsB_le [((carN e k p).texts.length:Int)];simpa[numsB]using this
   have b4:(numB (carN e k p).rows.length).length<=9:=by have:=numsB_le [((carN e k p).rows.length:Int)];simpa[numsB]using this
   simp only[NoteD.body,listB,zE];have c1:(carN e k p).nums.length=4:=rfl;have c2:(carN e k p).texts=[p]:=rfl;have c3:(carN e k p).rows=[]:=rfl;rw[c2]at a3 b3 ⊢;rw[c3]at a2 b4 ⊢;rw[c1]at a1;simp only[sumL,sumR,cntR,List.map_nil,List.map_cons,List.sum_nil,List.sum_cons,List.length_nil,zR]at a1 a2 a3;omega
theorem heardP_tel{e:En}(h:e.ok)(hw:e.wt<=4611686018427387903):heardP (telB e)=some ⟨e.ep,e.ot,e.wt,false,0,.none⟩:=by
 have hm:=telN_may h hw;rw[telB,packN,if_pos hm,heardP,onlyP_seal _ hm];simp[heardN,telN]
theorem heardP_car{e:En}(h:e.ok)(hw:e.wt<=4611686018427387903){k:Nat}(hk:k<=4611686018427387903){n:NoteD}(hn:n.may)(hp:(sealB n.body).length<=32768):
 heardP (carB e k (sealB n.body))=some ⟨e.ep,e.ot,e.wt,true,k,n⟩:=by
 have hm:=carN_may h hw hk hp;rw[carB,packN,if_pos hm,heardP,onlyP_seal _ hm];simp[heardN,carN,onlyP_seal n hn]
end Go.Proofs.Ytjoddkeamboeoaa
