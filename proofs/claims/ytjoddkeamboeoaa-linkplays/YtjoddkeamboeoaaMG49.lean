/- ERTakA. -/
import Derived.Test.YtjoddkeamboeoaaMG43
import Derived.Test.YtjoddkeamboeoaaMG44
import Derived.Test.YtjoddkeamboeoaaMG45
import Derived.Test.YtjoddkeamboeoaaMG46
import Derived.Test.YtjoddkeamboeoaaMG47
import Derived.Test.YtjoddkeamboeoaaMG48
set_option maxRecDepth 100000
namespace Go.Proofs.Ytjoddkeamboeoaa
open Go.RowKit Go.Shelf
theorem four_list{α:Type}{l:List α}(h:l.length=4):∃a b c d,l=[a,b,c,d]:=by
 match l,h with
 |[a,b,c,d],_=>exact⟨a,b,c,d,rfl⟩
theorem three_list{α:Type}{l:List α}(h:l.length=3):∃a b c,l=[a,b,c]:=by
 match l,h with
 |[a,b,c],_=>exact⟨a,b,c,rfl⟩
theorem heardN_1{n:NoteD}{a b c d:Int}{t:List UInt8}(h2:n.rows.length=0)(hk:n.kind=1)(hn:n.nums=[a,b,c,d])(ht:n.texts=[t]):heardN n=if (onlyP t).2=true then some ⟨a,b,d,true,c,(onlyP t).1⟩else none:=by
 rw[heardN,if_neg (by omega),if_pos hk,hn,ht]
theorem heardN_2{n:NoteD}{a b c:Int}(h2:n.rows.length=0)(hk:n.kind=2)(hn:n.nums=[a,b,c])(ht:n.texts=[]):heardN n=some ⟨a,b,c,false,0,.none⟩:=by
 rw[heardN,if_neg (by omega),if_neg (by omega),if_pos hk,hn,ht]
theorem take_some{e:En}{l:List UInt8}{x:Hd}(hok:(onlyP l).2=true)(h:heardN (onlyP l).1=some x)(h0:x.ep≠0)(h1:¬x.ep<(e.ot:Int)):takeE e l=metE (seeE e x.ep.toNat) x:=by
 have hh:heardP l=some x:=by rw[heardP,if_pos hok,h]
 rw[takeE,hh];simp only;rw[if_neg (fun h=>h.elim h0 h1)]
section
variable {T:Nat->Prop} {w:World} {e:En} {vq:Value}
theorem rTake_any(hq:TxR T w vq e.q)(hlow:Low T w)(l:List UInt8)(hl:l.length<=140737488351232):
 Calls Try.prog 20 #[rvE e vq,.string ⟨l.toArray⟩] w (RTakE T w e l):=by
 rcases rTake_or hq hlow l hl with h|⟨k,x0,hk,hok,h2,hkd,h3,h4,hx,hx0,hxo⟩
 . exact h
 have hmay:=(onlyP_ok hok).1;have hgood:=hmay.1.2.2.2;rcases hk with rfl|rfl
 . obtain⟨a,x1,x2,x3,hn⟩:=four_list (l:=(onlyP l).1.nums) h3;obtain⟨tx,ht⟩:∃t,(onlyP l).1.texts=[t]:=List.length_eq_one_iff.1 h4;obtain rfl:a=x0:=by rw[hn]at hx;simpa using hx
   have hx1:(onlyP l).1.nums[1]?=some x1:=by rw[hn];rfl
   have hx2:(onlyP l).1.nums[2]?=some x2:=by rw[hn];rfl
   have hx3:(onlyP l).1.nums[3]?=some x3:=by rw[hn];rfl
   have htx:(onlyP l).1.texts[0]?=some tx:=by rw[ht];rfl
   have hb2:x2<=4611686018427387903:=(hgood x2 (zJ hx2)).2;have hb3:x3<=4611686018427387903:=(hgood x3 (zJ hx3)).2;have hhn:=heardN_1 h2 hkd hn ht;cases hpk:(onlyP tx).2 with
   |false=>
    rw[hpk,if_neg (by decide)]at hhn;exact rTake_p1 hq hlow l tx hl (takeE_of hok hhn) hok h2 hkd h3 h4 hmay hx hx0 hxo htx hpk
   |true=>
    rw[hpk,if_pos rfl]at hhn;have hte:=take_some (e:=e) hok hhn hx0 hxo;dsimp only at hte;rw[metE]at hte;dsimp only at hte;rw[see_ep]at hte;by_cases hxe:x1=(e.ep:Int)
    . rw[if_neg (by simpa using hxe),tookE,if_neg (by simp)]at hte;dsimp only at hte;by_cases hxw:x2=((dropE (seeE e a.toNat).1 x3.toNat).wt:Int)
      . rw[if_pos hxw]at hte;exact rTake_i1 hq hlow l tx hl hte hok h2 hkd h3 h4 hmay hx hx0 hxo htx hpk hx1 hx2 hx3 hxe hb3 hxw hb2
      . rw[if_neg hxw]at hte;exact rTake_j1 hq hlow l tx hl hte hok h2 hkd h3 h4 hmay hx hx0 hxo htx hpk hx1 hx2 hx3 hxe hb3 hxw
    . rw[if_pos hxe]at hte;exact rTake_h1 hq hlow l tx hl hte hok h2 hkd h3 h4 hmay hx hx0 hxo htx hpk hx1 hx2 hx3 hxe hb3
 . obtain⟨a,x1,x2,hn⟩:=three_list (l:=(onlyP l).1.nums) h3;have ht:(onlyP l).1.texts=[]:=zU.1 h4;obtain rfl:a=x0:=by rw[hn]at hx;simpa using hx
   have hx1:(onlyP l).1.nums[1]?=some x1:=by rw[hn];rfl
   have hx2:(onlyP l).1.nums[2]?=some x2:=by rw[hn];rfl
   have hb2:x2<=4611686018427387903:=(hgood x2 (zJ hx2)).2;have hte:=take_some (e:=e) hok (heardN_2 h2 hkd hn ht) hx0 hxo;dsimp only at hte;rw[metE]at hte;dsimp only at hte;rw[see_ep]at hte;by_cases hxe:x1=(e.ep:Int)
   . rw[if_neg (by simpa using hxe),tookE,if_pos rfl]at hte;exact rTake_e2 hq hlow l hl hte hok h2 hkd h3 h4 hx hx0 hxo x1 hx1 hxe hx2 hb2
   . rw[if_pos hxe]at hte;exact rTake_d2 hq hlow l hl hte hok h2 hkd h3 h4 hx hx0 hxo x1 hx1 hxe
end
end Go.Proofs.Ytjoddkeamboeoaa
