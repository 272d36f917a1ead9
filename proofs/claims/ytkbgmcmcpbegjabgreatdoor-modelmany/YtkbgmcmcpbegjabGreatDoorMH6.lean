/- AMath4. -/
import Derived.Test.YtkbgmcmcpbegjabGreatDoorMH1
set_option maxRecDepth 100000
namespace Go.Proofs.YtkbgmcmcpbegjabGreatDoor
open Go.RowKit
def Lim(d:Nat)(p:Prt):Prop:=p.first.length<=p.words.length/\p.last.length<=p.words.length/\p.pairs.length<=d*(p.words.length*p.words.length)
theorem Lim.more{d:Nat}{p:Prt}(h:Lim d p):Lim (d+1) p:=⟨h.1,h.2.1,by have:=h.2.2;rw[Nat.succ_mul];omega⟩
theorem foldl_take{α β:Type}{f:β->α->β}{b:β}{L:List α}{i:Nat}{x:α}(hx:L[i]?=some x):(L.take (i+1)).foldl f b=f ((L.take i).foldl f b) x:=by
 rw[zU,hx,List.foldl_append];rfl
end Go.Proofs.YtkbgmcmcpbegjabGreatDoor
