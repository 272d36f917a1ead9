/- MPut, MVert. -/
import Derived.Test.YtkbgmcmcpbegjaaGreatDoorMG15
import Derived.Test.YtkbgmcmcpbegjaaGreatDoorMG20
set_option maxRecDepth 100000
namespace Go.Proofs.YtkbgmcmcpbegjaaGreatDoor
open Go.RowKit Go.Shelf
theorem not_bothW{a b:Wd}(h:¬a=b):¬a=b/\(a==b)=false:=⟨h,by simpa using h⟩
theorem own_capM{w:World}{B n:Nat}{e:TypeId}{size:Nat}{v:Value}{xs:List Value}(h:w.ownsRow B e size v n xs):CapS v n:=by
 rcases h.2 with⟨rfl,rfl⟩|⟨g,cap,cur,rfl,_,_,hle,_⟩
 . exact⟨none,0,rfl,zD _⟩
 . exact⟨_,cap,rfl,hle⟩
section
variable {α:Type} {enc:α->List Value} {kk:Nat}
end
def SrcW(w:World)(v:Value)(L:List Wd):Prop:=Src csT 1 w v L/\CapS v L.length
theorem SrcW.below{w w':World}{v:Value}{L:List Wd}(h:SrcW w v L)(hb:Below w.heap.size w w'):SrcW w' v L:=⟨h.1.below hb,h.2⟩
abbrev csF(f:Fa):List Value:=[.string ⟨f.1.toArray⟩,.string ⟨f.2.1.toArray⟩,.string ⟨f.2.2.toArray⟩]
theorem csF_len(x:Fa):(csF x).length=3:=rfl
abbrev FasS:=SlS csF 3
theorem getF{w:World}{g o:Nat}{f:Fa}(h:∀(c:Nat) u,(csF f)[c]?=some u->w.cell? ⟨g,o+c,none⟩=some u):w.cell? ⟨g,o,none⟩=some (.string ⟨f.1.toArray⟩)/\w.cell? ⟨g,o+1,none⟩=some (.string ⟨f.2.1.toArray⟩)/\w.cell? ⟨g,o+2,none⟩=some (.string ⟨f.2.2.toArray⟩):=
 ⟨h 0 _ rfl,h 1 _ rfl,h 2 _ rfl⟩
end Go.Proofs.YtkbgmcmcpbegjaaGreatDoor
