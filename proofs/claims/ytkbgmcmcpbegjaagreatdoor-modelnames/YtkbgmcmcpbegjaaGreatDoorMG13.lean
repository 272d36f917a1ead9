/- MRowP. -/
import Derived.Test.YtkbgmcmcpbegjaaGreatDoorMG6
import Derived.Test.YtkbgmcmcpbegjaaGreatDoorMG10
set_option maxRecDepth 100000
namespace Go.Proofs.YtkbgmcmcpbegjaaGreatDoor
open Go.RowKit
theorem mem_addN_self(l:List Wd){t:Tm}(h:t.1=true):t.2∈addN l t:=by
 unfold addN;by_cases hm:t.2∈l
 . rw[if_neg (fun x=>x.2 hm)];exact hm
 . rw[if_pos ⟨h,hm⟩];simp
theorem mem_addN_iff{l:List Wd}{t:Tm}{s:Wd}:s∈addN l t↔s∈l\/(t.1=true/\s=t.2):=by
 constructor
 . intro h;unfold addN at h;split at h
   . rename_i hc;rcases zM.1 h with h|h
     . exact .inl h
     . exact .inr ⟨hc.1,by simpa using h⟩
   . exact .inl h
 . rintro (h|⟨h,rfl⟩)
   . exact addN_sub h
   . exact mem_addN_self l h
theorem mem_namesP_iff{l:List Pa}{s:Wd}:s∈namesP l↔∃a∈l,(a.1.1=true/\s=a.1.2)\/(a.2.2.1=true/\s=a.2.2.2):=by
 have key:∀(l:List Pa) (n:List Wd),s∈l.foldl (fun n a=>addN (addN n a.1) a.2.2) n↔s∈n\/∃a∈l,(a.1.1=true/\s=a.1.2)\/(a.2.2.1=true/\s=a.2.2.2):=by
  intro l;induction l with
  |nil=>intro n;simp
  |cons a l ih=>
   intro n;rw[yM,ih,mem_addN_iff,mem_addN_iff];constructor
   . rintro (((h|h)|h)|⟨b,hb,h⟩)
     . exact .inl h
     . exact .inr ⟨a,zL ..,.inl h⟩
     . exact .inr ⟨a,zL ..,.inr h⟩
     . exact .inr ⟨b,zP _ hb,h⟩
   . rintro (h|⟨b,hb,h⟩)
     . exact .inl (.inl (.inl h))
     . rcases yB.1 hb with rfl|hb
       . rcases h with h|h
         . exact .inl (.inl (.inr h))
         . exact .inl (.inr h)
       . exact .inr ⟨b,hb,h⟩
 have:=key l [];simpa[namesP]using this
def tv(g:Wd->Wd)(t:Tm):Wd:=if t.1=true then g t.2 else t.2
def RowP(fs:List Fa)(vars:List Wd)(l:List Pa)(r:Rw):Prop:=
 ∃g:Wd->Wd,(∀a∈l,leadP fs a.2.1 (tv g a.1) (tv g a.2.2))/\r=vars.map g
theorem RowP.len{fs:List Fa}{vars:List Wd}{l:List Pa}{r:Rw}(h:RowP fs vars l r):r.length=vars.length:=by
 obtain⟨g,_,rfl⟩:=h;simp
theorem RowP.more{fs gs:List Fa}(h:∀f∈fs,f∈gs){vars:List Wd}{l:List Pa}{r:Rw}(hr:RowP fs vars l r):RowP gs vars l r:=by
 obtain⟨g,hg,e⟩:=hr;exact⟨g,fun a ha=>lead_more h (hg a ha),e⟩
end Go.Proofs.YtkbgmcmcpbegjaaGreatDoor
