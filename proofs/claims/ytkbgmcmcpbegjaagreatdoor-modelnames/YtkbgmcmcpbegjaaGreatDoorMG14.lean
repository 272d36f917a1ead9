/- MRowP. -/
import Derived.Test.YtkbgmcmcpbegjaaGreatDoorMG13
import Derived.Test.YtkbgmcmcpbegjaaGreatDoorMG7
import Derived.Test.YtkbgmcmcpbegjaaGreatDoorMG3
set_option maxRecDepth 100000
namespace Go.Proofs.YtkbgmcmcpbegjaaGreatDoor
open Go.RowKit
theorem rowP_same{fs gs:List Fa}(h:∀f,f∈fs↔f∈gs){vars:List Wd}{l m:List Pa}(hl:∀a,a∈l↔a∈m)(r:Rw):RowP fs vars l r↔RowP gs vars m r:=by
 constructor
 . rintro⟨g,hg,e⟩;exact⟨g,fun a ha=>lead_more (fun f hf=>(h f).1 hf) (hg a ((hl a).2 ha)),e⟩
 . rintro⟨g,hg,e⟩;exact⟨g,fun a ha=>lead_more (fun f hf=>(h f).2 hf) (hg a ((hl a).1 ha)),e⟩
def reT(k:Wd->Wd)(t:Tm):Tm:=if t.1=true then (t.1,k t.2)else t
def reA(k:Wd->Wd)(a:Pa):Pa:=(reT k a.1,a.2.1,reT k a.2.2)
theorem tv_re(k g:Wd->Wd)(t:Tm):tv g (reT k t)=tv (fun v=>g (k v)) t:=by
 obtain⟨b,n⟩:=t;cases b<;>simp[tv,reT]
theorem rowP_names{fs:List Fa}{k h:Wd->Wd}(hk:∀v,h (k v)=v){vars:List Wd}{l:List Pa}(r:Rw):RowP fs (vars.map k) (l.map (reA k)) r↔RowP fs vars l r:=by
 constructor
 . rintro⟨g,hg,e⟩;refine⟨fun v=>g (k v),fun a ha=>?_,?_⟩
   . have:=hg (reA k a) (zW ha);rw[show (reA k a).2.1=a.2.1 from rfl,show (reA k a).1=reT k a.1 from rfl,show (reA k a).2.2=reT k a.2.2 from rfl,tv_re,tv_re]at this;exact this
   . rw[e,List.map_map];rfl
 . rintro⟨g,hg,e⟩;refine⟨fun v=>g (h v),fun a ha=>?_,?_⟩
   . obtain⟨b,hb,rfl⟩:=zV.1 ha;have:=hg b hb;rw[show (reA k b).2.1=b.2.1 from rfl,show (reA k b).1=reT k b.1 from rfl,show (reA k b).2.2=reT k b.2.2 from rfl,tv_re,tv_re];simpa only[hk]using this
   . rw[e,List.map_map];refine yS fun v _=>?_
     simp[hk]
theorem names_re{k:Wd->Wd}{l:List Pa}{s:Wd}:s∈namesP (l.map (reA k))↔∃v∈namesP l,s=k v:=by
 have hr:∀t:Tm,(reT k t).1=t.1:=fun t=>by
  obtain⟨b,n⟩:=t;cases b<;>rfl
 have hn:∀t:Tm,t.1=true->(reT k t).2=k t.2:=fun t h=>by
  rw[reT,if_pos h]
 rw[mem_namesP_iff];constructor
 . rintro⟨a,ha,h⟩;obtain⟨b,hb,rfl⟩:=zV.1 ha;rcases h with⟨h1,e⟩|⟨h1,e⟩
   . have h1:b.1.1=true:=by rw[<- hr b.1];exact h1
     exact⟨b.1.2,mem_namesP_iff.2 ⟨b,hb,.inl ⟨h1,rfl⟩⟩,by rw[e];exact hn _ h1⟩
   . have h1:b.2.2.1=true:=by rw[<- hr b.2.2];exact h1
     exact⟨b.2.2.2,mem_namesP_iff.2 ⟨b,hb,.inr ⟨h1,rfl⟩⟩,by rw[e];exact hn _ h1⟩
 . rintro⟨v,hv,rfl⟩;obtain⟨b,hb,⟨h1,e⟩|⟨h1,e⟩⟩:=mem_namesP_iff.1 hv
   . exact⟨reA k b,zW hb,.inl ⟨by rw[<- h1];exact hr b.1,by rw[e];exact(hn _ h1).symm⟩⟩
   . exact⟨reA k b,zW hb,.inr ⟨by rw[<- h1];exact hr b.2.2,by rw[e];exact(hn _ h1).symm⟩⟩
end Go.Proofs.YtkbgmcmcpbegjaaGreatDoor
