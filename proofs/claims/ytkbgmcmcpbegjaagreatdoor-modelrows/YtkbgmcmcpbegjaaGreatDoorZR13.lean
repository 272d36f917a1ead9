/- BPath. -/
import Derived.Test.YtkbgmcmcpbegjaaGreatDoorZR12
import Derived.Test.YtkbgmcmcpbegjaaGreatDoorZR9
set_option maxRecDepth 100000
set_option maxHeartbeats 2000000
namespace Go.Proofs.YtkbgmcmcpbegjaaGreatDoor
open Go.RowKit
theorem jiQ(t:Pt):jdV ⟨1,[[120]],[((true,[120]),t,(true,[120]))],[]⟩=mayP t:=by
 have hn:jai [((true,[120]),t,(true,[120]))]=[[120]]:=by simp[jai,addN]
 have hw:jbU ((true,[120]),t,(true,[120]))=true:=by
  simp only[jbU,Bool.and_self];rfl
 cases hm:mayP t with
 |false=>simp[jdV,mayQ,whyQ,hm]
 |true=>simp[jdV,mayQ,whyQ,hm,hn,hw]
theorem jlb{w:World}{g:Nat}{s:List UInt8}(hl:g<w.heap.size)(h:w.cell? ⟨g,0,none⟩=some (.string ⟨s.toArray⟩)):TxtS (fun _=>True) w (.slice (some ⟨g,0,none⟩) 1 1) [s]:=
 ⟨_,1,rfl,.inr ⟨g,0,rfl,trivial,hl,fun j x hx c u hu=>by
  have hj:j=0:=by have:=(zE.1 hx).1;simpa using this
  subst hj;simp at hx;subst hx;have hc:c=0:=by have:=(zE.1 hu).1;simpa using this
  subst hc;simp at hu;subst hu;exact h⟩⟩
theorem jmd{w:World}{g:Nat}{a:Am}(hl:g<w.heap.size)(h:∀c,c<7->w.cell? ⟨g,c,none⟩=(csA a)[c]?):AtsS (fun _=>True) w (.slice (some ⟨g,0,none⟩) 1 1) [a]:=
 ⟨_,1,rfl,.inr ⟨g,0,rfl,trivial,hl,fun j x hx c u hu=>by
  have hj:j=0:=by have:=(zE.1 hx).1;simpa using this
  subst hj;simp at hx;subst hx;have hc:c<7:=by have:=(zE.1 hu).1;simpa using this
  rw[Nat.zero_mul,Nat.zero_add,h c hc];exact hu⟩⟩
theorem jhl{S:Nat->Prop}{w:World}{t:Vt}(h:VOk S w t):
 Calls Tryz.prog 51 #[encN t] w fun e w'=>e=.returned (.bool (mayP t.pt))/\Below w.heap.size w w':=by
 obtain⟨ao,aa,hv⟩:=h.parts.1.slice;have ad:=h.parts.2.2.1;obtain⟨b,hb⟩:=eX (mayP t.pt);rw[<- hb];have HB:=zA hb;clear hb;have H:=zA h;obtain⟨k,wd,v,l⟩:=t;dsimp only at hv ad;subst hv;clear h;show Calls Tryz.prog _ #[.agg #[.int .i64 k,.string ⟨wd.toArray⟩,.slice ao l.length aa]] w _;obtain⟨n,hn⟩:=eX l.length;have HN:=zA hn;rw[<- hn]at H ad ⊢;clear hn;have C:Hid (∀u,Below w.heap.size w u->w.heap.size+1+1+1<u.heap.size->u.cell? ⟨w.heap.size+1+1,0,none⟩=some (.string ⟨#[120]⟩)->(∀c,c<7->u.cell? ⟨w.heap.size+1+1+1,c,none⟩=(#[.bool true,.string ⟨#[120]⟩,.int .i64 k,.string ⟨wd.toArray⟩,.slice ao n aa,.bool true,.string ⟨#[120]⟩]:Array Value)[c]?)->
  Calls Tryz.prog 40 #[.agg #[.int .i64 1,.slice (some ⟨w.heap.size+1+1,0,none⟩) 1 1,.slice (some ⟨w.heap.size+1+1+1,0,none⟩) 1 1,.slice none 0 0]] u fun e w'=>e=.returned (.int .i64 (if b=true then 0 else 1))/\Below u.heap.size u w'):=zA (fun u hu hsz h1 h2=>by
  have ae:ROk (fun _=>True) u ⟨1,⟨.slice (some ⟨w.heap.size+1+1,0,none⟩) 1 1,[[120]],.slice (some ⟨w.heap.size+1+1+1,0,none⟩) 1 1,[((true,[120]),⟨k,wd,.slice ao n aa,l⟩,(true,[120]))]⟩,.slice none 0 0,[]⟩:=by
   refine⟨⟨jlb (by omega) h1,by simp,by simp,⟨_,1,rfl,by simp⟩,jmd hsz (fun c hc=>?_),?_,?_,by simp⟩,SlS.nil _ _,by simp,by simp⟩
   . rw[h2 c hc];simp
   . intro a ha;simp at ha;subst ha;exact(H.out.below hu).sub (fun _ _ _=>trivial)
   . intro a ha;simp at ha;subst ha;exact⟨by simp,by simp⟩
  have:=jgv ae;have e:jdV (Rm.rq ⟨1,⟨.slice (some ⟨w.heap.size+1+1,0,none⟩) 1 1,[[120]],.slice (some ⟨w.heap.size+1+1+1,0,none⟩) 1 1,[((true,[120]),⟨k,wd,.slice ao n aa,l⟩,(true,[120]))]⟩,.slice none 0 0,[]⟩)=b:=by
   have h3:=jiQ (Vt.pt ⟨k,wd,.slice ao n aa,l⟩);rw[HB.out,<- HN.out,<- h3];rfl
  rw[e]at this;exact this)
 clear H HB HN;cases b with
 |true=>
  go_enter Tryz.func51,Tryz.ntmps51;go_wp2_with fail;refine(C.out _ ?b1 ?b2 ?b3 ?b4).mono ?_
  case b1=>exact((((((zF _ _).alloc (zD _) _).alloc (by simp) _).alloc (by simp;omega) _).alloc (by simp;omega) _).alloc (by simp;omega) _)
  case b2=>simp
  case b3=>simp[go_sem]
  case b4=>intro c hc;rw[World.cell?_alloc_past _ _ _ (by simp),World.cell?_alloc_at _ _ _ _ (by simp)]
  rintro e w1 ⟨rfl,ab⟩;have ac:=zA ab;clear ab;go_wp2;go_ret;refine⟨rfl,?_⟩;exact((((((zF _ _).alloc (zD _) _).alloc (by simp) _).alloc (by simp;omega) _).alloc (by simp;omega) _).alloc (by simp;omega) _).trans (ac.out.mono (by simp;omega))
 |false=>
  go_enter Tryz.func51,Tryz.ntmps51;go_wp2_with fail;refine(C.out _ ?b1 ?b2 ?b3 ?b4).mono ?_
  case b1=>exact((((((zF _ _).alloc (zD _) _).alloc (by simp) _).alloc (by simp;omega) _).alloc (by simp;omega) _).alloc (by simp;omega) _)
  case b2=>simp
  case b3=>simp[go_sem]
  case b4=>intro c hc;rw[World.cell?_alloc_past _ _ _ (by simp),World.cell?_alloc_at _ _ _ _ (by simp)]
  rintro e w1 ⟨rfl,ab⟩;have ac:=zA ab;clear ab;go_wp2;go_ret;refine⟨rfl,?_⟩;exact((((((zF _ _).alloc (zD _) _).alloc (by simp) _).alloc (by simp;omega) _).alloc (by simp;omega) _).alloc (by simp;omega) _).trans (ac.out.mono (by simp;omega))
end Go.Proofs.YtkbgmcmcpbegjaaGreatDoor
