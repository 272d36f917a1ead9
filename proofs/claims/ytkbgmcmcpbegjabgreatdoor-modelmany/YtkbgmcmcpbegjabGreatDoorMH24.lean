/- BPath. -/
import Derived.Test.YtkbgmcmcpbegjabGreatDoorMH9
import Derived.Test.YtkbgmcmcpbegjabGreatDoorMH14
set_option maxRecDepth 100000
namespace Go.Proofs.YtkbgmcmcpbegjabGreatDoor
open Go.RowKit
theorem mayRq_path(t:Pt):mayRq ⟨1,[[120]],[((true,[120]),t,(true,[120]))],[]⟩=mayP t:=by
 have hn:namesP [((true,[120]),t,(true,[120]))]=[[120]]:=by simp[namesP,addN]
 have hw:wordsA ((true,[120]),t,(true,[120]))=true:=by
  simp only[wordsA,Bool.and_self];rfl
 cases hm:mayP t with
 |false=>simp[mayRq,mayQ,whyQ,hm]
 |true=>simp[mayRq,mayQ,whyQ,hm,hn,hw]
theorem one_txt{w:World}{g:Nat}{s:List UInt8}(hl:g<w.heap.size)(h:w.cell? ⟨g,0,none⟩=some (.string ⟨s.toArray⟩)):TxtS (fun _=>True) w (.slice (some ⟨g,0,none⟩) 1 1) [s]:=
 ⟨_,1,rfl,.inr ⟨g,0,rfl,trivial,hl,fun j x hx c u hu=>by
  have hj:j=0:=by have:=(zE.1 hx).1;simpa using this
  subst hj;simp at hx;subst hx;have hc:c=0:=by have:=(zE.1 hu).1;simpa using this
  subst hc;simp at hu;subst hu;exact h⟩⟩
theorem one_at{w:World}{g:Nat}{a:Am}(hl:g<w.heap.size)(h:∀c,c<7->w.cell? ⟨g,c,none⟩=(csA a)[c]?):AtsS (fun _=>True) w (.slice (some ⟨g,0,none⟩) 1 1) [a]:=
 ⟨_,1,rfl,.inr ⟨g,0,rfl,trivial,hl,fun j x hx c u hu=>by
  have hj:j=0:=by have:=(zE.1 hx).1;simpa using this
  subst hj;simp at hx;subst hx;have hc:c<7:=by have:=(zE.1 hu).1;simpa using this
  rw[Nat.zero_mul,Nat.zero_add,h c hc];exact hu⟩⟩
set_option maxHeartbeats 2000000 in
theorem pathMay_any{S:Nat->Prop}{w:World}{t:Vt}(h:VOk S w t):
 Calls Tryz.prog 48 #[encN t] w fun e w'=>e=.returned (.bool (mayP t.pt))/\Below w.heap.size w w':=by
 obtain⟨ao,cap,hv⟩:=h.parts.1.slice;have hkl:=h.parts.2.2.1;obtain⟨b,hb⟩:∃b,b=mayP t.pt:=⟨_,rfl⟩
 rw[<- hb];have HB:=zA hb;clear hb;have H:=zA h;obtain⟨k,wd,v,l⟩:=t;dsimp only at hv hkl;subst hv;clear h;show Calls Tryz.prog _ #[.agg #[.int .i64 k,.string ⟨wd.toArray⟩,.slice ao l.length cap]] w _;obtain⟨n,hn⟩:∃n,n=l.length:=⟨_,rfl⟩
 have HN:=zA hn;rw[<- hn]at H hkl ⊢;clear hn;have C:Hid (∀u,Below w.heap.size w u->w.heap.size+1+1+1<u.heap.size->u.cell? ⟨w.heap.size+1+1,0,none⟩=some (.string ⟨#[120]⟩)->(∀c,c<7->u.cell? ⟨w.heap.size+1+1+1,c,none⟩=(#[.bool true,.string ⟨#[120]⟩,.int .i64 k,.string ⟨wd.toArray⟩,.slice ao n cap,.bool true,.string ⟨#[120]⟩]:Array Value)[c]?)->
  Calls Tryz.prog 18 #[.agg #[.int .i64 1,.slice (some ⟨w.heap.size+1+1,0,none⟩) 1 1,.slice (some ⟨w.heap.size+1+1+1,0,none⟩) 1 1,.slice none 0 0]] u fun e w'=>e=.returned (.int .i64 (if b=true then 0 else 1))/\Below u.heap.size u w'):=zA (fun u hu hsz h1 h2=>by
  have hok:ROk (fun _=>True) u ⟨1,⟨.slice (some ⟨w.heap.size+1+1,0,none⟩) 1 1,[[120]],.slice (some ⟨w.heap.size+1+1+1,0,none⟩) 1 1,[((true,[120]),⟨k,wd,.slice ao n cap,l⟩,(true,[120]))]⟩,.slice none 0 0,[]⟩:=by
   refine⟨⟨one_txt (by omega) h1,by simp,by simp,⟨_,1,rfl,by simp⟩,one_at hsz (fun c hc=>?_),?_,?_,by simp⟩,SlS.nil _ _,by simp,by simp⟩
   . rw[h2 c hc];simp
   . intro a ha;simp at ha;subst ha;exact(H.out.below hu).sub (fun _ _ _=>trivial)
   . intro a ha;simp at ha;subst ha;exact⟨by simp,by simp⟩
  have:=check_any hok;have e:mayRq (Rm.rq ⟨1,⟨.slice (some ⟨w.heap.size+1+1,0,none⟩) 1 1,[[120]],.slice (some ⟨w.heap.size+1+1+1,0,none⟩) 1 1,[((true,[120]),⟨k,wd,.slice ao n cap,l⟩,(true,[120]))]⟩,.slice none 0 0,[]⟩)=b:=by
   have h3:=mayRq_path (Vt.pt ⟨k,wd,.slice ao n cap,l⟩);rw[HB.out,<- HN.out,<- h3];rfl
  rw[e]at this;exact this)
 clear H HB HN;cases b with
 |true=>
  go_enter Tryz.func48,Tryz.ntmps48;go_wp2_with fail;refine(C.out _ ?b1 ?b2 ?b3 ?b4).mono ?_
  case b1=>exact((((((zF _ _).alloc (zD _) _).alloc (by simp) _).alloc (by simp;omega) _).alloc (by simp;omega) _).alloc (by simp;omega) _)
  case b2=>simp
  case b3=>simp[go_sem]
  case b4=>intro c hc;rw[World.cell?_alloc_past _ _ _ (by simp),World.cell?_alloc_at _ _ _ _ (by simp)]
  rintro e w1 ⟨rfl,hb1⟩;have HB1:=zA hb1;clear hb1;go_wp2;go_ret;refine⟨rfl,?_⟩;exact((((((zF _ _).alloc (zD _) _).alloc (by simp) _).alloc (by simp;omega) _).alloc (by simp;omega) _).alloc (by simp;omega) _).trans (HB1.out.mono (by simp;omega))
 |false=>
  go_enter Tryz.func48,Tryz.ntmps48;go_wp2_with fail;refine(C.out _ ?b1 ?b2 ?b3 ?b4).mono ?_
  case b1=>exact((((((zF _ _).alloc (zD _) _).alloc (by simp) _).alloc (by simp;omega) _).alloc (by simp;omega) _).alloc (by simp;omega) _)
  case b2=>simp
  case b3=>simp[go_sem]
  case b4=>intro c hc;rw[World.cell?_alloc_past _ _ _ (by simp),World.cell?_alloc_at _ _ _ _ (by simp)]
  rintro e w1 ⟨rfl,hb1⟩;have HB1:=zA hb1;clear hb1;go_wp2;go_ret;refine⟨rfl,?_⟩;exact((((((zF _ _).alloc (zD _) _).alloc (by simp) _).alloc (by simp;omega) _).alloc (by simp;omega) _).alloc (by simp;omega) _).trans (HB1.out.mono (by simp;omega))
end Go.Proofs.YtkbgmcmcpbegjabGreatDoor
