/- QFault, QMay. -/
import Derived.Test.YtkbgmcmcpbegjaaGreatDoorZR6
set_option maxRecDepth 100000
set_option maxHeartbeats 8000000
namespace Go.Proofs.YtkbgmcmcpbegjaaGreatDoor
open Go.RowKit
theorem getT{w:World}{g o:Nat}{s:List UInt8}(h:∀(c:Nat) u,(csT s)[c]?=some u->w.cell? ⟨g,o+c,none⟩=some u):w.cell? ⟨g,o,none⟩=some (.string ⟨s.toArray⟩):=h 0 _ rfl
theorem jjW{S:Nat->Prop}{w:World}{v:Value}{L:List (List UInt8)}(h:TxtS S w v L)(hl:L.length<=9223372036854775806)(s:List UInt8):
 Calls Tryz.prog 153 #[v,.string ⟨s.toArray⟩] w fun e w'=>(∃z:Int,e=.returned (.int .i64 z)/\decide (0<=z)=decide (s∈L))/\w'=w:=by
 obtain⟨ao,cap,rfl⟩:=h.slice;have H:=zA h;obtain⟨n,hn⟩:=eX L.length;rw[<- hn]at hl H ⊢;have HN:=zA hn;obtain⟨af,ab⟩:=eX (decide (s∈L));rw[<- ab];have HA:=zA ab;clear h hn ab;go_enter Tryz.func153,Tryz.ntmps153;go_wp2_with fail;go_loopw [8] (fun c wr=>∃i:Nat,i<=n/\c=.int .i64 i/\s∉L.take i/\wr=w) (fun c _=>n-(intOf c).toNat)
 case atStart=>exact⟨0,zO _,rfl,by simp,rfl⟩
 case round=>
  obtain⟨i,hi,rfl,ad,rfl⟩:=hrel;have ac:=zA ad;clear ad;by_cases hlt:i<n
  . have ae:(i:Int)<(n:Int):=by omega
    obtain⟨x,hx⟩:∃x,L[i]?=some x:=⟨_,zB (by rw[<- HN.out];exact hlt)⟩
    obtain⟨g,off,rfl,_,_,aa⟩:=H.out.get hx;have q0:=getT aa;rw[yC]at q0;have HX:=zA hx;clear hx aa;by_cases e:s=x
    . subst e;have HT:Hid (af=true):=zA (by rw[HA.out];exact zU (zC HX.out));go_wp2;go_ret;exact⟨⟨_,rfl,by rw[HT.out];simp⟩,rfl⟩
    . have e1:(s==x)=false:=by simpa using e
      have ag:Hid (s∉L.take (i+1)):=zA (by
       rw[zS,HX.out];intro h;rcases zL.1 h with h|h
       . exact ac.out h
       . simp at h;exact e h)
      go_wp2;go_roundw
      case rel=>exact⟨i+1,by omega,by go_num,ag.out,by trivial⟩
      case measure=>simp[intOf];omega
  . have ae:¬(i:Int)<(n:Int):=by omega
    have HF:Hid (af=false):=zA (by
     rw[HA.out];refine decide_eq_false (fun h=>ac.out ?_);rw[zJ (by rw[<- HN.out];omega)];exact h)
    go_wp2;go_ret;exact⟨⟨_,rfl,by rw[HF.out];rfl⟩,rfl⟩
theorem jdN{S:Nat->Prop}{w:World}{v:Value}{L:List (List UInt8)}(h:TxtS S w v L)(hl:L.length<=9223372036854775806)(s:List UInt8):
 Calls Tryz.prog 145 #[v,.string ⟨s.toArray⟩] w fun e w'=>e=.returned (.bool (decide (s∈L)))/\w'=w:=by
 have C:=zA (jjW h hl s);obtain⟨ans,aa⟩:=eX (decide (s∈L));rw[<- aa]at C ⊢;clear h hl aa;go_enter Tryz.func145,Tryz.ntmps145;go_wp2_with fail;refine C.out.mono ?_;rintro e w1 ⟨⟨z,rfl,hz⟩,rfl⟩;have HZ:=zA hz;clear hz;go_wp2;go_ret;exact⟨by rw[<- HZ.out];rfl,rfl⟩
theorem jeY(w:World)(ao:Option Addr)(n cap:Nat)(hn:n<=9223372036854775807):
 Calls Tryz.prog 129 #[.slice ao n cap] w fun e w'=>e=.returned (.int .i64 (if 64<n then 2 else 0))/\w'=w:=by
 by_cases h:64<n
 . have hI:(64:Int)<(n:Int):=by omega
   rw[if_pos h];go_enter Tryz.func129,Tryz.ntmps129;go_wp2;go_ret;exact⟨rfl,rfl⟩
 . have hI:¬(64:Int)<(n:Int):=by omega
   rw[if_neg h];go_enter Tryz.func129,Tryz.ntmps129;go_wp2;go_ret;exact⟨rfl,rfl⟩
theorem jlz{l:List Am}{i:Nat}{a:Am}(h:l[i]?=some a)(ha:∀x∈l.take i,mayP x.2.1.pt=true)(hm:mayP a.2.1.pt=true):∀x∈l.take (i+1),mayP x.2.1.pt=true:=by
 intro y hy;rw[zS,h]at hy;rcases zL.1 hy with hy|hy
 . exact ha y hy
 . simp at hy;subst hy;exact hm
theorem jlV{vars:List (List UInt8)}{l:List Am}{a:Am}(ha:a∈l)(hm:mayP a.2.1.pt=false):whyQ vars (l.map Am.pa)=100:=by
 rw[whyQ,if_pos ⟨a.pa,zW ha,hm⟩]
theorem jlu{l:List Am}(h:∀x∈l,mayP x.2.1.pt=true):¬ ∃a∈l.map Am.pa,mayP a.2.1=false:=by
 rintro⟨a,ha,hm⟩;obtain⟨x,hx,rfl⟩:=zV.1 ha;have:=h x hx;rw[show (Am.pa x).2.1=x.2.1.pt from rfl,this]at hm;cases hm
theorem jfn{l:List (List UInt8)}{i:Nat}{x:List UInt8}(h:l[i]?=some x)(hd:(l.take i).Nodup)(hm:x∉l.take i):(l.take (i+1)).Nodup:=by
 rw[zS,h];simp only[yQ];rw[List.nodup_append];exact⟨hd,by simp,by intro a ha b hb e;simp at hb;subst hb;subst e;exact hm ha⟩
theorem jgB{l:List (List UInt8)}{i:Nat}{x:List UInt8}(h:l[i]?=some x)(hm:x∈l.take i):¬l.Nodup:=by
 intro hd;have e:l=l.take i++l.drop i:=(List.take_append_drop i l).symm;rw[e]at hd;have h2:x∈l.drop i:=zC (i:=0) (by rw[List.getElem?_drop];simpa using h);exact(List.nodup_append.1 hd).2.2 x hm x h2 rfl
theorem jlA{S:Nat->Prop}{w:World}{ao:Option Addr}{n cap cap2 i:Nat}{L:List (List UInt8)}(h:TxtS S w (.slice ao n cap) L)(hi:i<=L.length):TxtS S w (.slice ao i cap2) (L.take i):=by
 obtain⟨a,c,e,h⟩:=h;injection e with e1 e2 e3;subst e1;refine⟨ao,cap2,by rw[zX];congr 1;omega,?_⟩;rcases h with rfl|⟨g,aa,e1,hs,hl,hc⟩
 . left;simp
 . refine .inr ⟨g,aa,e1,hs,hl,fun j x hx c u hu=>hc j x ?_ c u hu⟩;rw[List.getElem?_take]at hx;split at hx
   . exact hx
   . cases hx
theorem jeX{S:Nat->Prop}{w:World}{q:Qm}(h:QOk S w q):
 Calls Tryz.prog 127 #[encQ q] w fun e w'=>e=.returned (.int .i64 (whyQ q.vars (q.atoms.map Am.pa):Int))/\Below w.heap.size w w':=by
 obtain⟨va,vc,aO,aR⟩:=h.vcap;obtain⟨ao,aT,hv⟩:=h.ats.slice;have aX:=h.vl;have aQ:=h.al;have ay:=zA (fun u (hu:Below w.heap.size w u) (ha:q.atoms.length<=1000000000)=>jjb (h.below hu) ha);obtain⟨vv,vars,av,atoms⟩:=q;dsimp only at aO aR hv aX aQ ay ⊢;subst aO hv;have H:=zA h;obtain⟨ag,af⟩:=eX (whyQ vars (atoms.map Am.pa));rw[<- af];have HA:=zA af;obtain⟨n,hn⟩:=eX atoms.length;rw[<- hn]at aQ H ay ⊢;have HN:=zA hn;obtain⟨nv,aB⟩:=eX vars.length;rw[<- aB]at aX aR H ay ⊢;have ae:=zA aB;obtain⟨o,ho⟩:=eX (Obj.cells #[.slice va nv vc,.slice ao n aT] 38);have HO:=zA ho;have HC:Hid (∀wr,Below (w.alloc o).heap.size (w.alloc o) wr->wr.cell? ⟨w.heap.size,0,none⟩=some (.slice va nv vc)/\wr.cell? ⟨w.heap.size,1,none⟩=some (.slice ao n aT)):=zA (fun wr hb=>by
  have h:=jav hb;rw[HO.out]at h;exact⟨by simp[World.cell?,h],by simp[World.cell?,h]⟩)
 clear h hn aB ho af;go_enter Tryz.func127,Tryz.ntmps127;go_wp2_with fail;go_loopw [13] (fun c wr=>∃i:Nat,i<=n/\c=.int .i64 i/\(∀x∈atoms.take i,mayP x.2.1.pt=true)/\Below (w.alloc o).heap.size (w.alloc o) wr) (fun c _=>n-(intOf c).toNat)
 case atStart=>exact⟨0,zO _,rfl,by simp,by rw[HO.out];exact zF _ _⟩
 case round=>
  obtain⟨i,hi,rfl,ap,a0⟩:=hrel;have an:=zA ap;have ad:=zA a0;clear ap a0;by_cases hlt:i<n
  . have aE:(i:Int)<(n:Int):=by omega
    obtain⟨a,ha⟩:∃a,atoms[i]?=some a:=⟨_,zB (by rw[<- HN.out];exact hlt)⟩
    obtain⟨g,aY,rfl,_,_,aa⟩:=(H.out.ats.below (jaa ad.out)).get ha;obtain⟨q0,q1,q2,q3,q4,q5,q6⟩:=getA aa;have ah:=zC ha;have aJ:=H.out.ok a ah;obtain⟨xa,xc,ar⟩:=aJ.parts.1.slice;obtain⟨wx,aI⟩:=eX wr;subst aI;have HP:=zA (fun u (hu:Below w.heap.size w u)=>jfR (aJ.below hu));have ak:Hid (∀ob:Obj,Below (w.alloc o).heap.size (w.alloc o) (wx.alloc ob)):=zA (fun ob=>ad.out.alloc ad.out.size _);obtain⟨m,hm⟩:=eX (mayP a.2.1.pt);rw[<- hm]at HP;have HM:=zA hm;have HX:=zA ha;have a5:=zA ah;obtain⟨nx,aV⟩:=eX a.2.1.kids.length;rw[<- aV]at ar;clear ha aa hm ah aJ aV;cases m with
    |false=>
     have HF:Hid (ag=100):=zA (by rw[HA.out];exact jlV a5.out HM.out.symm);obtain⟨⟨b1,n1⟩,⟨xk,xw,xv,xl⟩,⟨b2,n2⟩⟩:=a;dsimp only at q0 q1 q2 q3 q4 q5 q6 ar HP;subst ar;go_wp2_with fail;refine(HP.out _ (jaa (ak.out _))).mono ?_;rintro e w2 ⟨rfl,ac⟩;have am:=zA ((ak.out _).trans (ac.mono (ak.out _).size));clear ac;go_wp2;go_ret;exact⟨by rw[HF.out];rfl,jaa am.out⟩
    |true=>
     have a1:=zA (jlz HX.out an.out HM.out.symm);obtain⟨⟨b1,n1⟩,⟨xk,xw,xv,xl⟩,⟨b2,n2⟩⟩:=a;dsimp only at q0 q1 q2 q3 q4 q5 q6 ar HP;subst ar;go_wp2_with fail;refine(HP.out _ (jaa (ak.out _))).mono ?_;rintro e w2 ⟨rfl,ac⟩;have am:=zA ((ak.out _).trans (ac.mono (ak.out _).size));clear ac;go_wp2;go_roundw
     case rel=>exact⟨i+1,by omega,by go_num,a1.out,am.out⟩
     case measure=>simp[intOf];omega
  . have aE:¬(i:Int)<(n:Int):=by omega
    have aj:Hid (¬ ∃a∈atoms.map Am.pa,mayP a.2.1=false):=zA (jlu (fun x hx=>an.out x (by rw[zJ (by rw[<- HN.out];omega)];exact hx)));obtain⟨c0,c1⟩:=HC.out _ ad.out;have aK:=zA (jaa ad.out);obtain⟨wx,aI⟩:=eX wr;subst aI;by_cases h6:6<nv
    . have a6:(6:Int)<(nv:Int):=by omega
      have HF:Hid (ag=2):=zA (by rw[HA.out,whyQ,if_neg aj.out,if_pos (.inl (by rw[<- ae.out];exact h6))]);go_wp2;go_ret;exact⟨by rw[HF.out];rfl,aK.out⟩
    . have a6:¬(6:Int)<(nv:Int):=by omega
      by_cases h7:6<n
      . have a7:(6:Int)<(n:Int):=by omega
        have HF:Hid (ag=2):=zA (by rw[HA.out,whyQ,if_neg aj.out,if_pos (.inr (.inl (by rw[zH,<- HN.out];exact h7)))]);go_wp2;go_ret;exact⟨by rw[HF.out];rfl,aK.out⟩
      . have a7:¬(6:Int)<(n:Int):=by omega
        obtain⟨NL,aL⟩:=eX (jai (atoms.map Am.pa));have aq:=zA aL;have aw:=zA (ay.out _ aK.out (by omega));rw[<- aL]at aw;clear aL;go_wp2_with fail;refine aw.out.mono ?_;rintro e w2 ⟨v2,rfl,ab,ac⟩;obtain⟨xa,xc,a2⟩:=jab ab;subst a2;have aW:Hid (TxtS (fun _=>True) w2 (.slice xa NL.length xc) NL):=zA ((jaD (enc:=csT) (fun _=>rfl) ab rfl).sub (fun _ _ _=>trivial));have am:=zA (ad.out.trans (ac.mono ad.out.size));have au:=zA (jaa am.out);obtain⟨nn,ax⟩:=eX NL.length;rw[<- ax]at aW ⊢;have aG:=zA ax;have hnb:nn<=2000000000:=by
         have:=jgV (atoms.map Am.pa);rw[<- aq.out,<- ax,zH,<- HN.out]at this;omega
        clear ab ac ax c0 c1;obtain⟨c0,c1⟩:=HC.out _ am.out;by_cases h8:6<nn
        . have a4:(6:Int)<(nn:Int):=by omega
          have HF:Hid (ag=2):=zA (by rw[HA.out,whyQ,if_neg aj.out,if_pos (.inr (.inr (by rw[<- aq.out,<- aG.out];exact h8)))]);go_wp2;go_ret;exact⟨by rw[HF.out];rfl,au.out⟩
        . have a4:¬(6:Int)<(nn:Int):=by omega
          have az:Hid (¬(6<vars.length\/6<(atoms.map Am.pa).length\/6<(jai (atoms.map Am.pa)).length)):=zA (by
           rw[<- ae.out,zH,<- HN.out,<- aq.out,<- aG.out];omega)
          have aA:=zA (H.out.vs.below au.out);go_wp2_with fail;go_loopw [40] (fun c wr=>∃i:Nat,i<=nv/\c=.int .i64 i/\(vars.take i).Nodup/\wr=w2) (fun c _=>nv-(intOf c).toNat)
          case atStart=>exact⟨0,zO _,rfl,by simp,rfl⟩
          case round=>
           obtain⟨k,hk,rfl,aZ,aC⟩:=hrel;subst aC;obtain⟨w2,a3⟩:=eX wr;subst a3;have aP:=zA aZ;clear aZ;by_cases hlk:k<nv
           . have aF:(k:Int)<(nv:Int):=by omega
             obtain⟨x,hx⟩:∃x,vars[k]?=some x:=⟨_,zB (by rw[<- ae.out];exact hlk)⟩
             obtain⟨g,aY,rfl,_,_,aa⟩:=aA.out.get hx;have q0:=getT aa;rw[yC]at q0;have HX:=zA hx;have hkc:(k:Int)<=(vc:Int):=by omega
             have ai:=zA (fun c=>jdN (jlA (cap2:=c) (i:=k) aA.out (by rw[<- ae.out];omega)) (by rw[zX];omega) x);obtain⟨m,hm⟩:=eX (decide (x∈vars.take k));rw[<- hm]at ai;have HM:=zA hm;clear hx aa hm;cases m with
             |true=>
              have HF:Hid (ag=1):=zA (by
               rw[HA.out,whyQ,if_neg aj.out,if_neg az.out,if_pos (jgB HX.out (of_decide_eq_true HM.out.symm))])
              go_wp2_with fail;refine(ai.out _).mono ?_;rintro e w3 ⟨rfl,rfl⟩;go_wp2;go_ret;exact⟨by rw[HF.out];rfl,au.out⟩
             |false=>
              have aM:=zA (jfn HX.out aP.out (of_decide_eq_false HM.out.symm));go_wp2_with fail;refine(ai.out _).mono ?_;rintro e w3 ⟨rfl,rfl⟩;go_wp2;go_roundw
              case rel=>exact⟨k+1,by omega,by go_num,aM.out,by trivial⟩
              case measure=>simp[intOf];omega
           . have aF:¬(k:Int)<(nv:Int):=by omega
             have aN:Hid (¬ ¬vars.Nodup):=zA (fun hn=>hn (by
              have:=aP.out;rwa[zJ (by rw[<- ae.out];omega)]at this))
             go_wp2_with fail;go_loopw [55] (fun c wr=>∃i:Nat,i<=nv/\c=.int .i64 i/\(∀v∈vars.take i,v∈NL)/\wr=w2) (fun c _=>nv-(intOf c).toNat)
             case atStart=>exact⟨0,zO _,rfl,by simp,rfl⟩
             case round=>
              obtain⟨j,hj,rfl,aS,aC⟩:=hrel;subst aC;have aU:=zA aS;clear aS;by_cases hlj:j<nv
              . have aD:(j:Int)<(nv:Int):=by omega
                obtain⟨x,hx⟩:∃x,vars[j]?=some x:=⟨_,zB (by rw[<- ae.out];exact hlj)⟩
                obtain⟨g,aY,rfl,_,_,aa⟩:=aA.out.get hx;have q0:=getT aa;rw[yC]at q0;have HX:=zA hx;have ai:=zA (jdN aW.out (by have:=aG.out;omega) x);obtain⟨m,hm⟩:=eX (decide (x∈NL));rw[<- hm]at ai;have HM:=zA hm;clear hx aa hm;cases m with
                |false=>
                 have HF:Hid (ag=91):=zA (by
                  rw[HA.out,whyQ,if_neg aj.out,if_neg az.out,if_neg aN.out,if_pos ⟨x,zC HX.out,by rw[<- aq.out];exact of_decide_eq_false HM.out.symm⟩])
                 go_wp2_with fail;refine ai.out.mono ?_;rintro e w3 ⟨rfl,rfl⟩;go_wp2;go_ret;exact⟨by rw[HF.out];rfl,au.out⟩
                |true=>
                 have aH:Hid (∀v∈vars.take (j+1),v∈NL):=zA (by
                  intro v hv;rw[zS,HX.out]at hv;rcases zL.1 hv with hv|hv
                  . exact aU.out v hv
                  . simp at hv;subst hv;exact of_decide_eq_true HM.out.symm)
                 go_wp2_with fail;refine ai.out.mono ?_;rintro e w3 ⟨rfl,rfl⟩;go_wp2;go_roundw
                 case rel=>exact⟨j+1,by omega,by go_num,aH.out,by trivial⟩
                 case measure=>simp[intOf];omega
              . have aD:¬(j:Int)<(nv:Int):=by omega
                have HF:Hid (ag=0):=zA (by
                 rw[HA.out,whyQ,if_neg aj.out,if_neg az.out,if_neg aN.out,if_neg];rintro⟨v,hv,hn⟩;rw[<- aq.out]at hn;refine hn (aU.out v ?_);rw[zJ (by rw[<- ae.out];omega)];exact hv)
                go_wp2;go_ret;exact⟨by rw[HF.out];rfl,au.out⟩
structure Rq where
 kind:Int
 vars:List (List UInt8)
 atoms:List Pa
 chgs:List Cg
def Rm.rq(r:Rm):Rq:=⟨r.kind,r.q.vars,r.q.atoms.map Am.pa,r.chgs⟩
def jbU(a:Pa):Bool:=isW a.1.2&&isW a.2.2.2
def jcZ(c:Cg):Bool:=isW c.2.1&&isW c.2.2.1&&isW c.2.2.2
def mayQ(vars:List (List UInt8))(l:List Pa):Bool:=decide (vars.length≠0)&&decide (l.length≠0)&&decide (whyQ vars l=0)&&l.all jbU
def mayC(l:List Cg):Bool:=decide (l.length≠0)&&decide (l.length<=64)&&l.all jcZ
def jdV(r:Rq):Bool:=if r.kind=1 then decide (r.chgs.length=0)&&mayQ r.vars r.atoms else if r.kind=2 then decide (r.vars.length=0)&&decide (r.atoms.length=0)&&mayC r.chgs else false
theorem jfD{α:Type}{f:α->Bool}{l:List α}{i:Nat}{a:α}(h:l[i]?=some a)(ha:∀x∈l.take i,f x=true)(hm:f a=true):∀x∈l.take (i+1),f x=true:=by
 intro y hy;rw[zS,h]at hy;rcases zL.1 hy with hy|hy
 . exact ha y hy
 . simp at hy;subst hy;exact hm
theorem jeU{S:Nat->Prop}{w:World}{q:Qm}(h:QOk S w q):
 Calls Tryz.prog 94 #[encQ q] w fun e w'=>e=.returned (.bool (mayQ q.vars (q.atoms.map Am.pa)))/\Below w.heap.size w w':=by
 obtain⟨va,vc,au,ax⟩:=h.vcap;obtain⟨ao,az,hv⟩:=h.ats.slice;have aC:=h.vl;have aw:=h.al;have HQ:=zA (fun u (hu:Below w.heap.size w u)=>jeX (h.below hu));obtain⟨vv,vars,av,atoms⟩:=q;dsimp only at au ax hv aC aw HQ ⊢;subst au hv;have H:=zA h;obtain⟨ag,ab⟩:=eX (mayQ vars (atoms.map Am.pa));rw[<- ab];have HA:=zA ab;obtain⟨n,hn⟩:=eX atoms.length;rw[<- hn]at aw H HQ ⊢;have HN:=zA hn;obtain⟨nv,ak⟩:=eX vars.length;rw[<- ak]at aC ax H HQ ⊢;have ay:=zA ak;obtain⟨o,ho⟩:=eX (Obj.cells #[.slice va nv vc,.slice ao n az] 38);have HO:=zA ho;have HB:Hid (∀a:Obj,Below w.heap.size w (w.alloc a)):=zA (fun a=>(zF _ _).alloc (zD _) _);have HC:Hid (∀wr,Below (w.alloc o).heap.size (w.alloc o) wr->wr.cell? ⟨w.heap.size,0,none⟩=some (.slice va nv vc)/\wr.cell? ⟨w.heap.size,1,none⟩=some (.slice ao n az)):=zA (fun wr hb=>by
  have h:=jav hb;rw[HO.out]at h;exact⟨by simp[World.cell?,h],by simp[World.cell?,h]⟩)
 clear h hn ak ho ab;by_cases h0:nv=0
 . have HF:Hid (ag=false):=zA (by rw[HA.out,mayQ,<- ay.out,h0];rfl);subst h0;go_enter Tryz.func94,Tryz.ntmps94;go_wp2;go_ret;exact⟨by rw[HF.out];rfl,HB.out _⟩
 . obtain⟨e1,e2⟩:=jaj (a:=(nv:Int)) (b:=0) (by omega);have aL:Hid (decide (vars.length≠0)=true):=zA (zU (by rw[<- ay.out];exact h0));clear h0;by_cases h1:n=0
   . have HF:Hid (ag=false):=zA (by rw[HA.out,mayQ,zH,<- HN.out,h1];simp);subst h1;go_enter Tryz.func94,Tryz.ntmps94;go_wp2;go_ret;exact⟨by rw[HF.out];rfl,HB.out _⟩
   . obtain⟨e3,e4⟩:=jaj (a:=(n:Int)) (b:=0) (by omega);have aM:Hid (decide ((atoms.map Am.pa).length≠0)=true):=zA (zU (by rw[zH,<- HN.out];exact h1));clear h1;obtain⟨y,hy⟩:=eX (whyQ vars (atoms.map Am.pa));have aq:=zA (HQ.out (w.alloc o) (HB.out _));rw[<- hy]at aq;have HY:=zA hy;clear hy;by_cases hy0:y=0
     . have aF:=zA (show whyQ vars (atoms.map Am.pa)=0 by rw[<- HY.out];exact hy0);subst hy0;go_enter Tryz.func94,Tryz.ntmps94;go_wp2_with fail;rw[<- HO.out];refine aq.out.mono ?_;rintro e w2 ⟨rfl,ai⟩;obtain⟨c0,c1⟩:=HC.out _ ai;have aJ:=zA ai;clear ai;go_wp2_with fail;go_loopw [23] (fun c wr=>∃i:Nat,i<=n/\c=.int .i64 i/\(∀x∈(atoms.map Am.pa).take i,jbU x=true)/\Below (w.alloc o).heap.size (w.alloc o) wr) (fun c _=>n-(intOf c).toNat)
       case atStart=>exact⟨0,zO _,rfl,by simp,aJ.out⟩
       case round=>
        obtain⟨i,hi,rfl,af,aE⟩:=hrel;have ae:=zA af;have aj:=zA aE;clear af aE;by_cases hlt:i<n
        . have ap:(i:Int)<(n:Int):=by omega
          obtain⟨a,ha⟩:∃a,atoms[i]?=some a:=⟨_,zB (by rw[<- HN.out];exact hlt)⟩
          obtain⟨g,off,rfl,_,_,aa⟩:=(H.out.ats.below (jaa aj.out)).get ha;obtain⟨q0,q1,q2,q3,q4,q5,q6⟩:=getA aa;have ac:=zC ha;obtain⟨xa,xc,ar⟩:=(H.out.ok a ac).parts.1.slice;obtain⟨wx,aG⟩:=eX wr;subst aG;have am:Hid (∀ob:Obj,Below (w.alloc o).heap.size (w.alloc o) (wx.alloc ob)):=zA (fun ob=>aj.out.alloc aj.out.size _);obtain⟨nx,aA⟩:=eX a.2.1.kids.length;rw[<- aA]at ar;have aK:Hid ((atoms.map Am.pa)[i]?=some a.pa):=zA (by rw[zI,ha];rfl);have aI:Hid (a.pa∈atoms.map Am.pa):=zA (zW ac);have I1:=zA (jdG a.1.2);have I2:=zA (jdG a.2.2.2);have ad:Hid (jbU a.pa=(isW a.1.2&&isW a.2.2.2)):=zA rfl;obtain⟨m1,aD⟩:=eX (isW a.1.2);obtain⟨m2,aB⟩:=eX (isW a.2.2.2);rw[<- aD]at I1 ad;rw[<- aB]at I2 ad;have an:Hid (jbU a.pa=false->ag=false):=zA (fun hn=>by
           rw[HA.out,mayQ];have:(atoms.map Am.pa).all jbU=false:=List.all_eq_false.2 ⟨a.pa,aI.out,by rw[hn];decide⟩;rw[this];simp)
          have ah:Hid (jbU a.pa=true->∀x∈(atoms.map Am.pa).take (i+1),jbU x=true):=zA (fun hn=>jfD aK.out ae.out hn);clear ha aa ac aA aD aB;obtain⟨W,hW⟩:=eX (jbU a.pa);rw[<- hW]at ad an ah;obtain⟨⟨b1,n1⟩,⟨xk,xw,xv,xl⟩,⟨b2,n2⟩⟩:=a;dsimp only at q0 q1 q2 q3 q4 q5 q6 ar I1 I2;subst ar;clear hW;cases m1 with
          |false=>
           have HF:=zA (an.out (by rw[ad.out];rfl));go_wp2_with fail;refine(I1.out _).mono ?_;rintro e w3 ⟨rfl,hw⟩;subst hw;go_wp2;go_ret;exact⟨by rw[HF.out];rfl,jaa (am.out _)⟩
          |true=>
           cases m2 with
           |false=>
            have HF:=zA (an.out (by rw[ad.out];rfl));go_wp2_with fail;refine(I1.out _).mono ?_;rintro e w3 ⟨rfl,hw⟩;subst hw;go_wp2_with fail;refine(I2.out _).mono ?_;rintro e w3 ⟨rfl,hw⟩;subst hw;go_wp2;go_ret;exact⟨by rw[HF.out];rfl,jaa (am.out _)⟩
           |true=>
            have aH:=zA (ah.out (by rw[ad.out];rfl));go_wp2_with fail;refine(I1.out _).mono ?_;rintro e w3 ⟨rfl,hw⟩;subst hw;go_wp2_with fail;refine(I2.out _).mono ?_;rintro e w3 ⟨rfl,hw⟩;subst hw;go_wp2;go_roundw
            case rel=>exact⟨i+1,by omega,by go_num,aH.out,am.out _⟩
            case measure=>simp[intOf];omega
        . have ap:¬(i:Int)<(n:Int):=by omega
          have HF:Hid (ag=true):=zA (by
           have:(atoms.map Am.pa).all jbU=true:=yF.2 (fun x hx=>ae.out x (by
            rw[zJ (by rw[zH,<- HN.out];omega)];exact hx))
           rw[HA.out,mayQ,aL.out,aM.out,aF.out,this];rfl)
          go_wp2;go_ret;exact⟨by rw[HF.out];rfl,jaa aj.out⟩
     . obtain⟨e5,e6⟩:=jaj (a:=(y:Int)) (b:=0) (by omega);have HF:Hid (ag=false):=zA (by
        rw[HA.out,mayQ,<- HY.out,decide_eq_false hy0];simp)
       clear hy0;go_enter Tryz.func94,Tryz.ntmps94;go_wp2_with fail;rw[<- HO.out];refine aq.out.mono ?_;rintro e w2 ⟨rfl,ai⟩;go_wp2;go_ret;exact⟨by rw[HF.out];rfl,jaa ai⟩
theorem jeT{S:Nat->Prop}{w:World}{v:Value}{l:List Cg}(h:CgsS S w v l)(hcl:l.length<=9223372036854775807):
 Calls Tryz.prog 95 #[v] w fun e w'=>e=.returned (.bool (mayC l))/\Below w.heap.size w w':=by
 obtain⟨ca,cc,rfl⟩:=h.slice;have H:=zA h;obtain⟨n,hn⟩:=eX l.length;rw[<- hn]at hcl H ⊢;have HN:=zA hn;obtain⟨al,ac⟩:=eX (mayC l);rw[<- ac];have HA:=zA ac;clear h hn ac;by_cases h0:n=0
 . have HF:Hid (al=false):=zA (by rw[HA.out,mayC,<- HN.out,h0];rfl);subst h0;go_enter Tryz.func95,Tryz.ntmps95;go_wp2;go_ret;exact⟨by rw[HF.out];rfl,zF _ _⟩
 . obtain⟨e1,e2⟩:=jaj (a:=(n:Int)) (b:=0) (by omega);have aw:Hid (decide (l.length≠0)=true):=zA (zU (by rw[<- HN.out];exact h0));clear h0;have aj:=zA (fun u=>jeY u ca n cc hcl);by_cases h64:64<n
   . rw[if_pos h64]at aj;have HF:Hid (al=false):=zA (by rw[HA.out,mayC,<- HN.out,decide_eq_false (show ¬n<=64 by omega)];simp);clear h64;go_enter Tryz.func95,Tryz.ntmps95;go_wp2_with fail;refine(aj.out _).mono ?_;rintro e w3 ⟨rfl,hw⟩;subst hw;go_wp2;go_ret;exact⟨by rw[HF.out];rfl,zF _ _⟩
   . rw[if_neg h64]at aj;have ay:Hid (decide (l.length<=64)=true):=zA (zU (by rw[<- HN.out];omega));clear h64;go_enter Tryz.func95,Tryz.ntmps95;go_wp2_with fail;refine(aj.out _).mono ?_;rintro e w3 ⟨rfl,hw⟩;subst hw;obtain⟨w,hw⟩:=eX w3;subst hw;go_wp2_with fail;go_loopw [15] (fun c wr=>∃i:Nat,i<=n/\c=.int .i64 i/\(∀x∈l.take i,jcZ x=true)/\Below w.heap.size w wr) (fun c _=>n-(intOf c).toNat)
     case atStart=>exact⟨0,zO _,rfl,by simp,zF _ _⟩
     case round=>
      obtain⟨i,hi,rfl,ag,aq⟩:=hrel;have af:=zA ag;have ak:=zA aq;clear ag aq;by_cases hlt:i<n
      . have am:(i:Int)<(n:Int):=by omega
        obtain⟨a,ha⟩:∃a,l[i]?=some a:=⟨_,zB (by rw[<- HN.out];exact hlt)⟩
        obtain⟨g,off,rfl,_,_,aa⟩:=(H.out.below ak.out).get ha;obtain⟨q0,q1,q2,q3⟩:=getC aa;have ae:=zC ha;obtain⟨wx,av⟩:=eX wr;subst av;have ah:Hid (∀ob:Obj,Below w.heap.size w (wx.alloc ob)):=zA (fun ob=>ak.out.alloc ak.out.size _);have au:=zA ha;have ar:=zA ae;have I1:=zA (jdG a.2.1);have I2:=zA (jdG a.2.2.1);have I3:=zA (jdG a.2.2.2);have ab:Hid (jcZ a=(isW a.2.1&&isW a.2.2.1&&isW a.2.2.2)):=zA rfl;obtain⟨m1,ao⟩:=eX (isW a.2.1);obtain⟨m2,an⟩:=eX (isW a.2.2.1);obtain⟨m3,ap⟩:=eX (isW a.2.2.2);rw[<- ao]at I1 ab;rw[<- an]at I2 ab;rw[<- ap]at I3 ab;have ai:Hid (jcZ a=false->al=false):=zA (fun hn=>by
         rw[HA.out,mayC];have:l.all jcZ=false:=List.all_eq_false.2 ⟨a,ar.out,by rw[hn];decide⟩;rw[this];simp)
        have ad:Hid (jcZ a=true->∀x∈l.take (i+1),jcZ x=true):=zA (fun hn=>jfD au.out af.out hn);obtain⟨W,hW⟩:=eX (jcZ a);rw[<- hW]at ab ai ad;obtain⟨b0,n1,n2,n3⟩:=a;dsimp only at q0 q1 q2 q3 I1 I2 I3;clear ha aa ae ao an ap hW;cases m1 with
        |false=>
         have HF:=zA (ai.out (by rw[ab.out];rfl));go_wp2_with fail;refine(I1.out _).mono ?_;rintro e w4 ⟨rfl,hw⟩;subst hw;go_wp2;go_ret;exact⟨by rw[HF.out];rfl,ah.out _⟩
        |true=>
         cases m2 with
         |false=>
          have HF:=zA (ai.out (by rw[ab.out];rfl));go_wp2_with fail;refine(I1.out _).mono ?_;rintro e w4 ⟨rfl,hw⟩;subst hw;go_wp2_with fail;refine(I2.out _).mono ?_;rintro e w4 ⟨rfl,hw⟩;subst hw;go_wp2;go_ret;exact⟨by rw[HF.out];rfl,ah.out _⟩
         |true=>
          cases m3 with
          |false=>
           have HF:=zA (ai.out (by rw[ab.out];rfl));go_wp2_with fail;refine(I1.out _).mono ?_;rintro e w4 ⟨rfl,hw⟩;subst hw;go_wp2_with fail;refine(I2.out _).mono ?_;rintro e w4 ⟨rfl,hw⟩;subst hw;go_wp2_with fail;refine(I3.out _).mono ?_;rintro e w4 ⟨rfl,hw⟩;subst hw;go_wp2;go_ret;exact⟨by rw[HF.out];rfl,ah.out _⟩
          |true=>
           have ax:=zA (ad.out (by rw[ab.out];rfl));go_wp2_with fail;refine(I1.out _).mono ?_;rintro e w4 ⟨rfl,hw⟩;subst hw;go_wp2_with fail;refine(I2.out _).mono ?_;rintro e w4 ⟨rfl,hw⟩;subst hw;go_wp2_with fail;refine(I3.out _).mono ?_;rintro e w4 ⟨rfl,hw⟩;subst hw;go_wp2;go_roundw
           case rel=>exact⟨i+1,by omega,by go_num,ax.out,ah.out _⟩
           case measure=>simp[intOf];omega
      . have am:¬(i:Int)<(n:Int):=by omega
        have HF:Hid (al=true):=zA (by
         have:l.all jcZ=true:=yF.2 (fun x hx=>af.out x (by
          rw[zJ (by rw[<- HN.out];omega)];exact hx))
         rw[HA.out,mayC,aw.out,ay.out,this];rfl)
        go_wp2;go_ret;exact⟨by rw[HF.out];rfl,ak.out⟩
theorem jj1{S:Nat->Prop}{w:World}{r:Rm}(h:ROk S w r):
 Calls Tryz.prog 70 #[encR r] w fun e w'=>e=.returned (.bool (jdV r.rq))/\Below w.heap.size w w':=by
 have HB:Hid (∀a:Obj,Below w.heap.size w (w.alloc a)):=zA (fun a=>(zF _ _).alloc (zD _) _);have HQ:=zA (fun u (hu:Below w.heap.size w u)=>jeU (h.q.below hu));have HC:=zA (fun u (hu:Below w.heap.size w u)=>jeT (h.cs.below hu) h.cl);obtain⟨va,vc,ak,aw⟩:=h.q.vcap;obtain⟨ao,ay,hv⟩:=h.q.ats.slice;obtain⟨ca,cc,ap⟩:=h.cs.slice;have aq:=h.cl;have am:=h.q.vl;have an:=h.q.al;obtain⟨k,⟨vv,ab,av,aa⟩,cv,ac⟩:=r;dsimp only at ak hv ap aq am an HQ HC;subst ak hv ap;obtain⟨ae,ad⟩:=eX (jdV (Rm.rq ⟨k,⟨.slice va ab.length vc,ab,.slice ao aa.length ay,aa⟩,.slice ca ac.length cc,ac⟩));rw[<- ad];have HA:=zA ad;obtain⟨mq,ag⟩:=eX (mayQ ab (aa.map Am.pa));obtain⟨mc,aj⟩:=eX (mayC ac);rw[<- ag]at HQ;rw[<- aj]at HC;have az:=zA ag;have au:=zA aj;obtain⟨n,hn⟩:=eX aa.length;obtain⟨nv,af⟩:=eX ab.length;obtain⟨nc,ai⟩:=eX ac.length;rw[<- hn]at an HQ ⊢;rw[<- af]at am HQ ⊢;rw[<- ai]at aq HC ⊢;have HN:=zA hn;have ax:=zA af;have ar:=zA ai;clear h aw ad ag aj hn af ai;by_cases k1:k=1
 . subst k1;have HE:Hid (ae=(decide (nc=0)&&mq)):=zA (by rw[HA.out,az.out,ar.out];rfl);by_cases h0:nc=0
   . subst h0;go_enter Tryz.func70,Tryz.ntmps70;go_wp2_with fail;refine(HQ.out _ (HB.out _)).mono ?_;rintro e w2 ⟨rfl,ah⟩;go_wp2;go_ret;exact⟨by rw[HE.out];simp,(HB.out _).trans (ah.mono (by simp))⟩
   . obtain⟨e1,e2⟩:=jaj (a:=(nc:Int)) (b:=0) (by omega);have HF:Hid (ae=false):=zA (by rw[HE.out,decide_eq_false h0];rfl);clear h0;go_enter Tryz.func70,Tryz.ntmps70;go_wp2;go_ret;exact⟨by rw[HF.out];rfl,HB.out _⟩
 . obtain⟨a1,a2⟩:=jaj k1;by_cases k2:k=2
   . subst k2;have HE:Hid (ae=(decide (nv=0)&&decide (n=0)&&mc)):=zA (by
      rw[HA.out,au.out,ax.out,HN.out];simp[jdV,Rm.rq])
     clear k1;by_cases h0:nv=0
     . subst h0;by_cases h1:n=0
       . subst h1;go_enter Tryz.func70,Tryz.ntmps70;go_wp2_with fail;refine(HC.out _ (HB.out _)).mono ?_;rintro e w2 ⟨rfl,ah⟩;go_wp2;go_ret;exact⟨by rw[HE.out];simp,(HB.out _).trans (ah.mono (by simp))⟩
       . obtain⟨e1,e2⟩:=jaj (a:=(n:Int)) (b:=0) (by omega);have HF:Hid (ae=false):=zA (by rw[HE.out,decide_eq_false h1];rfl);clear h1;go_enter Tryz.func70,Tryz.ntmps70;go_wp2;go_ret;exact⟨by rw[HF.out];rfl,HB.out _⟩
     . obtain⟨e1,e2⟩:=jaj (a:=(nv:Int)) (b:=0) (by omega);have HF:Hid (ae=false):=zA (by rw[HE.out,decide_eq_false h0];rfl);clear h0;go_enter Tryz.func70,Tryz.ntmps70;go_wp2;go_ret;exact⟨by rw[HF.out];rfl,HB.out _⟩
   . obtain⟨a3,a4⟩:=jaj k2;have HF:Hid (ae=false):=zA (by rw[HA.out];simp[jdV,Rm.rq,k1,k2]);clear k1 k2;go_enter Tryz.func70,Tryz.ntmps70;go_wp2;go_ret;exact⟨by rw[HF.out];rfl,HB.out _⟩
theorem jgv{S:Nat->Prop}{w:World}{r:Rm}(h:ROk S w r):
 Calls Tryz.prog 40 #[encR r] w fun e w'=>e=.returned (.int .i64 (if jdV r.rq=true then 0 else 1))/\Below w.heap.size w w':=by
 have HB:Hid (∀a:Obj,Below w.heap.size w (w.alloc a)):=zA (fun a=>(zF _ _).alloc (zD _) _);have HM:=zA (fun u (hu:Below w.heap.size w u)=>jj1 (h.below hu));obtain⟨va,vc,ac,ad⟩:=h.q.vcap;obtain⟨ao,cap,hv⟩:=h.q.ats.slice;obtain⟨ca,cc,ab⟩:=h.cs.slice;obtain⟨m,hm⟩:=eX (jdV r.rq);rw[<- hm]at HM ⊢;obtain⟨k,⟨vv,vars,av,atoms⟩,cv,chgs⟩:=r;dsimp only at ac hv ab HM;subst ac hv ab;clear h ad hm;cases m with
 |true=>
  go_enter Tryz.func40,Tryz.ntmps40;go_wp2_with fail;refine(HM.out _ (HB.out _)).mono ?_;rintro e w2 ⟨rfl,aa⟩;go_wp2;go_ret;exact⟨rfl,(HB.out _).trans (aa.mono (by simp))⟩
 |false=>
  go_enter Tryz.func40,Tryz.ntmps40;go_wp2_with fail;refine(HM.out _ (HB.out _)).mono ?_;rintro e w2 ⟨rfl,aa⟩;go_wp2;go_ret;exact⟨rfl,(HB.out _).trans (aa.mono (by simp))⟩
end Go.Proofs.YtkbgmcmcpbegjaaGreatDoor
