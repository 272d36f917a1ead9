/- MMayW. -/
import Derived.Test.YtkbgmcmcpbegjaaGreatDoorZR23
set_option maxRecDepth 100000
set_option maxHeartbeats 40000000
namespace Go.Proofs.YtkbgmcmcpbegjaaGreatDoor
open Go.RowKit Go.Shelf
def Yes3(a b c:Bool)(P:Prop):Prop:=a=true->b=true->c=true->P
theorem mayQ_iff(vars:List Wd)(l:List Pa):mayQ vars l=true↔(1<=vars.length/\vars.length<=6)/\(1<=l.length/\l.length<=6)/\(∀v∈vars,isW v=true)/\(∀a∈l,isW a.1.2=true/\isW a.2.2.2=true/\mayP a.2.1=true)/\whyQ vars l=0:=by
 unfold mayQ;simp only[Bool.and_eq_true,decide_eq_true_eq,yF,jbU];constructor
 . rintro⟨⟨⟨h1,h2⟩,h3⟩,h4⟩;have hw:=h3;unfold whyQ at hw;by_cases c1:∃a∈l,mayP a.2.1=false
   . rw[if_pos c1]at hw;cases hw
   . rw[if_neg c1]at hw;by_cases c2:6<vars.length\/6<l.length\/6<(jai l).length
     . rw[if_pos c2]at hw;cases hw
     . rw[if_neg c2]at hw;by_cases c3:¬vars.Nodup
       . rw[if_pos c3]at hw;cases hw
       . rw[if_neg c3]at hw;by_cases c4:∃v∈vars,v∉jai l
         . rw[if_pos c4]at hw;cases hw
         . refine⟨by omega,by omega,fun v hv=>?_,fun a ha=>⟨(h4 a ha).1,(h4 a ha).2,?_⟩,h3⟩
           . have aa:v∈jai l:=Classical.byContradiction (fun h=>c4 ⟨v,hv,h⟩);obtain⟨a,ha,e⟩:=jiv aa;rcases e with e|e
             . rw[e];exact(h4 a ha).1
             . rw[e];exact(h4 a ha).2
           . cases hm:mayP a.2.1 with
             |true=>rfl
             |false=>exact absurd ⟨a,ha,hm⟩ c1
 . rintro⟨h1,h2,h3,h4,h5⟩;exact⟨⟨⟨by omega,by omega⟩,h5⟩,fun a ha=>⟨(h4 a ha).1,(h4 a ha).2.1⟩⟩
theorem rMayQ_any{S:Nat->Prop}{w:World}{q:Qm}(h:QOk S w q):
 Calls Tryz.prog 26 #[.agg #[.int .i64 1,q.vv,q.av,.slice none 0 0]] w fun e w'=>e=.returned (.bool (mayQ q.vars (q.atoms.map Am.pa)))/\Below w.heap.size w w':=by
 obtain⟨r,hr⟩:=eX (mayQ q.vars (q.atoms.map Am.pa));rw[<- hr];have HR:Hid (r=true↔(1<=q.vars.length/\q.vars.length<=6)/\(1<=q.atoms.length/\q.atoms.length<=6)/\(∀v∈q.vars,isW v=true)/\(∀a∈q.atoms,isW a.1.2=true/\isW a.2.2.2=true/\mayP a.2.1.pt=true)/\whyQ q.vars (q.atoms.map Am.pa)=0):=zA (by
  rw[hr,mayQ_iff,zH];constructor
  . rintro⟨h1,h2,h3,h4,h5⟩;exact⟨h1,h2,h3,fun a ha=>h4 a.pa (zW ha),h5⟩
  . rintro⟨h1,h2,h3,h4,h5⟩;refine⟨h1,h2,h3,fun a ha=>?_,h5⟩;obtain⟨b,hb,rfl⟩:=zV.1 ha;exact h4 b hb)
 have CW:Hid ((∀a∈q.atoms,mayP a.2.1.pt=true)->q.vars.length<=6->q.atoms.length<=6->∀u,Below w.heap.size w u->Calls Tryz.prog 50 #[.agg #[.int .i64 1,q.vv,q.av,.slice none 0 0]] u fun e w'=>e=.returned (.int .i64 (whyQ q.vars (q.atoms.map Am.pa):Nat))/\Below u.heap.size u w'):=zA (fun h1 h2 h3 u hu=>jkH (h.below hu) h1 h2 h3);have CM:Hid (∀a∈q.atoms,∀u,Below w.heap.size w u->Calls Tryz.prog 21 #[encN a.2.1] u fun e w'=>e=.returned (.bool (mayP a.2.1.pt))/\Below u.heap.size u w'):=zA (fun a ha u hu=>jgL ((h.ok a ha).below hu));have a3:=zA h.vb;have aY:=zA h.fine;obtain⟨va,vc,ap,_⟩:=h.vcap;obtain⟨aa,ac,ar⟩:=h.ats.slice;have HV:=zA h.vs;have HA:=zA h.ats;have bb:=zA h.ok;have a4:=h.vl;have a8:=h.al;obtain⟨na,aD⟩:=eX q.atoms.length;obtain⟨nv,aE⟩:=eX q.vars.length;rw[<- aD]at ar HR CW a8;rw[<- aE]at ap HR CW a4;rw[ar]at HA;rw[ap]at HV;rw[ap,ar]at CW;rw[ap,ar];have aX:=zA aD;have aW:=zA aE;clear h hr ap ar aD aE;obtain⟨o1,aG⟩:=eX (Obj.cells #[.int .i64 1,.slice va nv vc,.slice aa na ac,.slice none 0 0] 43);obtain⟨o2,aL⟩:=eX (Obj.cells #[.slice va nv vc,.slice aa na ac] 38);obtain⟨W1,ai⟩:=eX ((w.alloc o1).alloc o2);have ay:Below w.heap.size w W1:=by rw[ai];exact((zF _ _).alloc (zD _) _).alloc (by simp) _
 have az:W1.heap[w.heap.size]?=some o1:=by rw[ai,heap_alloc_old _ _ (by simp),heap_alloc_new]
 have ax:W1.heap[w.heap.size+1]?=some o2:=by
  rw[ai];have h:=heap_alloc_new (w.alloc o1) o2;have e:(w.alloc o1).heap.size=w.heap.size+1:=by simp
  rw[e]at h;exact h
 rw[aG]at az;rw[aL]at ax;have HC:Hid (∀u,Below W1.heap.size W1 u->(u.cell? ⟨w.heap.size,0,none⟩=some (.int .i64 1)/\u.cell? ⟨w.heap.size,1,none⟩=some (.slice va nv vc)/\u.cell? ⟨w.heap.size,2,none⟩=some (.slice aa na ac)/\u.cell? ⟨w.heap.size,3,none⟩=some (.slice none 0 0))/\(u.cell? ⟨w.heap.size+1,0,none⟩=some (.slice va nv vc)/\u.cell? ⟨w.heap.size+1,1,none⟩=some (.slice aa na ac))):=zA (fun u hu=>by
  have h1:=(hu.block _ (lt_of_block az)).trans az;have h2:=(hu.block _ (lt_of_block ax)).trans ax;refine⟨?_,?_⟩
  . simp[World.cell?,h1]
  . simp[World.cell?,h2])
 have aQ:Hid (W1=(w.alloc (.cells #[.int .i64 1,.slice va nv vc,.slice aa na ac,.slice none 0 0] 43)).alloc (.cells #[.slice va nv vc,.slice aa na ac] 38)):=zA (by rw[ai,aG,aL]);have af:Hid (∀u,Below W1.heap.size W1 u->Below w.heap.size w u):=zA (fun u hu=>ay.trans (hu.mono ay.size));have ag:Hid ((r=true->False)->r=false):=zA (fun h=>by cases r with|false=>rfl|true=>exact(h rfl).elim);have aw:Hid (Below w.heap.size w ((w.alloc (.cells #[.int .i64 1,.slice va nv vc,.slice aa na ac,.slice none 0 0] 43)).alloc (.cells #[.slice va nv vc,.slice aa na ac] 38))):=zA (by rw[<- aQ.out];exact ay);clear aG aL ai ay az ax;have e1:decide ((nv:Int)<1)=decide (nv<1):=by rw[decide_eq_decide];omega
 by_cases t1:(nv:Int)<1
 . have bc:decide ((nv:Int)<1)=true:=zU t1;have HT:Hid (r=false):=zA (ag.out (fun h=>by have:=(HR.out.1 h).1;omega));clear e1;go_enter Tryz.func26,Tryz.ntmps26;go_wp2;go_ret;exact⟨by rw[HT.out];rfl,aw.out⟩
 have bc:decide ((nv:Int)<1)=false:=decide_eq_false t1;clear e1;by_cases t2:(6:Int)<(nv:Int)
 . have a1:decide ((6:Int)<(nv:Int))=true:=zU t2;have HT:Hid (r=false):=zA (ag.out (fun h=>by have:=(HR.out.1 h).1;omega));go_enter Tryz.func26,Tryz.ntmps26;go_wp2;go_ret;exact⟨by rw[HT.out];rfl,aw.out⟩
 have a1:decide ((6:Int)<(nv:Int))=false:=decide_eq_false t2;by_cases t3:(na:Int)<1
 . have a6:decide ((na:Int)<1)=true:=zU t3;have HT:Hid (r=false):=zA (ag.out (fun h=>by have:=(HR.out.1 h).2.1;omega));go_enter Tryz.func26,Tryz.ntmps26;go_wp2;go_ret;exact⟨by rw[HT.out];rfl,aw.out⟩
 have a6:decide ((na:Int)<1)=false:=decide_eq_false t3;by_cases t4:(6:Int)<(na:Int)
 . have ba:decide ((6:Int)<(na:Int))=true:=zU t4;have HT:Hid (r=false):=zA (ag.out (fun h=>by have:=(HR.out.1 h).2.1;omega));go_enter Tryz.func26,Tryz.ntmps26;go_wp2;go_ret;exact⟨by rw[HT.out];rfl,aw.out⟩
 have ba:decide ((6:Int)<(na:Int))=false:=decide_eq_false t4;go_enter Tryz.func26,Tryz.ntmps26;go_wp2_with fail;rw[<- aQ.out];go_loopw [6] (fun c wr=>∃i:Nat,i<=nv/\c=.int .i64 i/\(∀x∈q.vars.take i,isW x=true)/\wr=W1) (fun c _=>nv-(intOf c).toNat)
 case atStart=>exact⟨0,zO _,rfl,by simp,rfl⟩
 case round=>
  obtain⟨i,hi,rfl,ae,a7⟩:=hrel;subst a7;obtain⟨W1,ai⟩:=eX wr;subst ai;have aU:=zA ae;clear ae;obtain⟨⟨c0,c1,c2,c3⟩,⟨d0,d1⟩⟩:=HC.out W1 (zF _ _);by_cases hlt:i<nv
  . have aH:(i:Int)<(nv:Int):=by omega
    obtain⟨x,hx⟩:∃x,q.vars[i]?=some x:=⟨_,zB (by rw[<- aW.out];exact hlt)⟩
    obtain⟨g,bd,a0,_,_,ab⟩:=(HV.out.below (af.out _ (zF _ _))).get hx;subst a0;have q0:=ab 0 _ rfl;rw[yC,yA]at q0;have CI:=zA (jd2 x W1 (by have:=a3.out x (zC hx);omega));obtain⟨z,hz⟩:=eX (isW x);rw[<- hz]at CI;have HX:=zA hx;have HZ:=zA hz;clear hx ab hz;cases z with
    |true=>
     have a9:Hid (∀y∈q.vars.take (i+1),isW y=true):=zA (jfD HX.out aU.out HZ.out.symm);go_wp2_with fail;refine CI.out.mono ?_;rintro e w5 ⟨rfl,ad⟩;rw[ad];clear ad;go_wp2;go_roundw
     case rel=>exact⟨i+1,by omega,by go_num,a9.out,by trivial⟩
     case measure=>simp[intOf];omega
    |false=>
     have HT:Hid (r=false):=zA (ag.out (fun h=>by
      have h2:=(HR.out.1 h).2.2.1 x (zC HX.out);rw[<- HZ.out]at h2;cases h2))
     go_wp2_with fail;refine CI.out.mono ?_;rintro e w5 ⟨rfl,ad⟩;rw[ad];clear ad;go_wp2;go_ret;exact⟨by rw[HT.out];rfl,af.out _ (zF _ _)⟩
  . have aH:¬(i:Int)<(nv:Int):=by omega
    have aK:Hid (∀x∈q.vars,isW x=true):=zA (by
     have h:=aU.out;rw[zJ (by rw[<- aW.out];omega)]at h;exact h)
    go_wp2_with fail;go_loopw [7] (fun c wr=>∃i:Nat,i<=na/\c=.int .i64 i/\(∀a∈q.atoms.take i,isW a.1.2=true/\isW a.2.2.2=true/\mayP a.2.1.pt=true)/\Below W1.heap.size W1 wr) (fun c _=>na-(intOf c).toNat)
    case atStart=>exact⟨0,zO _,rfl,by simp,zF _ _⟩
    case round=>
     clear c0 c1 c2 c3 d0 d1;obtain⟨j,hj,rfl,ae,aV⟩:=hrel;have aT:=zA ae;have ah:=zA aV;clear ae aV;obtain⟨wx,a2⟩:=eX wr;subst a2;obtain⟨⟨c0,c1,c2,c3⟩,⟨d0,d1⟩⟩:=HC.out _ ah.out;by_cases hltj:j<na
     . have au:(j:Int)<(na:Int):=by omega
       obtain⟨a,ha⟩:∃x,q.atoms[j]?=some x:=⟨_,zB (by rw[<- aX.out];exact hltj)⟩
       have ak:=zC ha;obtain⟨g,bd,a5,_,hgl,ab⟩:=(HA.out.below (af.out _ ah.out)).get ha;subst a5;obtain⟨q0,q1,q2,q3,q4,q5,q6⟩:=getA ab;have C1:=zA (fun u=>jd2 a.1.2 u (by have:=(aY.out a ak).1;omega));have C2:=zA (fun u=>jd2 a.2.2.2 u (by have:=(aY.out a ak).2;omega));have C3:=zA (CM.out a ak);obtain⟨z1,aC⟩:=eX (isW a.1.2);obtain⟨z2,aB⟩:=eX (isW a.2.2.2);obtain⟨z3,aA⟩:=eX (mayP a.2.1.pt);rw[<- aC]at C1;rw[<- aB]at C2;rw[<- aA]at C3;have aI:Hid (Yes3 z1 z2 z3 (∀b∈q.atoms.take (j+1),isW b.1.2=true/\isW b.2.2.2=true/\mayP b.2.1.pt=true)):=zA (fun h1 h2 h3 b hb=>by
        rw[zS,ha]at hb;rcases zL.1 hb with hb|hb
        . exact aT.out b hb
        . simp at hb;rw[hb,<- aC,<- aB,<- aA];exact⟨h1,h2,h3⟩)
       have aj:Hid (¬(z1=true/\z2=true/\z3=true)->r=false):=zA (fun hn=>ag.out (fun h=>hn (by
        have h2:=(HR.out.1 h).2.2.2.1 a ak;rw[<- aC,<- aB,<- aA]at h2;exact h2)))
       obtain⟨pa,pc,aF⟩:=(bb.out a ak).parts.1.slice;obtain⟨pn,aZ⟩:=eX a.2.1.kids.length;rw[<- aZ]at aF;obtain⟨⟨av,an⟩,⟨pk,pw,pv,pl⟩,⟨bv,bn⟩⟩:=a;dsimp only at q0 q1 q2 q3 q4 q5 q6 aF;subst aF;obtain⟨oa,aS⟩:=eX (Obj.cells #[.bool av,.string ⟨an.toArray⟩,.int .i64 pk,.string ⟨pw.toArray⟩,.slice pa pn pc,.bool bv,.string ⟨bn.toArray⟩] 55);have HOA:=zA aS;have am:Hid (Below W1.heap.size W1 (wx.alloc (.cells #[.bool av,.string ⟨an.toArray⟩,.int .i64 pk,.string ⟨pw.toArray⟩,.slice pa pn pc,.bool bv,.string ⟨bn.toArray⟩] 55))):=zA (ah.out.alloc ah.out.size _);clear ha ak ab aC aB aA aZ aS;cases z1 with
       |false=>
        have HT:=zA (aj.out (by simp));go_wp2_with fail;refine(C1.out _).mono ?_;rintro e w5 ⟨rfl,ad⟩;rw[ad];clear ad;go_wp2;go_ret;exact⟨by rw[HT.out];rfl,af.out _ am.out⟩
       |true=>
        cases z2 with
        |false=>
         have HT:=zA (aj.out (by simp));go_wp2_with fail;refine(C1.out _).mono ?_;rintro e w5 ⟨rfl,ad⟩;rw[ad];clear ad;go_wp2_with fail;refine(C2.out _).mono ?_;rintro e w6 ⟨rfl,aq⟩;rw[aq];clear aq;go_wp2;go_ret;exact⟨by rw[HT.out];rfl,af.out _ am.out⟩
        |true=>
         go_wp2_with fail;refine(C1.out _).mono ?_;rintro e w5 ⟨rfl,ad⟩;rw[ad];clear ad;go_wp2_with fail;refine(C2.out _).mono ?_;rintro e w6 ⟨rfl,aq⟩;rw[aq];clear aq;go_wp2_with fail;refine(C3.out _ (af.out _ am.out)).mono ?_;rintro e w7 ⟨rfl,aM⟩;have aN:=zA (am.out.trans (aM.mono am.out.size));clear aM;cases z3 with
         |false=>
          have HT:=zA (aj.out (by simp));go_wp2;go_ret;exact⟨by rw[HT.out];rfl,af.out _ aN.out⟩
         |true=>
          have HT:=zA (aI.out rfl rfl rfl);go_wp2;go_roundw
          case rel=>exact⟨j+1,by omega,by go_num,HT.out,aN.out⟩
          case measure=>simp[intOf];omega
     . have au:¬(j:Int)<(na:Int):=by omega
       have ao:Hid (∀a∈q.atoms,isW a.1.2=true/\isW a.2.2.2=true/\mayP a.2.1.pt=true):=zA (by
        have h:=aT.out;rw[zJ (by rw[<- aX.out];omega)]at h;exact h)
       have aR:=zA (CW.out (fun a ha=>(ao.out a ha).2.2) (by omega) (by omega));obtain⟨y,hy⟩:=eX (whyQ q.vars (q.atoms.map Am.pa));rw[<- hy]at aR;have HT:Hid (r=true↔y=0):=zA (by
        rw[HR.out,hy];exact⟨fun h=>h.2.2.2.2,fun h=>⟨by omega,by omega,aK.out,ao.out,h⟩⟩)
       clear hy;go_wp2_with fail;refine(aR.out _ (af.out _ ah.out)).mono ?_;rintro e w8 ⟨rfl,aP⟩;have aO:=zA (ah.out.trans (aP.mono ah.out.size));clear aP;by_cases hy0:y=0
       . have aJ:Hid (r=true):=zA (HT.out.2 hy0);subst hy0;go_wp2;go_ret;exact⟨by rw[aJ.out];rfl,af.out _ aO.out⟩
       . have aJ:Hid (r=false):=zA (ag.out (fun h=>hy0 (HT.out.1 h)));obtain⟨e1,e2⟩:=jaj (a:=(y:Int)) (b:=0) (by omega);clear hy0;go_wp2;go_ret;exact⟨by rw[aJ.out];rfl,af.out _ aO.out⟩
end Go.Proofs.YtkbgmcmcpbegjaaGreatDoor
