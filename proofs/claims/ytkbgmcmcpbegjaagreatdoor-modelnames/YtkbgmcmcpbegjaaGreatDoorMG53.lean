/- MMay, MMayW. -/
import Derived.Test.YtkbgmcmcpbegjaaGreatDoorMG41
import Derived.Test.YtkbgmcmcpbegjaaGreatDoorMG16
import Derived.Test.YtkbgmcmcpbegjaaGreatDoorMG45
set_option maxRecDepth 100000
namespace Go.Proofs.YtkbgmcmcpbegjaaGreatDoor
open Go.RowKit Go.Shelf
theorem may_bounds{t:Pt}(h:mayP t=true):leaves t<=24/\high t<=12:=by
 simp only[mayP,Bool.and_eq_true,decide_eq_true_eq]at h;exact⟨h.2,high_shaped 12 t h.1⟩
theorem mem_addN{l:List Wd}{t:Tm}{s:Wd}(h:s∈addN l t):s∈l\/s=t.2:=by
 unfold addN at h;split at h
 . rcases zM.1 h with h|h
   . exact .inl h
   . simp at h;exact .inr h
 . exact .inl h
theorem mem_namesP{l:List Pa}{s:Wd}(h:s∈namesP l):∃a∈l,s=a.1.2\/s=a.2.2.2:=by
 have key:∀(l:List Pa) (n:List Wd),s∈l.foldl (fun n a=>addN (addN n a.1) a.2.2) n->s∈n\/∃a∈l,s=a.1.2\/s=a.2.2.2:=by
  intro l;induction l with
  |nil=>intro n h;exact .inl h
  |cons a l ih=>
   intro n h;rw[yM]at h;rcases ih _ h with h|⟨b,hb,h⟩
   . rcases mem_addN h with h|h
     . rcases mem_addN h with h|h
       . exact .inl h
       . exact .inr ⟨a,zL ..,.inl h⟩
     . exact .inr ⟨a,zL ..,.inr h⟩
   . exact .inr ⟨b,zP _ hb,h⟩
 rcases key l [] h with h|h
 . simp at h
 . exact h
set_option maxHeartbeats 4000000 in
theorem rAlike_any{S:Nat->Prop}{w:World}{v:Value}{L:List Wd}(h:TxtS S w v L)(hc:CapS v L.length)(hl:L.length<=1000000):
 Calls Tryz.prog 80 #[v] w fun e w'=>e=.returned (.bool (decide (¬L.Nodup)))/\Below w.heap.size w w':=by
 obtain⟨la,lc,rfl,hlc⟩:=hc;have H:=zA h;obtain⟨n,hn⟩:∃n,n=L.length:=⟨_,rfl⟩
 rw[<- hn]at H hl hlc ⊢;have HN:=zA hn;obtain⟨r,hr⟩:∃r,r=decide (¬L.Nodup):=⟨_,rfl⟩
 rw[<- hr];have HR:=zA hr;clear h hn hr;go_enter Tryz.func80,Tryz.ntmps80;go_wp2_with fail;go_loopw [3] (fun c wr=>∃i:Nat,i<=n/\c=.int .i64 i/\(L.take i).Nodup/\Below w.heap.size w wr) (fun c _=>n-(intOf c).toNat)
 case atStart=>exact⟨0,zO _,rfl,by simp,zE _ _⟩
 case round=>
  obtain⟨i,hi,rfl,hnd,hbq⟩:=hrel;have HND:=zA hnd;have HBQ:=zA hbq;clear hnd hbq;by_cases hlt:i<n
  . have hltI:(i:Int)<(n:Int):=by omega
    obtain⟨x,hx⟩:∃x,L[i]?=some x:=⟨_,zB (by rw[<- HN.out];exact hlt)⟩
    obtain⟨g,off,hla,_,_,hcell⟩:=(H.out.below HBQ.out).get hx;subst hla;have q0:=hcell 0 _ rfl;rw[yD,yA]at q0;have hilc:(i:Int)<=(lc:Int):=by omega
    obtain⟨z,hz⟩:∃z,z=decide (x∈L.take i):=⟨_,rfl⟩
    have C:Hid (∀u,Below w.heap.size w u->Calls Tryz.prog 69 #[.slice (some ⟨g,off,none⟩) i lc,.string ⟨x.toArray⟩] u fun e w'=>e=.returned (.bool z)/\w'=u):=zA (fun u hu=>by rw[hz];exact rInQ_any (sl_take (H.out.below hu) (by rw[<- HN.out];omega)) (by rw[zX];omega) x);have HX:=zA hx;have HZ:=zA hz;clear hx hcell hz;cases z with
    |true=>
     have HT:Hid (r=true):=zA (by rw[HR.out];exact zU (not_nodup HX.out (of_decide_eq_true HZ.out.symm)));go_wp2_with fail;go_quiet (first|(go_at_call 69;exact Calls.quiet_of_same (C.out _ (below_drewN HBQ.out _))));have HB9:=zA (below_drewN HBQ.out nq);go_wp2;go_ret;exact⟨by rw[HT.out];rfl,HB9.out⟩
    |false=>
     have HT:Hid ((L.take (i+1)).Nodup):=zA (nodup_snoc HX.out HND.out (of_decide_eq_false HZ.out.symm));go_wp2_with fail;go_quiet (first|(go_at_call 69;exact Calls.quiet_of_same (C.out _ (below_drewN HBQ.out _))));have HB9:=zA (below_drewN HBQ.out nq);go_wp2;go_roundw
     case rel=>exact⟨i+1,by omega,by go_num,HT.out,HB9.out⟩
     case measure=>simp[intOf];omega
  . have hltI:¬(i:Int)<(n:Int):=by omega
    have HT:Hid (r=false):=zA (by
     rw[HR.out];refine decide_eq_false (fun h=>h ?_);have:=HND.out;rw[zJ (by rw[<- HN.out];omega)]at this;exact this)
    go_wp2;go_ret;exact⟨by rw[HT.out];rfl,HBQ.out⟩
theorem why_may{vars:List Wd}{l:List Pa}(hm:∀a∈l,mayP a.2.1=true)(hv:vars.length<=6)(hl:l.length<=6):whyQ vars l=if 6<(namesP l).length then 2 else if ¬vars.Nodup then 1 else if ∃v∈vars,v∉namesP l then 91 else 0:=by
 have h1:¬ ∃a∈l,mayP a.2.1=false:=by
  rintro⟨a,ha,h⟩;rw[hm a ha]at h;cases h
 unfold whyQ;rw[if_neg h1];by_cases h2:6<(namesP l).length
 . rw[if_pos (.inr (.inr h2)),if_pos h2]
 . rw[if_neg (by omega),if_neg h2]
set_option maxHeartbeats 40000000 in
theorem rWhy_any{S:Nat->Prop}{w:World}{q:Qm}(h:QOk S w q)(hm:∀a∈q.atoms,mayP a.2.1.pt=true)(hv6:q.vars.length<=6)(ha6:q.atoms.length<=6):
 Calls Tryz.prog 50 #[.agg #[.int .i64 1,q.vv,q.av,.slice none 0 0]] w fun e w'=>e=.returned (.int .i64 (whyQ q.vars (q.atoms.map Am.pa):Nat))/\Below w.heap.size w w':=by
 obtain⟨r,hr⟩:∃r,r=whyQ q.vars (q.atoms.map Am.pa):=⟨_,rfl⟩
 rw[<- hr];obtain⟨NM,hNM⟩:∃N,N=namesP (q.atoms.map Am.pa):=⟨_,rfl⟩
 have HR:Hid (r=if 6<NM.length then 2 else if ¬q.vars.Nodup then 1 else if ∃v∈q.vars,v∉NM then 91 else 0):=zA (by
  rw[hr,hNM];refine why_may (fun a ha=>?_) hv6 (by rw[zH];exact ha6);obtain⟨b,hb,rfl⟩:=zV.1 ha;exact hm b hb)
 have hNl:NM.length<=12:=by rw[hNM];have:=names_lenM (q.atoms.map Am.pa);rw[zH]at this;omega
 have CN:Hid (∀u,Below w.heap.size w u->Calls Tryz.prog 38 #[.agg #[q.vv,q.av]] u fun e w'=>∃v,e=.returned v/\w'.ownsRow u.heap.size 9 1 v NM.length (NM.flatMap csT)/\Below u.heap.size u w'):=zA (fun u hu=>by rw[hNM];exact rNames_any (h.below hu) (by omega));have CP:Hid (∀a∈q.atoms,∀u,Below w.heap.size w u->Calls Tryz.prog 22 #[encN a.2.1] u fun e w'=>e=.returned (.int .i64 (leaves a.2.1.pt:Int))/\Below u.heap.size u w'):=zA (fun a ha u hu=>rPlaces_any a.2.1 u (by have:=(may_bounds (hm a ha)).1;omega) ((h.ok a ha).below hu));have CD:Hid (∀a∈q.atoms,∀u,Below w.heap.size w u->Calls Tryz.prog 23 #[encN a.2.1] u fun e w'=>e=.returned (.int .i64 (high a.2.1.pt:Int))/\Below u.heap.size u w'):=zA (fun a ha u hu=>rDeep_any a.2.1 u (by have:=(may_bounds (hm a ha)).2;omega) ((h.ok a ha).below hu));have HMB:Hid (∀a∈q.atoms,leaves a.2.1.pt<=24/\high a.2.1.pt<=12):=zA (fun a ha=>may_bounds (hm a ha));obtain⟨va,vc,hvv,hvc⟩:=h.vcap;obtain⟨aa,ac,hav⟩:=h.ats.slice;have CA:Hid (∀u,Below w.heap.size w u->Calls Tryz.prog 80 #[q.vv] u fun e w'=>e=.returned (.bool (decide (¬q.vars.Nodup)))/\Below u.heap.size u w'):=zA (fun u hu=>rAlike_any (h.vs.below hu) h.vcap (by omega));have HV:=zA h.vs;have HA:=zA h.ats;have HOK:=zA h.ok;obtain⟨na,hna⟩:∃n,n=q.atoms.length:=⟨_,rfl⟩
 obtain⟨nv,hnv⟩:∃n,n=q.vars.length:=⟨_,rfl⟩
 rw[<- hna]at hav ha6;rw[<- hnv]at hvv hv6 hvc;rw[hav]at HA;rw[hvv]at HV;rw[hvv,hav]at CN;rw[hvv]at CA;rw[hvv,hav];have HNA:=zA hna;have HNV:=zA hnv;obtain⟨nd,hnd⟩:∃b,b=decide (¬q.vars.Nodup):=⟨_,rfl⟩
 rw[<- hnd]at CA;have HND:=zA hnd;clear h hm hr hNM hvv hav hna hnv hnd;obtain⟨o1,ho1⟩:∃o,o=Obj.cells #[.int .i64 1,.slice va nv vc,.slice aa na ac,.slice none 0 0] 43:=⟨_,rfl⟩
 obtain⟨o2,ho2⟩:∃o,o=Obj.cells #[.slice va nv vc,.slice aa na ac] 38:=⟨_,rfl⟩
 obtain⟨W1,hW1⟩:∃W,W=(w.alloc o1).alloc o2:=⟨_,rfl⟩
 have hbW:Below w.heap.size w W1:=by rw[hW1];exact((zE _ _).alloc (zD _) _).alloc (by simp) _
 have hx1:W1.heap[w.heap.size]?=some o1:=by rw[hW1,heap_alloc_old _ _ (by simp),heap_alloc_new]
 have hx2:W1.heap[w.heap.size+1]?=some o2:=by
  rw[hW1];have h:=heap_alloc_new (w.alloc o1) o2;have e:(w.alloc o1).heap.size=w.heap.size+1:=by simp
  rw[e]at h;exact h
 rw[ho1]at hx1;rw[ho2]at hx2;have HC:Hid (∀u,Below W1.heap.size W1 u->(u.cell? ⟨w.heap.size,1,none⟩=some (.slice va nv vc)/\u.cell? ⟨w.heap.size,2,none⟩=some (.slice aa na ac)/\u.cell? ⟨w.heap.size,3,none⟩=some (.slice none 0 0))/\(u.cell? ⟨w.heap.size+1,0,none⟩=some (.slice va nv vc)/\u.cell? ⟨w.heap.size+1,1,none⟩=some (.slice aa na ac))):=zA (fun u hu=>by
  have h1:=(hu.block _ (lt_of_block hx1)).trans hx1;have h2:=(hu.block _ (lt_of_block hx2)).trans hx2;refine⟨?_,?_⟩
  . simp[World.cell?,h1]
  . simp[World.cell?,h2])
 have HW1:Hid (W1=(w.alloc (.cells #[.int .i64 1,.slice va nv vc,.slice aa na ac,.slice none 0 0] 43)).alloc (.cells #[.slice va nv vc,.slice aa na ac] 38)):=zA (by rw[hW1,ho1,ho2]);have HBW:=zA hbW;have HUP:Hid (∀u,Below W1.heap.size W1 u->Below w.heap.size w u):=zA (fun u hu=>hbW.trans (hu.mono hbW.size));clear ho1 ho2 hW1 hbW hx1 hx2;go_enter Tryz.func50,Tryz.ntmps50;go_wp2_with fail;rw[<- HW1.out];go_loopw [4] (fun c wr=>∃i:Nat,i<=na/\c=.int .i64 i/\Below W1.heap.size W1 wr) (fun c _=>na-(intOf c).toNat)
 case atStart=>exact⟨0,zO _,rfl,zE _ _⟩
 case round=>
  obtain⟨i,hi,rfl,hbq⟩:=hrel;have HBQ:=zA hbq;clear hbq;obtain⟨⟨c1,c2,c3⟩,⟨d0,d1⟩⟩:=HC.out _ HBQ.out;by_cases hlt:i<na
  . have hltI:(i:Int)<(na:Int):=by omega
    obtain⟨a,ha⟩:∃x,q.atoms[i]?=some x:=⟨_,zB (by rw[<- HNA.out];exact hlt)⟩
    have ham:=zC ha;obtain⟨g,off,haa,_,hgl,hcell⟩:=HA.out.get ha;subst haa;obtain⟨q0,q1,q2,q3,q4,q5,q6⟩:=getA hcell;have C1:=zA (CP.out a ham);have C2:=zA (CD.out a ham);obtain⟨lp,hlp⟩:∃n,n=leaves a.2.1.pt:=⟨_,rfl⟩
    obtain⟨hp,hhp⟩:∃n,n=high a.2.1.pt:=⟨_,rfl⟩
    have hbd:=HMB.out a ham;rw[<- hlp,<- hhp]at hbd;rw[<- hlp]at C1;rw[<- hhp]at C2;obtain⟨pa,pc,hpv⟩:=(HOK.out a ham).parts.1.slice;obtain⟨pn,hpn⟩:∃n,n=a.2.1.kids.length:=⟨_,rfl⟩
    rw[<- hpn]at hpv;obtain⟨⟨av,an⟩,⟨pk,pw,pv,pl⟩,⟨bv,bn⟩⟩:=a;dsimp only at q2 q3 q4 hpv;subst hpv;have KA:Hid (∀u,Below w.heap.size w u->u.cell? ⟨g,off+i*7+2,none⟩=some (.int .i64 pk)/\u.cell? ⟨g,off+i*7+3,none⟩=some (.string ⟨pw.toArray⟩)/\u.cell? ⟨g,off+i*7+4,none⟩=some (.slice pa pn pc)):=zA (fun u hu=>⟨(hu.cell (p:=⟨g,off+i*7+2,none⟩) hgl).trans q2,(hu.cell (p:=⟨g,off+i*7+3,none⟩) hgl).trans q3,(hu.cell (p:=⟨g,off+i*7+4,none⟩) hgl).trans q4⟩);have t1:¬(24:Int)<(lp:Int):=by omega
    have t1b:decide ((24:Int)<(lp:Int))=false:=decide_eq_false t1;have t2:¬(12:Int)<(hp:Int):=by omega
    have t2b:decide ((12:Int)<(hp:Int))=false:=decide_eq_false t2;clear ha ham hcell hlp hhp hpn hbd q0 q1 q2 q3 q4 q5 q6;obtain⟨r0,r1,r2⟩:=KA.out _ (HUP.out _ HBQ.out);go_wp2_with fail;refine(C1.out _ (HUP.out _ HBQ.out)).mono ?_;rintro e w3 ⟨rfl,hb3⟩;have HB3:=zA (HBQ.out.trans (hb3.mono HBQ.out.size));clear hb3 r0 r1 r2 c1 c2 c3 d0 d1;obtain⟨⟨c1,c2,c3⟩,⟨d0,d1⟩⟩:=HC.out _ HB3.out;obtain⟨r0,r1,r2⟩:=KA.out _ (HUP.out _ HB3.out);go_wp2_with fail;refine(C2.out _ (HUP.out _ HB3.out)).mono ?_;rintro e w4 ⟨rfl,hb4⟩;have HB4:=zA (HB3.out.trans (hb4.mono HB3.out.size));clear hb4 r0 r1 r2 c1 c2 c3 d0 d1;go_wp2;go_roundw
    case rel=>exact⟨i+1,by omega,by go_num,HB4.out⟩
    case measure=>simp[intOf];omega
  . have hltI:¬(i:Int)<(na:Int):=by omega
    go_wp2_with fail;refine(CN.out _ (HUP.out _ HBQ.out)).mono ?_;rintro e w3 ⟨v3,rfl,ho3,hb3⟩;obtain⟨n3,hn3⟩:∃n,n=NM.length:=⟨_,rfl⟩
    rw[<- hn3]at ho3 hNl HR;obtain⟨a3,k3,hv3⟩:=own_slice ho3;subst hv3;have HB3:=zA (HBQ.out.trans (hb3.mono HBQ.out.size));have HS3:=zA (Src.own csT_lenM ho3 hn3).sl;have HN3:=zA hn3;clear ho3 hb3 hn3 c1 c2 c3 d0 d1;obtain⟨⟨c1,c2,c3⟩,⟨d0,d1⟩⟩:=HC.out _ HB3.out;have t1:¬(6:Int)<(nv:Int):=by omega
    have t1b:decide ((6:Int)<(nv:Int))=false:=decide_eq_false t1;have t2:¬(6:Int)<(na:Int):=by omega
    have t2b:decide ((6:Int)<(na:Int))=false:=decide_eq_false t2;by_cases t3:(6:Int)<(n3:Int)
    . have t3b:decide ((6:Int)<(n3:Int))=true:=zU t3;have HT:Hid (r=2):=zA (by rw[HR.out,if_pos (by omega)]);go_wp2;go_ret;exact⟨by rw[HT.out];rfl,HUP.out _ HB3.out⟩
    . have t3b:decide ((6:Int)<(n3:Int))=false:=decide_eq_false t3;rw[if_neg (by omega)]at HR;cases nd with
      |true=>
       have HT:Hid (r=1):=zA (by rw[HR.out,if_pos (of_decide_eq_true HND.out.symm)]);go_wp2_with fail;refine(CA.out _ (HUP.out _ HB3.out)).mono ?_;rintro e w4 ⟨rfl,hb4⟩;have HB4:=zA (HB3.out.trans (hb4.mono HB3.out.size));clear hb4 c1 c2 c3 d0 d1;go_wp2;go_ret;exact⟨by rw[HT.out];rfl,HUP.out _ HB4.out⟩
      |false=>
       rw[if_neg (of_decide_eq_false HND.out.symm)]at HR;go_wp2_with fail;refine(CA.out _ (HUP.out _ HB3.out)).mono ?_;rintro e w4 ⟨rfl,hb4⟩;have HS4:=zA (HS3.out.below hb4);have HB4:=zA (HB3.out.trans (hb4.mono HB3.out.size));clear hb4 c1 c2 c3 d0 d1;obtain⟨⟨c1,c2,c3⟩,⟨d0,d1⟩⟩:=HC.out _ HB4.out;obtain⟨wx,hwx⟩:∃wx,wx=w4:=⟨_,rfl⟩
       subst hwx;go_wp2_with fail;go_loopw [6] (fun c wr=>∃j:Nat,j<=nv/\c=.int .i64 j/\(∀x∈q.vars.take j,x∈NM)/\wr=wx) (fun c _=>nv-(intOf c).toNat)
       case atStart=>exact⟨0,zO _,rfl,by simp,rfl⟩
       case round=>
        obtain⟨j,hj,rfl,hall,hwr⟩:=hrel;subst hwr;obtain⟨wx,hwx⟩:∃wx,wx=wr:=⟨_,rfl⟩
        subst hwx;have HALL:=zA hall;clear hall;by_cases hltj:j<nv
        . have hltjI:(j:Int)<(nv:Int):=by omega
          obtain⟨x,hx⟩:∃x,q.vars[j]?=some x:=⟨_,zB (by rw[<- HNV.out];exact hltj)⟩
          obtain⟨g,off,hva,_,_,hcell⟩:=(HV.out.below (HUP.out _ HB4.out)).get hx;subst hva;have q0:=hcell 0 _ rfl;rw[yD,yA]at q0;have CI:=zA (rInQ_any HS4.out (by rw[<- HN3.out];omega) x);have HX:=zA hx;clear hx hcell;by_cases hin:x∈NM
          . rw[zU hin]at CI;have HA2:Hid (∀y∈q.vars.take (j+1),y∈NM):=zA (fun y hy=>by
             rw[zS,HX.out]at hy;rcases zM.1 hy with hy|hy
             . exact HALL.out y hy
             . simp at hy;rw[hy];exact hin)
            clear hin;go_wp2_with fail;refine CI.out.mono ?_;rintro e w5 ⟨rfl,hw5⟩;rw[hw5];clear hw5;go_wp2;go_roundw
            case rel=>exact⟨j+1,by omega,by go_num,HA2.out,by trivial⟩
            case measure=>simp[intOf];omega
          . rw[decide_eq_false hin]at CI;have HT:Hid (r=91):=zA (by rw[HR.out,if_pos ⟨x,zC HX.out,hin⟩]);clear hin;go_wp2_with fail;refine CI.out.mono ?_;rintro e w5 ⟨rfl,hw5⟩;rw[hw5];clear hw5;go_wp2;go_ret;exact⟨by rw[HT.out];rfl,HUP.out _ HB4.out⟩
        . have hltjI:¬(j:Int)<(nv:Int):=by omega
          have HT:Hid (r=0):=zA (by
           rw[HR.out,if_neg];rintro⟨v,hv,hn⟩;have h2:=HALL.out;rw[zJ (by rw[<- HNV.out];omega)]at h2;exact hn (h2 v hv))
          go_wp2;go_ret;exact⟨by rw[HT.out];rfl,HUP.out _ HB4.out⟩
def Yes3(a b c:Bool)(P:Prop):Prop:=a=true->b=true->c=true->P
theorem mayQ_iff(vars:List Wd)(l:List Pa):mayQ vars l=true↔(1<=vars.length/\vars.length<=6)/\(1<=l.length/\l.length<=6)/\(∀v∈vars,isW v=true)/\(∀a∈l,isW a.1.2=true/\isW a.2.2.2=true/\mayP a.2.1=true)/\whyQ vars l=0:=by
 unfold mayQ;simp only[Bool.and_eq_true,decide_eq_true_eq,yI,wordsA];constructor
 . rintro⟨⟨⟨h1,h2⟩,h3⟩,h4⟩;have hw:=h3;unfold whyQ at hw;by_cases c1:∃a∈l,mayP a.2.1=false
   . rw[if_pos c1]at hw;cases hw
   . rw[if_neg c1]at hw;by_cases c2:6<vars.length\/6<l.length\/6<(namesP l).length
     . rw[if_pos c2]at hw;cases hw
     . rw[if_neg c2]at hw;by_cases c3:¬vars.Nodup
       . rw[if_pos c3]at hw;cases hw
       . rw[if_neg c3]at hw;by_cases c4:∃v∈vars,v∉namesP l
         . rw[if_pos c4]at hw;cases hw
         . refine⟨by omega,by omega,fun v hv=>?_,fun a ha=>⟨(h4 a ha).1,(h4 a ha).2,?_⟩,h3⟩
           . have hin:v∈namesP l:=Classical.byContradiction (fun h=>c4 ⟨v,hv,h⟩);obtain⟨a,ha,e⟩:=mem_namesP hin;rcases e with e|e
             . rw[e];exact(h4 a ha).1
             . rw[e];exact(h4 a ha).2
           . cases hm:mayP a.2.1 with
             |true=>rfl
             |false=>exact absurd ⟨a,ha,hm⟩ c1
 . rintro⟨h1,h2,h3,h4,h5⟩;exact⟨⟨⟨by omega,by omega⟩,h5⟩,fun a ha=>⟨(h4 a ha).1,(h4 a ha).2.1⟩⟩
set_option maxHeartbeats 40000000 in
theorem rMayQ_any{S:Nat->Prop}{w:World}{q:Qm}(h:QOk S w q):
 Calls Tryz.prog 26 #[.agg #[.int .i64 1,q.vv,q.av,.slice none 0 0]] w fun e w'=>e=.returned (.bool (mayQ q.vars (q.atoms.map Am.pa)))/\Below w.heap.size w w':=by
 obtain⟨r,hr⟩:∃r,r=mayQ q.vars (q.atoms.map Am.pa):=⟨_,rfl⟩
 rw[<- hr];have HR:Hid (r=true↔(1<=q.vars.length/\q.vars.length<=6)/\(1<=q.atoms.length/\q.atoms.length<=6)/\(∀v∈q.vars,isW v=true)/\(∀a∈q.atoms,isW a.1.2=true/\isW a.2.2.2=true/\mayP a.2.1.pt=true)/\whyQ q.vars (q.atoms.map Am.pa)=0):=zA (by
  rw[hr,mayQ_iff,zH];constructor
  . rintro⟨h1,h2,h3,h4,h5⟩;exact⟨h1,h2,h3,fun a ha=>h4 a.pa (zW ha),h5⟩
  . rintro⟨h1,h2,h3,h4,h5⟩;refine⟨h1,h2,h3,fun a ha=>?_,h5⟩;obtain⟨b,hb,rfl⟩:=zV.1 ha;exact h4 b hb)
 have CW:Hid ((∀a∈q.atoms,mayP a.2.1.pt=true)->q.vars.length<=6->q.atoms.length<=6->∀u,Below w.heap.size w u->Calls Tryz.prog 50 #[.agg #[.int .i64 1,q.vv,q.av,.slice none 0 0]] u fun e w'=>e=.returned (.int .i64 (whyQ q.vars (q.atoms.map Am.pa):Nat))/\Below u.heap.size u w'):=zA (fun h1 h2 h3 u hu=>rWhy_any (h.below hu) h1 h2 h3);have CM:Hid (∀a∈q.atoms,∀u,Below w.heap.size w u->Calls Tryz.prog 21 #[encN a.2.1] u fun e w'=>e=.returned (.bool (mayP a.2.1.pt))/\Below u.heap.size u w'):=zA (fun a ha u hu=>rMayPath_any ((h.ok a ha).below hu));have HVB:=zA h.vb;have HFI:=zA h.fine;obtain⟨va,vc,hvv,_⟩:=h.vcap;obtain⟨aa,ac,hav⟩:=h.ats.slice;have HV:=zA h.vs;have HA:=zA h.ats;have HOK:=zA h.ok;have hvl:=h.vl;have hal:=h.al;obtain⟨na,hna⟩:∃n,n=q.atoms.length:=⟨_,rfl⟩
 obtain⟨nv,hnv⟩:∃n,n=q.vars.length:=⟨_,rfl⟩
 rw[<- hna]at hav HR CW hal;rw[<- hnv]at hvv HR CW hvl;rw[hav]at HA;rw[hvv]at HV;rw[hvv,hav]at CW;rw[hvv,hav];have HNA:=zA hna;have HNV:=zA hnv;clear h hr hvv hav hna hnv;obtain⟨o1,ho1⟩:∃o,o=Obj.cells #[.int .i64 1,.slice va nv vc,.slice aa na ac,.slice none 0 0] 43:=⟨_,rfl⟩
 obtain⟨o2,ho2⟩:∃o,o=Obj.cells #[.slice va nv vc,.slice aa na ac] 38:=⟨_,rfl⟩
 obtain⟨W1,hW1⟩:∃W,W=(w.alloc o1).alloc o2:=⟨_,rfl⟩
 have hbW:Below w.heap.size w W1:=by rw[hW1];exact((zE _ _).alloc (zD _) _).alloc (by simp) _
 have hx1:W1.heap[w.heap.size]?=some o1:=by rw[hW1,heap_alloc_old _ _ (by simp),heap_alloc_new]
 have hx2:W1.heap[w.heap.size+1]?=some o2:=by
  rw[hW1];have h:=heap_alloc_new (w.alloc o1) o2;have e:(w.alloc o1).heap.size=w.heap.size+1:=by simp
  rw[e]at h;exact h
 rw[ho1]at hx1;rw[ho2]at hx2;have HC:Hid (∀u,Below W1.heap.size W1 u->(u.cell? ⟨w.heap.size,0,none⟩=some (.int .i64 1)/\u.cell? ⟨w.heap.size,1,none⟩=some (.slice va nv vc)/\u.cell? ⟨w.heap.size,2,none⟩=some (.slice aa na ac)/\u.cell? ⟨w.heap.size,3,none⟩=some (.slice none 0 0))/\(u.cell? ⟨w.heap.size+1,0,none⟩=some (.slice va nv vc)/\u.cell? ⟨w.heap.size+1,1,none⟩=some (.slice aa na ac))):=zA (fun u hu=>by
  have h1:=(hu.block _ (lt_of_block hx1)).trans hx1;have h2:=(hu.block _ (lt_of_block hx2)).trans hx2;refine⟨?_,?_⟩
  . simp[World.cell?,h1]
  . simp[World.cell?,h2])
 have HW1:Hid (W1=(w.alloc (.cells #[.int .i64 1,.slice va nv vc,.slice aa na ac,.slice none 0 0] 43)).alloc (.cells #[.slice va nv vc,.slice aa na ac] 38)):=zA (by rw[hW1,ho1,ho2]);have HUP:Hid (∀u,Below W1.heap.size W1 u->Below w.heap.size w u):=zA (fun u hu=>hbW.trans (hu.mono hbW.size));have HNO:Hid ((r=true->False)->r=false):=zA (fun h=>by cases r with|false=>rfl|true=>exact(h rfl).elim);have HWZ:Hid (Below w.heap.size w ((w.alloc (.cells #[.int .i64 1,.slice va nv vc,.slice aa na ac,.slice none 0 0] 43)).alloc (.cells #[.slice va nv vc,.slice aa na ac] 38))):=zA (by rw[<- HW1.out];exact hbW);clear ho1 ho2 hW1 hbW hx1 hx2;have e1:decide ((nv:Int)<1)=decide (nv<1):=by rw[decide_eq_decide];omega
 by_cases t1:(nv:Int)<1
 . have t1b:decide ((nv:Int)<1)=true:=zU t1;have HT:Hid (r=false):=zA (HNO.out (fun h=>by have:=(HR.out.1 h).1;omega));clear e1;go_enter Tryz.func26,Tryz.ntmps26;go_wp2;go_ret;exact⟨by rw[HT.out];rfl,HWZ.out⟩
 have t1b:decide ((nv:Int)<1)=false:=decide_eq_false t1;clear e1;by_cases t2:(6:Int)<(nv:Int)
 . have t2b:decide ((6:Int)<(nv:Int))=true:=zU t2;have HT:Hid (r=false):=zA (HNO.out (fun h=>by have:=(HR.out.1 h).1;omega));go_enter Tryz.func26,Tryz.ntmps26;go_wp2;go_ret;exact⟨by rw[HT.out];rfl,HWZ.out⟩
 have t2b:decide ((6:Int)<(nv:Int))=false:=decide_eq_false t2;by_cases t3:(na:Int)<1
 . have t3b:decide ((na:Int)<1)=true:=zU t3;have HT:Hid (r=false):=zA (HNO.out (fun h=>by have:=(HR.out.1 h).2.1;omega));go_enter Tryz.func26,Tryz.ntmps26;go_wp2;go_ret;exact⟨by rw[HT.out];rfl,HWZ.out⟩
 have t3b:decide ((na:Int)<1)=false:=decide_eq_false t3;by_cases t4:(6:Int)<(na:Int)
 . have t4b:decide ((6:Int)<(na:Int))=true:=zU t4;have HT:Hid (r=false):=zA (HNO.out (fun h=>by have:=(HR.out.1 h).2.1;omega));go_enter Tryz.func26,Tryz.ntmps26;go_wp2;go_ret;exact⟨by rw[HT.out];rfl,HWZ.out⟩
 have t4b:decide ((6:Int)<(na:Int))=false:=decide_eq_false t4;go_enter Tryz.func26,Tryz.ntmps26;go_wp2_with fail;rw[<- HW1.out];go_loopw [6] (fun c wr=>∃i:Nat,i<=nv/\c=.int .i64 i/\(∀x∈q.vars.take i,isW x=true)/\wr=W1) (fun c _=>nv-(intOf c).toNat)
 case atStart=>exact⟨0,zO _,rfl,by simp,rfl⟩
 case round=>
  obtain⟨i,hi,rfl,hall,hwr⟩:=hrel;subst hwr;obtain⟨W1,hW1⟩:∃W,W=wr:=⟨_,rfl⟩
  subst hW1;have HAV:=zA hall;clear hall;obtain⟨⟨c0,c1,c2,c3⟩,⟨d0,d1⟩⟩:=HC.out W1 (zE _ _);by_cases hlt:i<nv
  . have hltI:(i:Int)<(nv:Int):=by omega
    obtain⟨x,hx⟩:∃x,q.vars[i]?=some x:=⟨_,zB (by rw[<- HNV.out];exact hlt)⟩
    obtain⟨g,off,hva,_,_,hcell⟩:=(HV.out.below (HUP.out _ (zE _ _))).get hx;subst hva;have q0:=hcell 0 _ rfl;rw[yD,yA]at q0;have CI:=zA (isQR_any x W1 (by have:=HVB.out x (zC hx);omega));obtain⟨z,hz⟩:∃z,z=isW x:=⟨_,rfl⟩
    rw[<- hz]at CI;have HX:=zA hx;have HZ:=zA hz;clear hx hcell hz;cases z with
    |true=>
     have HA2:Hid (∀y∈q.vars.take (i+1),isW y=true):=zA (all_step HX.out HAV.out HZ.out.symm);go_wp2_with fail;refine CI.out.mono ?_;rintro e w5 ⟨rfl,hw5⟩;rw[hw5];clear hw5;go_wp2;go_roundw
     case rel=>exact⟨i+1,by omega,by go_num,HA2.out,by trivial⟩
     case measure=>simp[intOf];omega
    |false=>
     have HT:Hid (r=false):=zA (HNO.out (fun h=>by
      have h2:=(HR.out.1 h).2.2.1 x (zC HX.out);rw[<- HZ.out]at h2;cases h2))
     go_wp2_with fail;refine CI.out.mono ?_;rintro e w5 ⟨rfl,hw5⟩;rw[hw5];clear hw5;go_wp2;go_ret;exact⟨by rw[HT.out];rfl,HUP.out _ (zE _ _)⟩
  . have hltI:¬(i:Int)<(nv:Int):=by omega
    have HAV2:Hid (∀x∈q.vars,isW x=true):=zA (by
     have h:=HAV.out;rw[zJ (by rw[<- HNV.out];omega)]at h;exact h)
    go_wp2_with fail;go_loopw [7] (fun c wr=>∃i:Nat,i<=na/\c=.int .i64 i/\(∀a∈q.atoms.take i,isW a.1.2=true/\isW a.2.2.2=true/\mayP a.2.1.pt=true)/\Below W1.heap.size W1 wr) (fun c _=>na-(intOf c).toNat)
    case atStart=>exact⟨0,zO _,rfl,by simp,zE _ _⟩
    case round=>
     clear c0 c1 c2 c3 d0 d1;obtain⟨j,hj,rfl,hall,hbq⟩:=hrel;have HAA:=zA hall;have HBQ:=zA hbq;clear hall hbq;obtain⟨wx,hwx⟩:∃wx,wx=wr:=⟨_,rfl⟩
     subst hwx;obtain⟨⟨c0,c1,c2,c3⟩,⟨d0,d1⟩⟩:=HC.out _ HBQ.out;by_cases hltj:j<na
     . have hltjI:(j:Int)<(na:Int):=by omega
       obtain⟨a,ha⟩:∃x,q.atoms[j]?=some x:=⟨_,zB (by rw[<- HNA.out];exact hltj)⟩
       have ham:=zC ha;obtain⟨g,off,haa,_,hgl,hcell⟩:=(HA.out.below (HUP.out _ HBQ.out)).get ha;subst haa;obtain⟨q0,q1,q2,q3,q4,q5,q6⟩:=getA hcell;have C1:=zA (fun u=>isQR_any a.1.2 u (by have:=(HFI.out a ham).1;omega));have C2:=zA (fun u=>isQR_any a.2.2.2 u (by have:=(HFI.out a ham).2;omega));have C3:=zA (CM.out a ham);obtain⟨z1,hz1⟩:∃z,z=isW a.1.2:=⟨_,rfl⟩
       obtain⟨z2,hz2⟩:∃z,z=isW a.2.2.2:=⟨_,rfl⟩
       obtain⟨z3,hz3⟩:∃z,z=mayP a.2.1.pt:=⟨_,rfl⟩
       rw[<- hz1]at C1;rw[<- hz2]at C2;rw[<- hz3]at C3;have HYES:Hid (Yes3 z1 z2 z3 (∀b∈q.atoms.take (j+1),isW b.1.2=true/\isW b.2.2.2=true/\mayP b.2.1.pt=true)):=zA (fun h1 h2 h3 b hb=>by
        rw[zS,ha]at hb;rcases zM.1 hb with hb|hb
        . exact HAA.out b hb
        . simp at hb;rw[hb,<- hz1,<- hz2,<- hz3];exact⟨h1,h2,h3⟩)
       have HBAD:Hid (¬(z1=true/\z2=true/\z3=true)->r=false):=zA (fun hn=>HNO.out (fun h=>hn (by
        have h2:=(HR.out.1 h).2.2.2.1 a ham;rw[<- hz1,<- hz2,<- hz3]at h2;exact h2)))
       obtain⟨pa,pc,hpv⟩:=(HOK.out a ham).parts.1.slice;obtain⟨pn,hpn⟩:∃n,n=a.2.1.kids.length:=⟨_,rfl⟩
       rw[<- hpn]at hpv;obtain⟨⟨av,an⟩,⟨pk,pw,pv,pl⟩,⟨bv,bn⟩⟩:=a;dsimp only at q0 q1 q2 q3 q4 q5 q6 hpv;subst hpv;obtain⟨oa,hoa⟩:∃o,o=Obj.cells #[.bool av,.string ⟨an.toArray⟩,.int .i64 pk,.string ⟨pw.toArray⟩,.slice pa pn pc,.bool bv,.string ⟨bn.toArray⟩] 55:=⟨_,rfl⟩
       have HOA:=zA hoa;have HB2:Hid (Below W1.heap.size W1 (wx.alloc (.cells #[.bool av,.string ⟨an.toArray⟩,.int .i64 pk,.string ⟨pw.toArray⟩,.slice pa pn pc,.bool bv,.string ⟨bn.toArray⟩] 55))):=zA (HBQ.out.alloc HBQ.out.size _);clear ha ham hcell hz1 hz2 hz3 hpn hoa;cases z1 with
       |false=>
        have HT:=zA (HBAD.out (by simp));go_wp2_with fail;refine(C1.out _).mono ?_;rintro e w5 ⟨rfl,hw5⟩;rw[hw5];clear hw5;go_wp2;go_ret;exact⟨by rw[HT.out];rfl,HUP.out _ HB2.out⟩
       |true=>
        cases z2 with
        |false=>
         have HT:=zA (HBAD.out (by simp));go_wp2_with fail;refine(C1.out _).mono ?_;rintro e w5 ⟨rfl,hw5⟩;rw[hw5];clear hw5;go_wp2_with fail;refine(C2.out _).mono ?_;rintro e w6 ⟨rfl,hw6⟩;rw[hw6];clear hw6;go_wp2;go_ret;exact⟨by rw[HT.out];rfl,HUP.out _ HB2.out⟩
        |true=>
         go_wp2_with fail;refine(C1.out _).mono ?_;rintro e w5 ⟨rfl,hw5⟩;rw[hw5];clear hw5;go_wp2_with fail;refine(C2.out _).mono ?_;rintro e w6 ⟨rfl,hw6⟩;rw[hw6];clear hw6;go_wp2_with fail;refine(C3.out _ (HUP.out _ HB2.out)).mono ?_;rintro e w7 ⟨rfl,hb7⟩;have HB7:=zA (HB2.out.trans (hb7.mono HB2.out.size));clear hb7;cases z3 with
         |false=>
          have HT:=zA (HBAD.out (by simp));go_wp2;go_ret;exact⟨by rw[HT.out];rfl,HUP.out _ HB7.out⟩
         |true=>
          have HT:=zA (HYES.out rfl rfl rfl);go_wp2;go_roundw
          case rel=>exact⟨j+1,by omega,by go_num,HT.out,HB7.out⟩
          case measure=>simp[intOf];omega
     . have hltjI:¬(j:Int)<(na:Int):=by omega
       have HAA2:Hid (∀a∈q.atoms,isW a.1.2=true/\isW a.2.2.2=true/\mayP a.2.1.pt=true):=zA (by
        have h:=HAA.out;rw[zJ (by rw[<- HNA.out];omega)]at h;exact h)
       have CW2:=zA (CW.out (fun a ha=>(HAA2.out a ha).2.2) (by omega) (by omega));obtain⟨y,hy⟩:∃y,y=whyQ q.vars (q.atoms.map Am.pa):=⟨_,rfl⟩
       rw[<- hy]at CW2;have HT:Hid (r=true↔y=0):=zA (by
        rw[HR.out,hy];exact⟨fun h=>h.2.2.2.2,fun h=>⟨by omega,by omega,HAV2.out,HAA2.out,h⟩⟩)
       clear hy;go_wp2_with fail;refine(CW2.out _ (HUP.out _ HBQ.out)).mono ?_;rintro e w8 ⟨rfl,hb8⟩;have HB8:=zA (HBQ.out.trans (hb8.mono HBQ.out.size));clear hb8;by_cases hy0:y=0
       . have HT2:Hid (r=true):=zA (HT.out.2 hy0);subst hy0;go_wp2;go_ret;exact⟨by rw[HT2.out];rfl,HUP.out _ HB8.out⟩
       . have HT2:Hid (r=false):=zA (HNO.out (fun h=>hy0 (HT.out.1 h)));obtain⟨e1,e2⟩:=not_both (a:=(y:Int)) (b:=0) (by omega);clear hy0;go_wp2;go_ret;exact⟨by rw[HT2.out];rfl,HUP.out _ HB8.out⟩
end Go.Proofs.YtkbgmcmcpbegjaaGreatDoor
