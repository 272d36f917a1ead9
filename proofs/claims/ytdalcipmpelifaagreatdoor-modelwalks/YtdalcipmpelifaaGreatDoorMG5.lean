/- QShaped. -/
import Derived.Test.YtdalcipmpelifaaGreatDoorMG4
set_option maxRecDepth 100000
namespace Go.Proofs.YtdalcipmpelifaaGreatDoor
open Go.RowKit
set_option maxHeartbeats 8000000 in
theorem rShaped_any{S:Nat->Prop}:∀(t:Vt) (d:Nat) (dp:Int) (w:World),d<=12->dp=d->VOk S w t->
 Calls Tryz.prog 13 #[encN t,.int .i64 dp] w fun e w'=>e=.returned (.bool (shapedP d t.pt))/\Below w.heap.size w w':=by
 refine Vt.ind (fun k wd v l ih=>?_);intro d dp w hd12 hd hok;obtain⟨h1,h2,h3,h4⟩:=vok_mk.1 hok;obtain⟨ao,cap,hv⟩:=h1.slice;subst hv;have H1:=zA h1;have H4:=zA h4;have IH:=zA ih;have HI:=zA (fun w=>isQR_any wd w h2);rw[Vt.pt_mk];obtain⟨n,hn⟩:∃n,n=l.length:=⟨_,rfl⟩
 rw[<- hn]at h3 H1 ⊢;have HN:=zA hn;obtain⟨ans,hans⟩:∃a,a=shapedP d ⟨k,wd,l.map Vt.pt⟩:=⟨_,rfl⟩
 rw[<- hans];have HA:=zA hans;have HB:Hid (∀a:Obj,Below w.heap.size w (w.alloc a)):=zA (fun a=>(zF _ _).alloc (zD _) _);clear h1 h2 h4 ih hok hn hans;cases d with
 |zero=>
  subst hd;have HF:Hid (ans=false):=zA (by rw[HA.out];rfl);clear hd12;rcases kind_cases k with rfl|rfl|rfl|rfl|rfl|rfl|⟨k1,k2,k3,k4,k5,k6⟩
  case inr.inr.inr.inr.inr.inr=>
   obtain⟨a1,b1⟩:=not_both k1;obtain⟨a2,b2⟩:=not_both k2;obtain⟨a3,b3⟩:=not_both k3;obtain⟨a4,b4⟩:=not_both k4;obtain⟨a5,b5⟩:=not_both k5;obtain⟨a6,b6⟩:=not_both k6;clear k1 k2 k3 k4 k5 k6;go_enter Tryz.func13,Tryz.ntmps13;go_wp2;go_ret;exact⟨by rw[HF.out];rfl,HB.out _⟩
  all_goals (
   go_enter Tryz.func13,Tryz.ntmps13;go_wp2;go_ret;exact⟨by rw[HF.out];rfl,HB.out _⟩)
 |succ d=>
  have hdp0:(0:Int)<dp:=by omega
  have hdp1:dp<=12:=by omega
  have HD:=zA hd;have HD12:=zA hd12;clear hd hd12;rcases kind_cases k with rfl|rfl|rfl|rfl|rfl|rfl|⟨k1,k2,k3,k4,k5,k6⟩
  . obtain⟨m,hm⟩:∃m,m=isW wd:=⟨_,rfl⟩
    rw[<- hm]at HI;by_cases h0:n=0
    . have HF:Hid (ans=m):=zA (by
       have h0':l=[]:=yG.1 (by rw[<- HN.out];exact h0);rw[HA.out,h0',hm];simp[shapedP,formedP])
      subst h0;clear hm;go_enter Tryz.func13,Tryz.ntmps13;go_wp2_with fail;refine(HI.out _).mono ?_;rintro e w1 ⟨rfl,hw⟩;subst hw;go_wp2;go_ret;exact⟨by rw[HF.out];rfl,HB.out _⟩
    . obtain⟨e1,e2⟩:=not_both (a:=(n:Int)) (b:=0) (by omega);have HF:Hid (ans=false):=zA (by
       rw[HA.out,shapedP,zH,<- HN.out];simp[formedP,h0])
      clear h0 hm;go_enter Tryz.func13,Tryz.ntmps13;go_wp2;go_ret;exact⟨by rw[HF.out];rfl,HB.out _⟩
  case inr.inr.inr.inr.inr.inr=>
   obtain⟨a1,b1⟩:=not_both k1;obtain⟨a2,b2⟩:=not_both k2;obtain⟨a3,b3⟩:=not_both k3;obtain⟨a4,b4⟩:=not_both k4;obtain⟨a5,b5⟩:=not_both k5;obtain⟨a6,b6⟩:=not_both k6;have HF:Hid (ans=false):=zA (by rw[HA.out,shapedP];simp[formedP,a1,a2,a3,a4,a5,a6]);clear k1 k2 k3 k4 k5 k6;go_enter Tryz.func13,Tryz.ntmps13;go_wp2;go_ret;exact⟨by rw[HF.out];rfl,HB.out _⟩
  . by_cases hn2:2<=n
    . have e1:(2:Int)<=(n:Int):=by omega
      by_cases hw:wd=[]
      . subst hw;by_cases h24:24<n
        . have e2:(24:Int)<(n:Int):=by omega
          have HF:Hid (ans=false):=zA (by rw[HA.out,shapedP,zH,<- HN.out];simp;omega);clear hn2 h24;go_enter Tryz.func13,Tryz.ntmps13;go_wp2;go_ret;exact⟨by rw[HF.out];rfl,HB.out _⟩
        . have e2:¬(24:Int)<(n:Int):=by omega
          have HALL:Hid (ans=(l.map Vt.pt).all (shapedP d)):=zA (by rw[HA.out,shapedP,zH,<- HN.out];simp[formedP,hn2];omega);clear hn2 h24;obtain⟨o,ho⟩:∃o,o=Obj.cells #[.int .i64 2,.string ⟨([]:List UInt8).toArray⟩,.slice ao n cap] 25:=⟨_,rfl⟩
          have HO:=zA ho;have HC:Hid (∀wr,Below (w.alloc o).heap.size (w.alloc o) wr->wr.cell? ⟨w.heap.size,2,none⟩=some (.slice ao n cap)):=zA (fun wr hb=>by
           have h:=box_keptQ hb;rw[HO.out]at h;simp[World.cell?,h])
          clear ho;go_enter Tryz.func13,Tryz.ntmps13;go_wp2_with fail;go_loopw [7] (fun c wr=>∃i:Nat,i<=n/\c=.int .i64 i/\(∀y∈l.take i,shapedP d y.pt=true)/\Below (w.alloc o).heap.size (w.alloc o) wr) (fun c _=>n-(intOf c).toNat)
          case atStart=>exact⟨0,zS _,rfl,by simp,by rw[HO.out];exact zF _ _⟩
          case round=>
           obtain⟨i,hi,rfl,hall,hbq⟩:=hrel;have HAll:=zA hall;have HBQ:=zA hbq;have c2:=HC.out _ hbq;clear hall hbq;by_cases hlt:i<n
           . have hltI:(i:Int)<(n:Int):=by omega
             obtain⟨x,hx⟩:∃x,l[i]?=some x:=⟨_,zB (by rw[<- HN.out];exact hlt)⟩
             obtain⟨g,off,rfl,_,_,hcell⟩:=(H1.out.below (below_boxQ HBQ.out)).get hx;obtain⟨q0,q1,q2⟩:=getN hcell;have hxm:=zC hx;have HX:=zA hx;have HXM:=zA hxm;have HC2:=zA (IH.out x hxm d (dp-1) wr (by have:=HD12.out;omega) (by have:=HD.out;omega) ((H4.out x hxm).below (below_boxQ HBQ.out)));obtain⟨m,hm⟩:∃m,m=shapedP d x.pt:=⟨_,rfl⟩
             rw[<- hm]at HC2;have HM:=zA hm;obtain⟨xa,xc,hxv⟩:=(H4.out x hxm).parts.1.slice;obtain⟨xn,hxn⟩:∃n,n=x.kids.length:=⟨_,rfl⟩
             rw[<- hxn]at hxv;clear hm hxm hx hcell hxn;cases m with
             |true=>
              have HA2:=zA (all_shape HX.out HAll.out HM.out.symm);obtain⟨xk,xw,xv,xl⟩:=x;dsimp only at q0 q1 q2 hxv;subst hxv;go_wp2_with fail;refine HC2.out.mono ?_;rintro e w2 ⟨rfl,hb2⟩;have HB2:=zA (HBQ.out.trans (hb2.mono HBQ.out.size));clear hb2;go_wp2;go_roundw
              case rel=>exact⟨i+1,by omega,by go_num,HA2.out,HB2.out⟩
              case measure=>simp[intOf];omega
             |false=>
              have HF:Hid (ans=false):=zA (by
               rw[HALL.out,List.all_eq_false];exact⟨x.pt,zU HXM.out,by rw[<- HM.out];decide⟩)
              obtain⟨xk,xw,xv,xl⟩:=x;dsimp only at q0 q1 q2 hxv;subst hxv;go_wp2_with fail;refine HC2.out.mono ?_;rintro e w2 ⟨rfl,hb2⟩;have HB2:=zA (HBQ.out.trans (hb2.mono HBQ.out.size));clear hb2;go_wp2;go_ret;exact⟨by rw[HF.out];rfl,below_boxQ HB2.out⟩
           . have hltI:¬(i:Int)<(n:Int):=by omega
             have HF:Hid (ans=true):=zA (by
              rw[HALL.out,yJ];intro y hy;obtain⟨z,hz,rfl⟩:=zR.1 hy;refine HAll.out z ?_;rw[zK (by rw[<- HN.out];omega)];exact hz)
             go_wp2;go_ret;exact⟨by rw[HF.out];rfl,below_boxQ HBQ.out⟩
      . have e2:=isEmpty_no hw;have e3:(wd==[])=false:=by simpa using hw
        have HF:Hid (ans=false):=zA (by rw[HA.out,shapedP];simp[formedP,hw]);clear hn2;go_enter Tryz.func13,Tryz.ntmps13;go_wp2;go_ret;exact⟨by rw[HF.out];rfl,HB.out _⟩
    . have e1:¬(2:Int)<=(n:Int):=by omega
      have HF:Hid (ans=false):=zA (by rw[HA.out,shapedP,zH,<- HN.out];simp[formedP,hn2]);clear hn2;go_enter Tryz.func13,Tryz.ntmps13;go_wp2;go_ret;exact⟨by rw[HF.out];rfl,HB.out _⟩
  . by_cases hn2:2<=n
    . have e1:(2:Int)<=(n:Int):=by omega
      by_cases hw:wd=[]
      . subst hw;by_cases h24:24<n
        . have e2:(24:Int)<(n:Int):=by omega
          have HF:Hid (ans=false):=zA (by rw[HA.out,shapedP,zH,<- HN.out];simp;omega);clear hn2 h24;go_enter Tryz.func13,Tryz.ntmps13;go_wp2;go_ret;exact⟨by rw[HF.out];rfl,HB.out _⟩
        . have e2:¬(24:Int)<(n:Int):=by omega
          have HALL:Hid (ans=(l.map Vt.pt).all (shapedP d)):=zA (by rw[HA.out,shapedP,zH,<- HN.out];simp[formedP,hn2];omega);clear hn2 h24;obtain⟨o,ho⟩:∃o,o=Obj.cells #[.int .i64 3,.string ⟨([]:List UInt8).toArray⟩,.slice ao n cap] 25:=⟨_,rfl⟩
          have HO:=zA ho;have HC:Hid (∀wr,Below (w.alloc o).heap.size (w.alloc o) wr->wr.cell? ⟨w.heap.size,2,none⟩=some (.slice ao n cap)):=zA (fun wr hb=>by
           have h:=box_keptQ hb;rw[HO.out]at h;simp[World.cell?,h])
          clear ho;go_enter Tryz.func13,Tryz.ntmps13;go_wp2_with fail;go_loopw [7] (fun c wr=>∃i:Nat,i<=n/\c=.int .i64 i/\(∀y∈l.take i,shapedP d y.pt=true)/\Below (w.alloc o).heap.size (w.alloc o) wr) (fun c _=>n-(intOf c).toNat)
          case atStart=>exact⟨0,zS _,rfl,by simp,by rw[HO.out];exact zF _ _⟩
          case round=>
           obtain⟨i,hi,rfl,hall,hbq⟩:=hrel;have HAll:=zA hall;have HBQ:=zA hbq;have c2:=HC.out _ hbq;clear hall hbq;by_cases hlt:i<n
           . have hltI:(i:Int)<(n:Int):=by omega
             obtain⟨x,hx⟩:∃x,l[i]?=some x:=⟨_,zB (by rw[<- HN.out];exact hlt)⟩
             obtain⟨g,off,rfl,_,_,hcell⟩:=(H1.out.below (below_boxQ HBQ.out)).get hx;obtain⟨q0,q1,q2⟩:=getN hcell;have hxm:=zC hx;have HX:=zA hx;have HXM:=zA hxm;have HC2:=zA (IH.out x hxm d (dp-1) wr (by have:=HD12.out;omega) (by have:=HD.out;omega) ((H4.out x hxm).below (below_boxQ HBQ.out)));obtain⟨m,hm⟩:∃m,m=shapedP d x.pt:=⟨_,rfl⟩
             rw[<- hm]at HC2;have HM:=zA hm;obtain⟨xa,xc,hxv⟩:=(H4.out x hxm).parts.1.slice;obtain⟨xn,hxn⟩:∃n,n=x.kids.length:=⟨_,rfl⟩
             rw[<- hxn]at hxv;clear hm hxm hx hcell hxn;cases m with
             |true=>
              have HA2:=zA (all_shape HX.out HAll.out HM.out.symm);obtain⟨xk,xw,xv,xl⟩:=x;dsimp only at q0 q1 q2 hxv;subst hxv;go_wp2_with fail;refine HC2.out.mono ?_;rintro e w2 ⟨rfl,hb2⟩;have HB2:=zA (HBQ.out.trans (hb2.mono HBQ.out.size));clear hb2;go_wp2;go_roundw
              case rel=>exact⟨i+1,by omega,by go_num,HA2.out,HB2.out⟩
              case measure=>simp[intOf];omega
             |false=>
              have HF:Hid (ans=false):=zA (by
               rw[HALL.out,List.all_eq_false];exact⟨x.pt,zU HXM.out,by rw[<- HM.out];decide⟩)
              obtain⟨xk,xw,xv,xl⟩:=x;dsimp only at q0 q1 q2 hxv;subst hxv;go_wp2_with fail;refine HC2.out.mono ?_;rintro e w2 ⟨rfl,hb2⟩;have HB2:=zA (HBQ.out.trans (hb2.mono HBQ.out.size));clear hb2;go_wp2;go_ret;exact⟨by rw[HF.out];rfl,below_boxQ HB2.out⟩
           . have hltI:¬(i:Int)<(n:Int):=by omega
             have HF:Hid (ans=true):=zA (by
              rw[HALL.out,yJ];intro y hy;obtain⟨z,hz,rfl⟩:=zR.1 hy;refine HAll.out z ?_;rw[zK (by rw[<- HN.out];omega)];exact hz)
             go_wp2;go_ret;exact⟨by rw[HF.out];rfl,below_boxQ HBQ.out⟩
      . have e2:=isEmpty_no hw;have e3:(wd==[])=false:=by simpa using hw
        have HF:Hid (ans=false):=zA (by rw[HA.out,shapedP];simp[formedP,hw]);clear hn2;go_enter Tryz.func13,Tryz.ntmps13;go_wp2;go_ret;exact⟨by rw[HF.out];rfl,HB.out _⟩
    . have e1:¬(2:Int)<=(n:Int):=by omega
      have HF:Hid (ans=false):=zA (by rw[HA.out,shapedP,zH,<- HN.out];simp[formedP,hn2]);clear hn2;go_enter Tryz.func13,Tryz.ntmps13;go_wp2;go_ret;exact⟨by rw[HF.out];rfl,HB.out _⟩
  . by_cases hn2:n=1
    . subst hn2;by_cases hw:wd=[]
      . subst hw;have HALL:Hid (ans=(l.map Vt.pt).all (shapedP d)):=zA (by rw[HA.out,shapedP,zH,<- HN.out];simp[formedP]);obtain⟨o,ho⟩:∃o,o=Obj.cells #[.int .i64 4,.string ⟨([]:List UInt8).toArray⟩,.slice ao 1 cap] 25:=⟨_,rfl⟩
        have HO:=zA ho;have HC:Hid (∀wr,Below (w.alloc o).heap.size (w.alloc o) wr->wr.cell? ⟨w.heap.size,2,none⟩=some (.slice ao 1 cap)):=zA (fun wr hb=>by
         have h:=box_keptQ hb;rw[HO.out]at h;simp[World.cell?,h])
        clear ho;go_enter Tryz.func13,Tryz.ntmps13;go_wp2_with fail;go_loopw [7] (fun c wr=>∃i:Nat,i<=1/\c=.int .i64 i/\(∀y∈l.take i,shapedP d y.pt=true)/\Below (w.alloc o).heap.size (w.alloc o) wr) (fun c _=>1-(intOf c).toNat)
        case atStart=>exact⟨0,zS _,rfl,by simp,by rw[HO.out];exact zF _ _⟩
        case round=>
         obtain⟨i,hi,rfl,hall,hbq⟩:=hrel;have HAll:=zA hall;have HBQ:=zA hbq;have c2:=HC.out _ hbq;clear hall hbq;by_cases hlt:i<1
         . have hltI:(i:Int)<(1:Int):=by omega
           obtain⟨x,hx⟩:∃x,l[i]?=some x:=⟨_,zB (by rw[<- HN.out];exact hlt)⟩
           obtain⟨g,off,rfl,_,_,hcell⟩:=(H1.out.below (below_boxQ HBQ.out)).get hx;obtain⟨q0,q1,q2⟩:=getN hcell;have hxm:=zC hx;have HX:=zA hx;have HXM:=zA hxm;have HC2:=zA (IH.out x hxm d (dp-1) wr (by have:=HD12.out;omega) (by have:=HD.out;omega) ((H4.out x hxm).below (below_boxQ HBQ.out)));obtain⟨m,hm⟩:∃m,m=shapedP d x.pt:=⟨_,rfl⟩
           rw[<- hm]at HC2;have HM:=zA hm;obtain⟨xa,xc,hxv⟩:=(H4.out x hxm).parts.1.slice;obtain⟨xn,hxn⟩:∃n,n=x.kids.length:=⟨_,rfl⟩
           rw[<- hxn]at hxv;clear hm hxm hx hcell hxn;cases m with
           |true=>
            have HA2:=zA (all_shape HX.out HAll.out HM.out.symm);obtain⟨xk,xw,xv,xl⟩:=x;dsimp only at q0 q1 q2 hxv;subst hxv;go_wp2_with fail;refine HC2.out.mono ?_;rintro e w2 ⟨rfl,hb2⟩;have HB2:=zA (HBQ.out.trans (hb2.mono HBQ.out.size));clear hb2;go_wp2;go_roundw
            case rel=>exact⟨i+1,by omega,by go_num,HA2.out,HB2.out⟩
            case measure=>simp[intOf];omega
           |false=>
            have HF:Hid (ans=false):=zA (by
             rw[HALL.out,List.all_eq_false];exact⟨x.pt,zU HXM.out,by rw[<- HM.out];decide⟩)
            obtain⟨xk,xw,xv,xl⟩:=x;dsimp only at q0 q1 q2 hxv;subst hxv;go_wp2_with fail;refine HC2.out.mono ?_;rintro e w2 ⟨rfl,hb2⟩;have HB2:=zA (HBQ.out.trans (hb2.mono HBQ.out.size));clear hb2;go_wp2;go_ret;exact⟨by rw[HF.out];rfl,below_boxQ HB2.out⟩
         . have hltI:¬(i:Int)<(1:Int):=by omega
           have HF:Hid (ans=true):=zA (by
            rw[HALL.out,yJ];intro y hy;obtain⟨z,hz,rfl⟩:=zR.1 hy;refine HAll.out z ?_;rw[zK (by rw[<- HN.out];omega)];exact hz)
           go_wp2;go_ret;exact⟨by rw[HF.out];rfl,below_boxQ HBQ.out⟩
      . have e2:=isEmpty_no hw;have e3:(wd==[])=false:=by simpa using hw
        have HF:Hid (ans=false):=zA (by rw[HA.out,shapedP];simp[formedP,hw]);go_enter Tryz.func13,Tryz.ntmps13;go_wp2;go_ret;exact⟨by rw[HF.out];rfl,HB.out _⟩
    . obtain⟨e1,e2⟩:=not_both (a:=(n:Int)) (b:=1) (by omega);have HF:Hid (ans=false):=zA (by rw[HA.out,shapedP,zH,<- HN.out];simp[formedP,hn2]);clear hn2;go_enter Tryz.func13,Tryz.ntmps13;go_wp2;go_ret;exact⟨by rw[HF.out];rfl,HB.out _⟩
  . by_cases hn2:n=1
    . subst hn2;by_cases hw:wd=[]
      . subst hw;have HALL:Hid (ans=(l.map Vt.pt).all (shapedP d)):=zA (by rw[HA.out,shapedP,zH,<- HN.out];simp[formedP]);obtain⟨o,ho⟩:∃o,o=Obj.cells #[.int .i64 5,.string ⟨([]:List UInt8).toArray⟩,.slice ao 1 cap] 25:=⟨_,rfl⟩
        have HO:=zA ho;have HC:Hid (∀wr,Below (w.alloc o).heap.size (w.alloc o) wr->wr.cell? ⟨w.heap.size,2,none⟩=some (.slice ao 1 cap)):=zA (fun wr hb=>by
         have h:=box_keptQ hb;rw[HO.out]at h;simp[World.cell?,h])
        clear ho;go_enter Tryz.func13,Tryz.ntmps13;go_wp2_with fail;go_loopw [7] (fun c wr=>∃i:Nat,i<=1/\c=.int .i64 i/\(∀y∈l.take i,shapedP d y.pt=true)/\Below (w.alloc o).heap.size (w.alloc o) wr) (fun c _=>1-(intOf c).toNat)
        case atStart=>exact⟨0,zS _,rfl,by simp,by rw[HO.out];exact zF _ _⟩
        case round=>
         obtain⟨i,hi,rfl,hall,hbq⟩:=hrel;have HAll:=zA hall;have HBQ:=zA hbq;have c2:=HC.out _ hbq;clear hall hbq;by_cases hlt:i<1
         . have hltI:(i:Int)<(1:Int):=by omega
           obtain⟨x,hx⟩:∃x,l[i]?=some x:=⟨_,zB (by rw[<- HN.out];exact hlt)⟩
           obtain⟨g,off,rfl,_,_,hcell⟩:=(H1.out.below (below_boxQ HBQ.out)).get hx;obtain⟨q0,q1,q2⟩:=getN hcell;have hxm:=zC hx;have HX:=zA hx;have HXM:=zA hxm;have HC2:=zA (IH.out x hxm d (dp-1) wr (by have:=HD12.out;omega) (by have:=HD.out;omega) ((H4.out x hxm).below (below_boxQ HBQ.out)));obtain⟨m,hm⟩:∃m,m=shapedP d x.pt:=⟨_,rfl⟩
           rw[<- hm]at HC2;have HM:=zA hm;obtain⟨xa,xc,hxv⟩:=(H4.out x hxm).parts.1.slice;obtain⟨xn,hxn⟩:∃n,n=x.kids.length:=⟨_,rfl⟩
           rw[<- hxn]at hxv;clear hm hxm hx hcell hxn;cases m with
           |true=>
            have HA2:=zA (all_shape HX.out HAll.out HM.out.symm);obtain⟨xk,xw,xv,xl⟩:=x;dsimp only at q0 q1 q2 hxv;subst hxv;go_wp2_with fail;refine HC2.out.mono ?_;rintro e w2 ⟨rfl,hb2⟩;have HB2:=zA (HBQ.out.trans (hb2.mono HBQ.out.size));clear hb2;go_wp2;go_roundw
            case rel=>exact⟨i+1,by omega,by go_num,HA2.out,HB2.out⟩
            case measure=>simp[intOf];omega
           |false=>
            have HF:Hid (ans=false):=zA (by
             rw[HALL.out,List.all_eq_false];exact⟨x.pt,zU HXM.out,by rw[<- HM.out];decide⟩)
            obtain⟨xk,xw,xv,xl⟩:=x;dsimp only at q0 q1 q2 hxv;subst hxv;go_wp2_with fail;refine HC2.out.mono ?_;rintro e w2 ⟨rfl,hb2⟩;have HB2:=zA (HBQ.out.trans (hb2.mono HBQ.out.size));clear hb2;go_wp2;go_ret;exact⟨by rw[HF.out];rfl,below_boxQ HB2.out⟩
         . have hltI:¬(i:Int)<(1:Int):=by omega
           have HF:Hid (ans=true):=zA (by
            rw[HALL.out,yJ];intro y hy;obtain⟨z,hz,rfl⟩:=zR.1 hy;refine HAll.out z ?_;rw[zK (by rw[<- HN.out];omega)];exact hz)
           go_wp2;go_ret;exact⟨by rw[HF.out];rfl,below_boxQ HBQ.out⟩
      . have e2:=isEmpty_no hw;have e3:(wd==[])=false:=by simpa using hw
        have HF:Hid (ans=false):=zA (by rw[HA.out,shapedP];simp[formedP,hw]);go_enter Tryz.func13,Tryz.ntmps13;go_wp2;go_ret;exact⟨by rw[HF.out];rfl,HB.out _⟩
    . obtain⟨e1,e2⟩:=not_both (a:=(n:Int)) (b:=1) (by omega);have HF:Hid (ans=false):=zA (by rw[HA.out,shapedP,zH,<- HN.out];simp[formedP,hn2]);clear hn2;go_enter Tryz.func13,Tryz.ntmps13;go_wp2;go_ret;exact⟨by rw[HF.out];rfl,HB.out _⟩
  . by_cases hn2:n=1
    . subst hn2;by_cases hw:wd=[]
      . subst hw;have HALL:Hid (ans=(l.map Vt.pt).all (shapedP d)):=zA (by rw[HA.out,shapedP,zH,<- HN.out];simp[formedP]);obtain⟨o,ho⟩:∃o,o=Obj.cells #[.int .i64 6,.string ⟨([]:List UInt8).toArray⟩,.slice ao 1 cap] 25:=⟨_,rfl⟩
        have HO:=zA ho;have HC:Hid (∀wr,Below (w.alloc o).heap.size (w.alloc o) wr->wr.cell? ⟨w.heap.size,2,none⟩=some (.slice ao 1 cap)):=zA (fun wr hb=>by
         have h:=box_keptQ hb;rw[HO.out]at h;simp[World.cell?,h])
        clear ho;go_enter Tryz.func13,Tryz.ntmps13;go_wp2_with fail;go_loopw [7] (fun c wr=>∃i:Nat,i<=1/\c=.int .i64 i/\(∀y∈l.take i,shapedP d y.pt=true)/\Below (w.alloc o).heap.size (w.alloc o) wr) (fun c _=>1-(intOf c).toNat)
        case atStart=>exact⟨0,zS _,rfl,by simp,by rw[HO.out];exact zF _ _⟩
        case round=>
         obtain⟨i,hi,rfl,hall,hbq⟩:=hrel;have HAll:=zA hall;have HBQ:=zA hbq;have c2:=HC.out _ hbq;clear hall hbq;by_cases hlt:i<1
         . have hltI:(i:Int)<(1:Int):=by omega
           obtain⟨x,hx⟩:∃x,l[i]?=some x:=⟨_,zB (by rw[<- HN.out];exact hlt)⟩
           obtain⟨g,off,rfl,_,_,hcell⟩:=(H1.out.below (below_boxQ HBQ.out)).get hx;obtain⟨q0,q1,q2⟩:=getN hcell;have hxm:=zC hx;have HX:=zA hx;have HXM:=zA hxm;have HC2:=zA (IH.out x hxm d (dp-1) wr (by have:=HD12.out;omega) (by have:=HD.out;omega) ((H4.out x hxm).below (below_boxQ HBQ.out)));obtain⟨m,hm⟩:∃m,m=shapedP d x.pt:=⟨_,rfl⟩
           rw[<- hm]at HC2;have HM:=zA hm;obtain⟨xa,xc,hxv⟩:=(H4.out x hxm).parts.1.slice;obtain⟨xn,hxn⟩:∃n,n=x.kids.length:=⟨_,rfl⟩
           rw[<- hxn]at hxv;clear hm hxm hx hcell hxn;cases m with
           |true=>
            have HA2:=zA (all_shape HX.out HAll.out HM.out.symm);obtain⟨xk,xw,xv,xl⟩:=x;dsimp only at q0 q1 q2 hxv;subst hxv;go_wp2_with fail;refine HC2.out.mono ?_;rintro e w2 ⟨rfl,hb2⟩;have HB2:=zA (HBQ.out.trans (hb2.mono HBQ.out.size));clear hb2;go_wp2;go_roundw
            case rel=>exact⟨i+1,by omega,by go_num,HA2.out,HB2.out⟩
            case measure=>simp[intOf];omega
           |false=>
            have HF:Hid (ans=false):=zA (by
             rw[HALL.out,List.all_eq_false];exact⟨x.pt,zU HXM.out,by rw[<- HM.out];decide⟩)
            obtain⟨xk,xw,xv,xl⟩:=x;dsimp only at q0 q1 q2 hxv;subst hxv;go_wp2_with fail;refine HC2.out.mono ?_;rintro e w2 ⟨rfl,hb2⟩;have HB2:=zA (HBQ.out.trans (hb2.mono HBQ.out.size));clear hb2;go_wp2;go_ret;exact⟨by rw[HF.out];rfl,below_boxQ HB2.out⟩
         . have hltI:¬(i:Int)<(1:Int):=by omega
           have HF:Hid (ans=true):=zA (by
            rw[HALL.out,yJ];intro y hy;obtain⟨z,hz,rfl⟩:=zR.1 hy;refine HAll.out z ?_;rw[zK (by rw[<- HN.out];omega)];exact hz)
           go_wp2;go_ret;exact⟨by rw[HF.out];rfl,below_boxQ HBQ.out⟩
      . have e2:=isEmpty_no hw;have e3:(wd==[])=false:=by simpa using hw
        have HF:Hid (ans=false):=zA (by rw[HA.out,shapedP];simp[formedP,hw]);go_enter Tryz.func13,Tryz.ntmps13;go_wp2;go_ret;exact⟨by rw[HF.out];rfl,HB.out _⟩
    . obtain⟨e1,e2⟩:=not_both (a:=(n:Int)) (b:=1) (by omega);have HF:Hid (ans=false):=zA (by rw[HA.out,shapedP,zH,<- HN.out];simp[formedP,hn2]);clear hn2;go_enter Tryz.func13,Tryz.ntmps13;go_wp2;go_ret;exact⟨by rw[HF.out];rfl,HB.out _⟩
set_option maxHeartbeats 2000000 in
theorem rMayPath_any{S:Nat->Prop}{w:World}{t:Vt}(h:VOk S w t):
 Calls Tryz.prog 5 #[encN t] w fun e w'=>e=.returned (.bool (mayP t.pt))/\Below w.heap.size w w':=by
 have HB:Hid (∀a:Obj,Below w.heap.size w (w.alloc a)):=zA (fun a=>(zF _ _).alloc (zD _) _);have HC:=zA (fun u (hu:Below w.heap.size w u)=>rShaped_any t 12 12 u (zD _) rfl (h.below hu));obtain⟨ao,cap,hv⟩:=h.parts.1.slice;obtain⟨ans,hans⟩:∃a,a=mayP t.pt:=⟨_,rfl⟩
 rw[<- hans];obtain⟨m,hm⟩:∃m,m=shapedP 12 t.pt:=⟨_,rfl⟩
 rw[<- hm]at HC;cases m with
 |false=>
  have HE:Hid (ans=false):=zA (by rw[hans,mayP,<- hm];rfl);obtain⟨k,wd,v,l⟩:=t;dsimp only at hv HC;subst hv;clear hans h hm;go_enter Tryz.func5,Tryz.ntmps5;go_wp2_with fail;refine(HC.out _ (HB.out _)).mono ?_;rintro e w2 ⟨rfl,hb2⟩;go_wp2;go_ret;exact⟨by rw[HE.out];rfl,(HB.out _).trans (hb2.mono (by simp))⟩
 |true=>
  have hb:=leaves_shaped 12 t.pt hm.symm;have HP:=zA (fun u (hu:Below w.heap.size w u)=>rPlaces_any t u (zQ hb (by decide)) (h.below hu));have HE:Hid (ans=decide (leaves t.pt<=24)):=zA (by rw[hans,mayP,<- hm];rfl);obtain⟨p,hp⟩:∃p,p=leaves t.pt:=⟨_,rfl⟩
  rw[<- hp]at HP HE;have hpb:p<=24^12:=by rw[hp];exact hb
  have hpc:p<=4611686018427387903:=zQ hpb (by decide);obtain⟨k,wd,v,l⟩:=t;dsimp only at hv HC HP;subst hv;clear hans h hm hb hp hpb;obtain⟨o,ho⟩:∃o,o=Obj.cells #[.int .i64 k,.string ⟨wd.toArray⟩,.slice ao l.length cap] 25:=⟨_,rfl⟩
  have HO:=zA ho;have HCC:Hid (∀wr,Below (w.alloc o).heap.size (w.alloc o) wr->wr.cell? ⟨w.heap.size,0,none⟩=some (.int .i64 k)/\wr.cell? ⟨w.heap.size,1,none⟩=some (.string ⟨wd.toArray⟩)/\wr.cell? ⟨w.heap.size,2,none⟩=some (.slice ao l.length cap)):=zA (fun wr hb=>by
   have h:=box_keptQ hb;rw[HO.out]at h;exact⟨by simp[World.cell?,h],by simp[World.cell?,h],by simp[World.cell?,h]⟩)
  clear ho;go_enter Tryz.func5,Tryz.ntmps5;go_wp2_with fail;rw[<- HO.out];refine(HC.out _ (HB.out _)).mono ?_;rintro e w2 ⟨rfl,hb2⟩;obtain⟨c0,c1,c2⟩:=HCC.out _ hb2;have HB2:Hid (Below w.heap.size w w2):=zA (below_boxQ hb2);clear hb2;go_wp2_with fail;refine(HP.out _ HB2.out).mono ?_;rintro e w3 ⟨rfl,hb3⟩;go_wp2;go_ret;exact⟨by rw[HE.out];simp;omega,HB2.out.trans (hb3.mono HB2.out.size)⟩
end Go.Proofs.YtdalcipmpelifaaGreatDoor
