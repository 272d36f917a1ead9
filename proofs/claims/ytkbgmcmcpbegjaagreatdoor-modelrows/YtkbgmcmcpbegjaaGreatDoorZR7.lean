/- QShaped. -/
import Derived.Test.YtkbgmcmcpbegjaaGreatDoorZR6
set_option maxRecDepth 100000
set_option maxHeartbeats 8000000
namespace Go.Proofs.YtkbgmcmcpbegjaaGreatDoor
open Go.RowKit
theorem jg6{S:Nat->Prop}:∀(t:Vt) (d:Nat) (dp:Int) (w:World),d<=12->dp=d->VOk S w t->
 Calls Tryz.prog 47 #[encN t,.int .i64 dp] w fun e w'=>e=.returned (.bool (jaf d t.pt))/\Below w.heap.size w w':=by
 refine Vt.ind (fun k wd v l ih=>?_);intro d dp w aw hd ay;obtain⟨h1,h2,h3,h4⟩:=jbV.1 ay;obtain⟨ao,aq,hv⟩:=h1.slice;subst hv;have H1:=zA h1;have H4:=zA h4;have IH:=zA ih;have HI:=zA (fun w=>jd2 wd w h2);rw[Vt.pt_mk];obtain⟨n,hn⟩:=eX l.length;rw[<- hn]at h3 H1 ⊢;have HN:=zA hn;obtain⟨ac,av⟩:=eX (jaf d ⟨k,wd,l.map Vt.pt⟩);rw[<- av];have HA:=zA av;have HB:Hid (∀a:Obj,Below w.heap.size w (w.alloc a)):=zA (fun a=>(zF _ _).alloc (zD _) _);clear h1 h2 h4 ih ay hn av;cases d with
 |zero=>
  subst hd;have HF:Hid (ac=false):=zA (by rw[HA.out];rfl);clear aw;rcases jdz k with rfl|rfl|rfl|rfl|rfl|rfl|⟨k1,k2,k3,k4,k5,k6⟩
  case inr.inr.inr.inr.inr.inr=>
   obtain⟨a1,b1⟩:=jaj k1;obtain⟨a2,b2⟩:=jaj k2;obtain⟨a3,b3⟩:=jaj k3;obtain⟨a4,b4⟩:=jaj k4;obtain⟨a5,b5⟩:=jaj k5;obtain⟨a6,b6⟩:=jaj k6;clear k1 k2 k3 k4 k5 k6;go_enter Tryz.func47,Tryz.ntmps47;go_wp2;go_ret;exact⟨by rw[HF.out];rfl,HB.out _⟩
  all_goals (
   go_enter Tryz.func47,Tryz.ntmps47;go_wp2;go_ret;exact⟨by rw[HF.out];rfl,HB.out _⟩)
 |succ d=>
  have hdp0:(0:Int)<dp:=by omega
  have hdp1:dp<=12:=by omega
  have HD:=zA hd;have ap:=zA aw;clear hd aw;rcases jdz k with rfl|rfl|rfl|rfl|rfl|rfl|⟨k1,k2,k3,k4,k5,k6⟩
  . obtain⟨m,hm⟩:=eX (isW wd);rw[<- hm]at HI;by_cases h0:n=0
    . have HF:Hid (ac=m):=zA (by
       have az:l=[]:=yP.1 (by rw[<- HN.out];exact h0);rw[HA.out,az,hm];simp[jaf,jam])
      subst h0;clear hm;go_enter Tryz.func47,Tryz.ntmps47;go_wp2_with fail;refine(HI.out _).mono ?_;rintro e w1 ⟨rfl,hw⟩;subst hw;go_wp2;go_ret;exact⟨by rw[HF.out];rfl,HB.out _⟩
    . obtain⟨e1,e2⟩:=jaj (a:=(n:Int)) (b:=0) (by omega);have HF:Hid (ac=false):=zA (by
       rw[HA.out,jaf,zH,<- HN.out];simp[jam,h0])
      clear h0 hm;go_enter Tryz.func47,Tryz.ntmps47;go_wp2;go_ret;exact⟨by rw[HF.out];rfl,HB.out _⟩
  case inr.inr.inr.inr.inr.inr=>
   obtain⟨a1,b1⟩:=jaj k1;obtain⟨a2,b2⟩:=jaj k2;obtain⟨a3,b3⟩:=jaj k3;obtain⟨a4,b4⟩:=jaj k4;obtain⟨a5,b5⟩:=jaj k5;obtain⟨a6,b6⟩:=jaj k6;have HF:Hid (ac=false):=zA (by rw[HA.out,jaf];simp[jam,a1,a2,a3,a4,a5,a6]);clear k1 k2 k3 k4 k5 k6;go_enter Tryz.func47,Tryz.ntmps47;go_wp2;go_ret;exact⟨by rw[HF.out];rfl,HB.out _⟩
  . by_cases hn2:2<=n
    . have e1:(2:Int)<=(n:Int):=by omega
      by_cases hw:wd=[]
      . subst hw;by_cases h24:24<n
        . have e2:(24:Int)<(n:Int):=by omega
          have HF:Hid (ac=false):=zA (by rw[HA.out,jaf,zH,<- HN.out];simp;omega);clear hn2 h24;go_enter Tryz.func47,Tryz.ntmps47;go_wp2;go_ret;exact⟨by rw[HF.out];rfl,HB.out _⟩
        . have e2:¬(24:Int)<(n:Int):=by omega
          have ad:Hid (ac=(l.map Vt.pt).all (jaf d)):=zA (by rw[HA.out,jaf,zH,<- HN.out];simp[jam,hn2];omega);clear hn2 h24;obtain⟨o,ho⟩:=eX (Obj.cells #[.int .i64 2,.string ⟨([]:List UInt8).toArray⟩,.slice ao n aq] 25);have HO:=zA ho;have HC:Hid (∀wr,Below (w.alloc o).heap.size (w.alloc o) wr->wr.cell? ⟨w.heap.size,2,none⟩=some (.slice ao n aq)):=zA (fun wr hb=>by
           have h:=jav hb;rw[HO.out]at h;simp[World.cell?,h])
          clear ho;go_enter Tryz.func47,Tryz.ntmps47;go_wp2_with fail;go_loopw [7] (fun c wr=>∃i:Nat,i<=n/\c=.int .i64 i/\(∀y∈l.take i,jaf d y.pt=true)/\Below (w.alloc o).heap.size (w.alloc o) wr) (fun c _=>n-(intOf c).toNat)
          case atStart=>exact⟨0,zO _,rfl,by simp,by rw[HO.out];exact zF _ _⟩
          case round=>
           obtain⟨i,hi,rfl,ag,am⟩:=hrel;have af:=zA ag;have ab:=zA am;have c2:=HC.out _ am;clear ag am;by_cases hlt:i<n
           . have aj:(i:Int)<(n:Int):=by omega
             obtain⟨x,hx⟩:∃x,l[i]?=some x:=⟨_,zB (by rw[<- HN.out];exact hlt)⟩
             obtain⟨g,ax,rfl,_,_,aa⟩:=(H1.out.below (jaa ab.out)).get hx;obtain⟨q0,q1,q2⟩:=getN aa;have ae:=zC hx;have HX:=zA hx;have au:=zA ae;have ak:=zA (IH.out x ae d (dp-1) wr (by have:=ap.out;omega) (by have:=HD.out;omega) ((H4.out x ae).below (jaa ab.out)));obtain⟨m,hm⟩:=eX (jaf d x.pt);rw[<- hm]at ak;have HM:=zA hm;obtain⟨xa,xc,ah⟩:=(H4.out x ae).parts.1.slice;obtain⟨xn,an⟩:=eX x.kids.length;rw[<- an]at ah;clear hm ae hx aa an;cases m with
             |true=>
              have ar:=zA (jcv HX.out af.out HM.out.symm);obtain⟨xk,xw,xv,xl⟩:=x;dsimp only at q0 q1 q2 ah;subst ah;go_wp2_with fail;refine ak.out.mono ?_;rintro e w2 ⟨rfl,ai⟩;have al:=zA (ab.out.trans (ai.mono ab.out.size));clear ai;go_wp2;go_roundw
              case rel=>exact⟨i+1,by omega,by go_num,ar.out,al.out⟩
              case measure=>simp[intOf];omega
             |false=>
              have HF:Hid (ac=false):=zA (by
               rw[ad.out,List.all_eq_false];exact⟨x.pt,zW au.out,by rw[<- HM.out];decide⟩)
              obtain⟨xk,xw,xv,xl⟩:=x;dsimp only at q0 q1 q2 ah;subst ah;go_wp2_with fail;refine ak.out.mono ?_;rintro e w2 ⟨rfl,ai⟩;have al:=zA (ab.out.trans (ai.mono ab.out.size));clear ai;go_wp2;go_ret;exact⟨by rw[HF.out];rfl,jaa al.out⟩
           . have aj:¬(i:Int)<(n:Int):=by omega
             have HF:Hid (ac=true):=zA (by
              rw[ad.out,yF];intro y hy;obtain⟨z,hz,rfl⟩:=zV.1 hy;refine af.out z ?_;rw[zJ (by rw[<- HN.out];omega)];exact hz)
             go_wp2;go_ret;exact⟨by rw[HF.out];rfl,jaa ab.out⟩
      . have e2:=jbd hw;have e3:(wd==[])=false:=by simpa using hw
        have HF:Hid (ac=false):=zA (by rw[HA.out,jaf];simp[jam,hw]);clear hn2;go_enter Tryz.func47,Tryz.ntmps47;go_wp2;go_ret;exact⟨by rw[HF.out];rfl,HB.out _⟩
    . have e1:¬(2:Int)<=(n:Int):=by omega
      have HF:Hid (ac=false):=zA (by rw[HA.out,jaf,zH,<- HN.out];simp[jam,hn2]);clear hn2;go_enter Tryz.func47,Tryz.ntmps47;go_wp2;go_ret;exact⟨by rw[HF.out];rfl,HB.out _⟩
  . by_cases hn2:2<=n
    . have e1:(2:Int)<=(n:Int):=by omega
      by_cases hw:wd=[]
      . subst hw;by_cases h24:24<n
        . have e2:(24:Int)<(n:Int):=by omega
          have HF:Hid (ac=false):=zA (by rw[HA.out,jaf,zH,<- HN.out];simp;omega);clear hn2 h24;go_enter Tryz.func47,Tryz.ntmps47;go_wp2;go_ret;exact⟨by rw[HF.out];rfl,HB.out _⟩
        . have e2:¬(24:Int)<(n:Int):=by omega
          have ad:Hid (ac=(l.map Vt.pt).all (jaf d)):=zA (by rw[HA.out,jaf,zH,<- HN.out];simp[jam,hn2];omega);clear hn2 h24;obtain⟨o,ho⟩:=eX (Obj.cells #[.int .i64 3,.string ⟨([]:List UInt8).toArray⟩,.slice ao n aq] 25);have HO:=zA ho;have HC:Hid (∀wr,Below (w.alloc o).heap.size (w.alloc o) wr->wr.cell? ⟨w.heap.size,2,none⟩=some (.slice ao n aq)):=zA (fun wr hb=>by
           have h:=jav hb;rw[HO.out]at h;simp[World.cell?,h])
          clear ho;go_enter Tryz.func47,Tryz.ntmps47;go_wp2_with fail;go_loopw [7] (fun c wr=>∃i:Nat,i<=n/\c=.int .i64 i/\(∀y∈l.take i,jaf d y.pt=true)/\Below (w.alloc o).heap.size (w.alloc o) wr) (fun c _=>n-(intOf c).toNat)
          case atStart=>exact⟨0,zO _,rfl,by simp,by rw[HO.out];exact zF _ _⟩
          case round=>
           obtain⟨i,hi,rfl,ag,am⟩:=hrel;have af:=zA ag;have ab:=zA am;have c2:=HC.out _ am;clear ag am;by_cases hlt:i<n
           . have aj:(i:Int)<(n:Int):=by omega
             obtain⟨x,hx⟩:∃x,l[i]?=some x:=⟨_,zB (by rw[<- HN.out];exact hlt)⟩
             obtain⟨g,ax,rfl,_,_,aa⟩:=(H1.out.below (jaa ab.out)).get hx;obtain⟨q0,q1,q2⟩:=getN aa;have ae:=zC hx;have HX:=zA hx;have au:=zA ae;have ak:=zA (IH.out x ae d (dp-1) wr (by have:=ap.out;omega) (by have:=HD.out;omega) ((H4.out x ae).below (jaa ab.out)));obtain⟨m,hm⟩:=eX (jaf d x.pt);rw[<- hm]at ak;have HM:=zA hm;obtain⟨xa,xc,ah⟩:=(H4.out x ae).parts.1.slice;obtain⟨xn,an⟩:=eX x.kids.length;rw[<- an]at ah;clear hm ae hx aa an;cases m with
             |true=>
              have ar:=zA (jcv HX.out af.out HM.out.symm);obtain⟨xk,xw,xv,xl⟩:=x;dsimp only at q0 q1 q2 ah;subst ah;go_wp2_with fail;refine ak.out.mono ?_;rintro e w2 ⟨rfl,ai⟩;have al:=zA (ab.out.trans (ai.mono ab.out.size));clear ai;go_wp2;go_roundw
              case rel=>exact⟨i+1,by omega,by go_num,ar.out,al.out⟩
              case measure=>simp[intOf];omega
             |false=>
              have HF:Hid (ac=false):=zA (by
               rw[ad.out,List.all_eq_false];exact⟨x.pt,zW au.out,by rw[<- HM.out];decide⟩)
              obtain⟨xk,xw,xv,xl⟩:=x;dsimp only at q0 q1 q2 ah;subst ah;go_wp2_with fail;refine ak.out.mono ?_;rintro e w2 ⟨rfl,ai⟩;have al:=zA (ab.out.trans (ai.mono ab.out.size));clear ai;go_wp2;go_ret;exact⟨by rw[HF.out];rfl,jaa al.out⟩
           . have aj:¬(i:Int)<(n:Int):=by omega
             have HF:Hid (ac=true):=zA (by
              rw[ad.out,yF];intro y hy;obtain⟨z,hz,rfl⟩:=zV.1 hy;refine af.out z ?_;rw[zJ (by rw[<- HN.out];omega)];exact hz)
             go_wp2;go_ret;exact⟨by rw[HF.out];rfl,jaa ab.out⟩
      . have e2:=jbd hw;have e3:(wd==[])=false:=by simpa using hw
        have HF:Hid (ac=false):=zA (by rw[HA.out,jaf];simp[jam,hw]);clear hn2;go_enter Tryz.func47,Tryz.ntmps47;go_wp2;go_ret;exact⟨by rw[HF.out];rfl,HB.out _⟩
    . have e1:¬(2:Int)<=(n:Int):=by omega
      have HF:Hid (ac=false):=zA (by rw[HA.out,jaf,zH,<- HN.out];simp[jam,hn2]);clear hn2;go_enter Tryz.func47,Tryz.ntmps47;go_wp2;go_ret;exact⟨by rw[HF.out];rfl,HB.out _⟩
  . by_cases hn2:n=1
    . subst hn2;by_cases hw:wd=[]
      . subst hw;have ad:Hid (ac=(l.map Vt.pt).all (jaf d)):=zA (by rw[HA.out,jaf,zH,<- HN.out];simp[jam]);obtain⟨o,ho⟩:=eX (Obj.cells #[.int .i64 4,.string ⟨([]:List UInt8).toArray⟩,.slice ao 1 aq] 25);have HO:=zA ho;have HC:Hid (∀wr,Below (w.alloc o).heap.size (w.alloc o) wr->wr.cell? ⟨w.heap.size,2,none⟩=some (.slice ao 1 aq)):=zA (fun wr hb=>by
         have h:=jav hb;rw[HO.out]at h;simp[World.cell?,h])
        clear ho;go_enter Tryz.func47,Tryz.ntmps47;go_wp2_with fail;go_loopw [7] (fun c wr=>∃i:Nat,i<=1/\c=.int .i64 i/\(∀y∈l.take i,jaf d y.pt=true)/\Below (w.alloc o).heap.size (w.alloc o) wr) (fun c _=>1-(intOf c).toNat)
        case atStart=>exact⟨0,zO _,rfl,by simp,by rw[HO.out];exact zF _ _⟩
        case round=>
         obtain⟨i,hi,rfl,ag,am⟩:=hrel;have af:=zA ag;have ab:=zA am;have c2:=HC.out _ am;clear ag am;by_cases hlt:i<1
         . have aj:(i:Int)<(1:Int):=by omega
           obtain⟨x,hx⟩:∃x,l[i]?=some x:=⟨_,zB (by rw[<- HN.out];exact hlt)⟩
           obtain⟨g,ax,rfl,_,_,aa⟩:=(H1.out.below (jaa ab.out)).get hx;obtain⟨q0,q1,q2⟩:=getN aa;have ae:=zC hx;have HX:=zA hx;have au:=zA ae;have ak:=zA (IH.out x ae d (dp-1) wr (by have:=ap.out;omega) (by have:=HD.out;omega) ((H4.out x ae).below (jaa ab.out)));obtain⟨m,hm⟩:=eX (jaf d x.pt);rw[<- hm]at ak;have HM:=zA hm;obtain⟨xa,xc,ah⟩:=(H4.out x ae).parts.1.slice;obtain⟨xn,an⟩:=eX x.kids.length;rw[<- an]at ah;clear hm ae hx aa an;cases m with
           |true=>
            have ar:=zA (jcv HX.out af.out HM.out.symm);obtain⟨xk,xw,xv,xl⟩:=x;dsimp only at q0 q1 q2 ah;subst ah;go_wp2_with fail;refine ak.out.mono ?_;rintro e w2 ⟨rfl,ai⟩;have al:=zA (ab.out.trans (ai.mono ab.out.size));clear ai;go_wp2;go_roundw
            case rel=>exact⟨i+1,by omega,by go_num,ar.out,al.out⟩
            case measure=>simp[intOf];omega
           |false=>
            have HF:Hid (ac=false):=zA (by
             rw[ad.out,List.all_eq_false];exact⟨x.pt,zW au.out,by rw[<- HM.out];decide⟩)
            obtain⟨xk,xw,xv,xl⟩:=x;dsimp only at q0 q1 q2 ah;subst ah;go_wp2_with fail;refine ak.out.mono ?_;rintro e w2 ⟨rfl,ai⟩;have al:=zA (ab.out.trans (ai.mono ab.out.size));clear ai;go_wp2;go_ret;exact⟨by rw[HF.out];rfl,jaa al.out⟩
         . have aj:¬(i:Int)<(1:Int):=by omega
           have HF:Hid (ac=true):=zA (by
            rw[ad.out,yF];intro y hy;obtain⟨z,hz,rfl⟩:=zV.1 hy;refine af.out z ?_;rw[zJ (by rw[<- HN.out];omega)];exact hz)
           go_wp2;go_ret;exact⟨by rw[HF.out];rfl,jaa ab.out⟩
      . have e2:=jbd hw;have e3:(wd==[])=false:=by simpa using hw
        have HF:Hid (ac=false):=zA (by rw[HA.out,jaf];simp[jam,hw]);go_enter Tryz.func47,Tryz.ntmps47;go_wp2;go_ret;exact⟨by rw[HF.out];rfl,HB.out _⟩
    . obtain⟨e1,e2⟩:=jaj (a:=(n:Int)) (b:=1) (by omega);have HF:Hid (ac=false):=zA (by rw[HA.out,jaf,zH,<- HN.out];simp[jam,hn2]);clear hn2;go_enter Tryz.func47,Tryz.ntmps47;go_wp2;go_ret;exact⟨by rw[HF.out];rfl,HB.out _⟩
  . by_cases hn2:n=1
    . subst hn2;by_cases hw:wd=[]
      . subst hw;have ad:Hid (ac=(l.map Vt.pt).all (jaf d)):=zA (by rw[HA.out,jaf,zH,<- HN.out];simp[jam]);obtain⟨o,ho⟩:=eX (Obj.cells #[.int .i64 5,.string ⟨([]:List UInt8).toArray⟩,.slice ao 1 aq] 25);have HO:=zA ho;have HC:Hid (∀wr,Below (w.alloc o).heap.size (w.alloc o) wr->wr.cell? ⟨w.heap.size,2,none⟩=some (.slice ao 1 aq)):=zA (fun wr hb=>by
         have h:=jav hb;rw[HO.out]at h;simp[World.cell?,h])
        clear ho;go_enter Tryz.func47,Tryz.ntmps47;go_wp2_with fail;go_loopw [7] (fun c wr=>∃i:Nat,i<=1/\c=.int .i64 i/\(∀y∈l.take i,jaf d y.pt=true)/\Below (w.alloc o).heap.size (w.alloc o) wr) (fun c _=>1-(intOf c).toNat)
        case atStart=>exact⟨0,zO _,rfl,by simp,by rw[HO.out];exact zF _ _⟩
        case round=>
         obtain⟨i,hi,rfl,ag,am⟩:=hrel;have af:=zA ag;have ab:=zA am;have c2:=HC.out _ am;clear ag am;by_cases hlt:i<1
         . have aj:(i:Int)<(1:Int):=by omega
           obtain⟨x,hx⟩:∃x,l[i]?=some x:=⟨_,zB (by rw[<- HN.out];exact hlt)⟩
           obtain⟨g,ax,rfl,_,_,aa⟩:=(H1.out.below (jaa ab.out)).get hx;obtain⟨q0,q1,q2⟩:=getN aa;have ae:=zC hx;have HX:=zA hx;have au:=zA ae;have ak:=zA (IH.out x ae d (dp-1) wr (by have:=ap.out;omega) (by have:=HD.out;omega) ((H4.out x ae).below (jaa ab.out)));obtain⟨m,hm⟩:=eX (jaf d x.pt);rw[<- hm]at ak;have HM:=zA hm;obtain⟨xa,xc,ah⟩:=(H4.out x ae).parts.1.slice;obtain⟨xn,an⟩:=eX x.kids.length;rw[<- an]at ah;clear hm ae hx aa an;cases m with
           |true=>
            have ar:=zA (jcv HX.out af.out HM.out.symm);obtain⟨xk,xw,xv,xl⟩:=x;dsimp only at q0 q1 q2 ah;subst ah;go_wp2_with fail;refine ak.out.mono ?_;rintro e w2 ⟨rfl,ai⟩;have al:=zA (ab.out.trans (ai.mono ab.out.size));clear ai;go_wp2;go_roundw
            case rel=>exact⟨i+1,by omega,by go_num,ar.out,al.out⟩
            case measure=>simp[intOf];omega
           |false=>
            have HF:Hid (ac=false):=zA (by
             rw[ad.out,List.all_eq_false];exact⟨x.pt,zW au.out,by rw[<- HM.out];decide⟩)
            obtain⟨xk,xw,xv,xl⟩:=x;dsimp only at q0 q1 q2 ah;subst ah;go_wp2_with fail;refine ak.out.mono ?_;rintro e w2 ⟨rfl,ai⟩;have al:=zA (ab.out.trans (ai.mono ab.out.size));clear ai;go_wp2;go_ret;exact⟨by rw[HF.out];rfl,jaa al.out⟩
         . have aj:¬(i:Int)<(1:Int):=by omega
           have HF:Hid (ac=true):=zA (by
            rw[ad.out,yF];intro y hy;obtain⟨z,hz,rfl⟩:=zV.1 hy;refine af.out z ?_;rw[zJ (by rw[<- HN.out];omega)];exact hz)
           go_wp2;go_ret;exact⟨by rw[HF.out];rfl,jaa ab.out⟩
      . have e2:=jbd hw;have e3:(wd==[])=false:=by simpa using hw
        have HF:Hid (ac=false):=zA (by rw[HA.out,jaf];simp[jam,hw]);go_enter Tryz.func47,Tryz.ntmps47;go_wp2;go_ret;exact⟨by rw[HF.out];rfl,HB.out _⟩
    . obtain⟨e1,e2⟩:=jaj (a:=(n:Int)) (b:=1) (by omega);have HF:Hid (ac=false):=zA (by rw[HA.out,jaf,zH,<- HN.out];simp[jam,hn2]);clear hn2;go_enter Tryz.func47,Tryz.ntmps47;go_wp2;go_ret;exact⟨by rw[HF.out];rfl,HB.out _⟩
  . by_cases hn2:n=1
    . subst hn2;by_cases hw:wd=[]
      . subst hw;have ad:Hid (ac=(l.map Vt.pt).all (jaf d)):=zA (by rw[HA.out,jaf,zH,<- HN.out];simp[jam]);obtain⟨o,ho⟩:=eX (Obj.cells #[.int .i64 6,.string ⟨([]:List UInt8).toArray⟩,.slice ao 1 aq] 25);have HO:=zA ho;have HC:Hid (∀wr,Below (w.alloc o).heap.size (w.alloc o) wr->wr.cell? ⟨w.heap.size,2,none⟩=some (.slice ao 1 aq)):=zA (fun wr hb=>by
         have h:=jav hb;rw[HO.out]at h;simp[World.cell?,h])
        clear ho;go_enter Tryz.func47,Tryz.ntmps47;go_wp2_with fail;go_loopw [7] (fun c wr=>∃i:Nat,i<=1/\c=.int .i64 i/\(∀y∈l.take i,jaf d y.pt=true)/\Below (w.alloc o).heap.size (w.alloc o) wr) (fun c _=>1-(intOf c).toNat)
        case atStart=>exact⟨0,zO _,rfl,by simp,by rw[HO.out];exact zF _ _⟩
        case round=>
         obtain⟨i,hi,rfl,ag,am⟩:=hrel;have af:=zA ag;have ab:=zA am;have c2:=HC.out _ am;clear ag am;by_cases hlt:i<1
         . have aj:(i:Int)<(1:Int):=by omega
           obtain⟨x,hx⟩:∃x,l[i]?=some x:=⟨_,zB (by rw[<- HN.out];exact hlt)⟩
           obtain⟨g,ax,rfl,_,_,aa⟩:=(H1.out.below (jaa ab.out)).get hx;obtain⟨q0,q1,q2⟩:=getN aa;have ae:=zC hx;have HX:=zA hx;have au:=zA ae;have ak:=zA (IH.out x ae d (dp-1) wr (by have:=ap.out;omega) (by have:=HD.out;omega) ((H4.out x ae).below (jaa ab.out)));obtain⟨m,hm⟩:=eX (jaf d x.pt);rw[<- hm]at ak;have HM:=zA hm;obtain⟨xa,xc,ah⟩:=(H4.out x ae).parts.1.slice;obtain⟨xn,an⟩:=eX x.kids.length;rw[<- an]at ah;clear hm ae hx aa an;cases m with
           |true=>
            have ar:=zA (jcv HX.out af.out HM.out.symm);obtain⟨xk,xw,xv,xl⟩:=x;dsimp only at q0 q1 q2 ah;subst ah;go_wp2_with fail;refine ak.out.mono ?_;rintro e w2 ⟨rfl,ai⟩;have al:=zA (ab.out.trans (ai.mono ab.out.size));clear ai;go_wp2;go_roundw
            case rel=>exact⟨i+1,by omega,by go_num,ar.out,al.out⟩
            case measure=>simp[intOf];omega
           |false=>
            have HF:Hid (ac=false):=zA (by
             rw[ad.out,List.all_eq_false];exact⟨x.pt,zW au.out,by rw[<- HM.out];decide⟩)
            obtain⟨xk,xw,xv,xl⟩:=x;dsimp only at q0 q1 q2 ah;subst ah;go_wp2_with fail;refine ak.out.mono ?_;rintro e w2 ⟨rfl,ai⟩;have al:=zA (ab.out.trans (ai.mono ab.out.size));clear ai;go_wp2;go_ret;exact⟨by rw[HF.out];rfl,jaa al.out⟩
         . have aj:¬(i:Int)<(1:Int):=by omega
           have HF:Hid (ac=true):=zA (by
            rw[ad.out,yF];intro y hy;obtain⟨z,hz,rfl⟩:=zV.1 hy;refine af.out z ?_;rw[zJ (by rw[<- HN.out];omega)];exact hz)
           go_wp2;go_ret;exact⟨by rw[HF.out];rfl,jaa ab.out⟩
      . have e2:=jbd hw;have e3:(wd==[])=false:=by simpa using hw
        have HF:Hid (ac=false):=zA (by rw[HA.out,jaf];simp[jam,hw]);go_enter Tryz.func47,Tryz.ntmps47;go_wp2;go_ret;exact⟨by rw[HF.out];rfl,HB.out _⟩
    . obtain⟨e1,e2⟩:=jaj (a:=(n:Int)) (b:=1) (by omega);have HF:Hid (ac=false):=zA (by rw[HA.out,jaf,zH,<- HN.out];simp[jam,hn2]);clear hn2;go_enter Tryz.func47,Tryz.ntmps47;go_wp2;go_ret;exact⟨by rw[HF.out];rfl,HB.out _⟩
theorem jgL{S:Nat->Prop}{w:World}{t:Vt}(h:VOk S w t):
 Calls Tryz.prog 21 #[encN t] w fun e w'=>e=.returned (.bool (mayP t.pt))/\Below w.heap.size w w':=by
 have HB:Hid (∀a:Obj,Below w.heap.size w (w.alloc a)):=zA (fun a=>(zF _ _).alloc (zD _) _);have HC:=zA (fun u (hu:Below w.heap.size w u)=>jg6 t 12 12 u (zD _) rfl (h.below hu));obtain⟨ao,ad,hv⟩:=h.parts.1.slice;obtain⟨af,aa⟩:=eX (mayP t.pt);rw[<- aa];obtain⟨m,hm⟩:=eX (jaf 12 t.pt);rw[<- hm]at HC;cases m with
 |false=>
  have HE:Hid (af=false):=zA (by rw[aa,mayP,<- hm];rfl);obtain⟨k,wd,v,l⟩:=t;dsimp only at hv HC;subst hv;clear aa h hm;go_enter Tryz.func21,Tryz.ntmps21;go_wp2_with fail;refine(HC.out _ (HB.out _)).mono ?_;rintro e w2 ⟨rfl,ab⟩;go_wp2;go_ret;exact⟨by rw[HE.out];rfl,(HB.out _).trans (ab.mono (by simp))⟩
 |true=>
  have hb:=jc5 12 t.pt hm.symm;have HP:=zA (fun u (hu:Below w.heap.size w u)=>jeE t u (zT hb (by decide)) (h.below hu));have HE:Hid (af=decide (jap t.pt<=24)):=zA (by rw[aa,mayP,<- hm];rfl);obtain⟨p,hp⟩:=eX (jap t.pt);rw[<- hp]at HP HE;have ae:p<=24^12:=by rw[hp];exact hb
  have hpc:p<=4611686018427387903:=zT ae (by decide);obtain⟨k,wd,v,l⟩:=t;dsimp only at hv HC HP;subst hv;clear aa h hm hb hp ae;obtain⟨o,ho⟩:=eX (Obj.cells #[.int .i64 k,.string ⟨wd.toArray⟩,.slice ao l.length ad] 25);have HO:=zA ho;have ag:Hid (∀wr,Below (w.alloc o).heap.size (w.alloc o) wr->wr.cell? ⟨w.heap.size,0,none⟩=some (.int .i64 k)/\wr.cell? ⟨w.heap.size,1,none⟩=some (.string ⟨wd.toArray⟩)/\wr.cell? ⟨w.heap.size,2,none⟩=some (.slice ao l.length ad)):=zA (fun wr hb=>by
   have h:=jav hb;rw[HO.out]at h;exact⟨by simp[World.cell?,h],by simp[World.cell?,h],by simp[World.cell?,h]⟩)
  clear ho;go_enter Tryz.func21,Tryz.ntmps21;go_wp2_with fail;rw[<- HO.out];refine(HC.out _ (HB.out _)).mono ?_;rintro e w2 ⟨rfl,ab⟩;obtain⟨c0,c1,c2⟩:=ag.out _ ab;have ac:Hid (Below w.heap.size w w2):=zA (jaa ab);clear ab;go_wp2_with fail;refine(HP.out _ ac.out).mono ?_;rintro e w3 ⟨rfl,ah⟩;go_wp2;go_ret;exact⟨by rw[HE.out];simp;omega,ac.out.trans (ah.mono ac.out.size)⟩
end Go.Proofs.YtkbgmcmcpbegjaaGreatDoor
