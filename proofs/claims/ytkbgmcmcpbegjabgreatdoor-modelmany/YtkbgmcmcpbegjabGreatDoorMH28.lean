/- MSame. -/
import Derived.Test.YtkbgmcmcpbegjabGreatDoorMH14
set_option maxRecDepth 100000
namespace Go.Proofs.YtkbgmcmcpbegjabGreatDoor
open Go.RowKit Go.Shelf
set_option maxHeartbeats 4000000 in
theorem rSameW_any{S T:Nat->Prop}{w:World}{v1 v2:Value}{L1 L2:List Wd}(h1:TxtS S w v1 L1)(h2:TxtS T w v2 L2)(hl1:L1.length<=100000000):
 Calls Tryz.prog 23 #[v1,v2] w fun e w'=>e=.returned (.bool (decide (L1=L2)))/\Below w.heap.size w w':=by
 obtain⟨a1,c1,rfl⟩:=h1.slice;obtain⟨a2,c2,rfl⟩:=h2.slice;have H1:=zA h1;have H2:=zA h2;obtain⟨n1,hn1⟩:∃n,n=L1.length:=⟨_,rfl⟩
 obtain⟨n2,hn2⟩:∃n,n=L2.length:=⟨_,rfl⟩
 rw[<- hn1]at H1 hl1 ⊢;rw[<- hn2]at H2 ⊢;have HN1:=zA hn1;have HN2:=zA hn2;obtain⟨r,hr⟩:∃r,r=decide (L1=L2):=⟨_,rfl⟩
 rw[<- hr];have HR:=zA hr;clear h1 h2 hn1 hn2 hr;by_cases hnn:(n1:Int)=(n2:Int)
 . obtain rfl:n1=n2:=by omega
   clear hnn;go_enter Tryz.func23,Tryz.ntmps23;go_wp2_with fail;go_loopw [5] (fun c wr=>∃i:Nat,i<=n1/\c=.int .i64 i/\L1.take i=L2.take i/\Below w.heap.size w wr) (fun c _=>n1-(intOf c).toNat)
   case atStart=>exact⟨0,zR _,rfl,rfl,zF _ _⟩
   case round=>
    obtain⟨i,hi,rfl,htk,hbq⟩:=hrel;have HBQ:=zA hbq;have HTK:=zA htk;clear hbq htk;by_cases hlt:i<n1
    . have hltI:(i:Int)<(n1:Int):=by omega
      obtain⟨x,hx⟩:∃x,L1[i]?=some x:=⟨_,zB (by rw[<- HN1.out];exact hlt)⟩
      obtain⟨y,hy⟩:∃y,L2[i]?=some y:=⟨_,zB (by rw[<- HN2.out];exact hlt)⟩
      obtain⟨g1,o1,e1,_,_,hc1⟩:=(H1.out.below HBQ.out).get hx;obtain⟨g2,o2,e2,_,_,hc2⟩:=(H2.out.below HBQ.out).get hy;subst e1 e2;have q1:=hc1 0 _ rfl;have q2:=hc2 0 _ rfl;rw[yF,yJ]at q1 q2;have HX:=zA (And.intro hx hy);clear hx hy hc1 hc2;by_cases exy:x=y
      . have HT2:Hid (L1.take (i+1)=L2.take (i+1)):=zA (by rw[zU,zU,HX.out.1,HX.out.2,HTK.out,exy]);subst exy;go_wp2_with fail;go_quiet (fail);have HB9:=zA (below_drewN HBQ.out nq);go_wp2;go_roundw
        case rel=>exact⟨i+1,by omega,by go_num,HT2.out,HB9.out⟩
        case measure=>simp[intOf];omega
      . obtain⟨e1,e2⟩:=not_bothW exy;have HT:Hid (r=false):=zA (by
         rw[HR.out];refine decide_eq_false (fun h=>exy ?_);have:=HX.out;rw[h]at this;rw[this.1]at this;injection this.2)
        clear exy;go_wp2_with fail;go_quiet (fail);have HB9:=zA (below_drewN HBQ.out nq);go_wp2;go_ret;exact⟨by rw[HT.out];rfl,HB9.out⟩
    . have hltI:¬(i:Int)<(n1:Int):=by omega
      have HT:Hid (r=true):=zA (by
       rw[HR.out];refine yA ?_;have h:=HTK.out;rw[zK (by rw[<- HN1.out];omega),zK (by rw[<- HN2.out];omega)]at h;exact h)
      go_wp2;go_ret;exact⟨by rw[HT.out];rfl,HBQ.out⟩
 . obtain⟨e1,e2⟩:=not_both hnn;have HT:Hid (r=false):=zA (by
    rw[HR.out];refine decide_eq_false (fun h=>hnn ?_);rw[HN1.out,HN2.out,h])
   clear hnn;go_enter Tryz.func23,Tryz.ntmps23;go_wp2;go_ret;exact⟨by rw[HT.out];rfl,zF _ _⟩
set_option maxHeartbeats 4000000 in
theorem rSameRows_any{w:World}{v1 v2:Value}{L1 L2:List Rw}(h1:RowsM w v1 L1)(h2:RowsM w v2 L2)(hl1:L1.length<=1000000000):
 Calls Tryz.prog 16 #[v1,v2] w fun e w'=>e=.returned (.bool (decide (L1=L2)))/\Below w.heap.size w w':=by
 obtain⟨r1,hr1,m1⟩:=h1;obtain⟨r2,hr2,m2⟩:=h2;obtain⟨a1,c1,e1,_⟩:=hr1.cap;obtain⟨a2,c2,e2,_⟩:=hr2.cap;subst e1 e2;have H1:=zA hr1;have H2:=zA hr2;obtain⟨n1,hn1⟩:∃n,n=r1.length:=⟨_,rfl⟩
 obtain⟨n2,hn2⟩:∃n,n=r2.length:=⟨_,rfl⟩
 have HL1:Hid (n1=L1.length):=zA (by rw[hn1,<- m1,zH]);have HL2:Hid (n2=L2.length):=zA (by rw[hn2,<- m2,zH]);have hnb:n1<=1000000000:=by rw[HL1.out];exact hl1
 rw[<- hn1]at H1 ⊢;rw[<- hn2]at H2 ⊢;have HN1:=zA hn1;have HN2:=zA hn2;have HM1:=zA m1;have HM2:=zA m2;obtain⟨r,hr⟩:∃r,r=decide (L1=L2):=⟨_,rfl⟩
 rw[<- hr];have HR:=zA hr;clear hr1 hr2 hn1 hn2 hr m1 m2 hl1;by_cases hnn:(n1:Int)=(n2:Int)
 . obtain rfl:n1=n2:=by omega
   clear hnn;go_enter Tryz.func16,Tryz.ntmps16;go_wp2_with fail;go_loopw [5] (fun c wr=>∃i:Nat,i<=n1/\c=.int .i64 i/\L1.take i=L2.take i/\Below w.heap.size w wr) (fun c _=>n1-(intOf c).toNat)
   case atStart=>exact⟨0,zR _,rfl,rfl,zF _ _⟩
   case round=>
    obtain⟨i,hi,rfl,htk,hbq⟩:=hrel;have HBQ:=zA hbq;have HTK:=zA htk;clear hbq htk;by_cases hlt:i<n1
    . have hltI:(i:Int)<(n1:Int):=by omega
      obtain⟨⟨xv,x⟩,hx⟩:∃x,r1[i]?=some x:=⟨_,zB (by rw[<- HN1.out];exact hlt)⟩
      obtain⟨⟨yv,y⟩,hy⟩:∃y,r2[i]?=some y:=⟨_,zB (by rw[<- HN2.out];exact hlt)⟩
      have hxL:L1[i]?=some x:=by rw[<- HM1.out,zI,hx];rfl
      have hyL:L2[i]?=some y:=by rw[<- HM2.out,zI,hy];rfl
      have k1:=H1.out.rows _ (zC hx);have k2:=H2.out.rows _ (zC hy);obtain⟨g1,o1,e1,_,l1,hc1⟩:=H1.out.src.sl.get hx;obtain⟨g2,o2,e2,_,l2,hc2⟩:=H2.out.src.sl.get hy;subst e1 e2;have q1:=hc1 0 _ rfl;have q2:=hc2 0 _ rfl;rw[yF,yJ]at q1 q2;obtain⟨z,hz⟩:∃z,z=decide (x=y):=⟨_,rfl⟩
      have KC:Hid (∀u,Below w.heap.size w u->u.cell? ⟨g1,o1+i,none⟩=some xv/\u.cell? ⟨g2,o2+i,none⟩=some yv):=zA (fun u hu=>⟨(hu.cell (p:=⟨g1,o1+i,none⟩) l1).trans q1,(hu.cell (p:=⟨g2,o2+i,none⟩) l2).trans q2⟩);have C:Hid (∀u,Below w.heap.size w u->Calls Tryz.prog 23 #[xv,yv] u fun e w'=>e=.returned (.bool z)/\Below u.heap.size u w'):=zA (fun u hu=>by rw[hz];exact rSameW_any (k1.1.below hu) (k2.1.below hu) (by have:=k1.2;dsimp only at this ⊢;omega));have HXL:=zA (And.intro hxL hyL);have HZ:=zA hz;have HPA:Hid (Below w.heap.size w wr.drew):=zA HBQ.out.drew;clear hx hy hxL hyL k1 k2 hc1 hc2 q1 q2 hz;obtain⟨q1,q2⟩:=KC.out _ HBQ.out;cases z with
      |true=>
       have HT2:Hid (L1.take (i+1)=L2.take (i+1)):=zA (by rw[zU,zU,HXL.out.1,HXL.out.2,HTK.out,of_decide_eq_true HZ.out.symm]);go_wp2_with fail;go_region_held3 (fun u=>u.cell? ⟨g1,o1+i,none⟩=some xv/\u.cell? ⟨g2,o2+i,none⟩=some yv)
        (first|with_reducible exact KC.out _ HPA.out|with_reducible exact KC.out _ h4)
        (first|(go_at_call 23;with_reducible refine (C.out _ HPA.out).mono ?_;rintro e w4 ⟨rfl,hb4⟩;have h4:=HPA.out.trans (hb4.mono HPA.out.size)))
       all_goals (
        have HB9:=zA h4;clear h4 hb4;go_wp2;go_roundw
        case rel=>exact⟨i+1,by omega,by go_num,HT2.out,HB9.out⟩
        case measure=>simp[intOf];omega)
      |false=>
       have HT:Hid (r=false):=zA (by
        rw[HR.out];refine decide_eq_false (fun h=>of_decide_eq_false HZ.out.symm ?_);have:=HXL.out;rw[h]at this;rw[this.1]at this;injection this.2)
       go_wp2_with fail;go_region_held3 (fun u=>u.cell? ⟨g1,o1+i,none⟩=some xv/\u.cell? ⟨g2,o2+i,none⟩=some yv)
        (first|with_reducible exact KC.out _ HPA.out|with_reducible exact KC.out _ h4)
        (first|(go_at_call 23;with_reducible refine (C.out _ HPA.out).mono ?_;rintro e w4 ⟨rfl,hb4⟩;have h4:=HPA.out.trans (hb4.mono HPA.out.size)))
       all_goals (
        have HB9:=zA h4;clear h4 hb4;go_wp2;go_ret;exact⟨by rw[HT.out];rfl,HB9.out⟩)
    . have hltI:¬(i:Int)<(n1:Int):=by omega
      have HT:Hid (r=true):=zA (by
       rw[HR.out];refine yA ?_;have h:=HTK.out;rw[zK (by rw[<- HL1.out];omega),zK (by rw[<- HL2.out];omega)]at h;exact h)
      go_wp2;go_ret;exact⟨by rw[HT.out];rfl,HBQ.out⟩
 . obtain⟨e1,e2⟩:=not_both hnn;have HT:Hid (r=false):=zA (by
    rw[HR.out];refine decide_eq_false (fun h=>hnn ?_);rw[HL1.out,HL2.out,h])
   clear hnn;go_enter Tryz.func16,Tryz.ntmps16;go_wp2;go_ret;exact⟨by rw[HT.out];rfl,zF _ _⟩
end Go.Proofs.YtkbgmcmcpbegjabGreatDoor
