/- MEith. -/
import Derived.Test.YtkbgmcmcpbegjaaGreatDoorZR14
set_option maxRecDepth 100000
set_option maxHeartbeats 40000000
namespace Go.Proofs.YtkbgmcmcpbegjaaGreatDoor
open Go.RowKit Go.Shelf
def fillM(M:Mt)(i k:Nat):Mt:=fun i' k'=>(decide (i'<i)||(decide (i'=i)&&decide (k'<k)))&&M i' k'
theorem fill_start(M:Mt)(i k:Nat):jbQ i k=fillM M 0 0 i k:=by
 have h1:decide (i<0)=false:=decide_eq_false (by omega);have h2:decide (k<0)=false:=decide_eq_false (by omega);simp[fillM,jbQ]
theorem fill_step(M:Mt)(i k i' k':Nat):updM (fillM M i k) i k (M i k) i' k'=fillM M i (k+1) i' k':=by
 unfold updM fillM;by_cases h:i'=i/\k'=k
 . rw[if_pos h,h.1,h.2];have:decide (k<k+1)=true:=zU (by omega);simp
 . rw[if_neg h];by_cases e:i'=i
   . have hk:k'≠k:=fun e2=>h ⟨e,e2⟩
     have:decide (k'<k)=decide (k'<k+1):=by
      rw[decide_eq_decide];omega
     rw[this]
   . simp[e]
theorem fill_row{n:Nat}(M:Mt)(i i' k':Nat)(hk:k'<n):fillM M i n i' k'=fillM M (i+1) 0 i' k':=by
 unfold fillM;have h1:decide (k'<n)=true:=zU hk;have h2:decide (k'<0)=false:=decide_eq_false (by omega);have h3:decide (i'<i+1)=(decide (i'<i)||decide (i'=i)):=by
  rw[<- Bool.decide_or,decide_eq_decide];omega
 rw[h1,h2,h3];simp
theorem fill_end{n:Nat}(M:Mt)(i' k':Nat)(hi:i'<n):fillM M n 0 i' k'=M i' k':=by
 unfold fillM;have h1:decide (i'<n)=true:=zU hi;rw[h1];simp
theorem cellM_other{w:World}{b g o k:Nat}{v:Value}(h:b≠g):(w.setCell ⟨g,k,none⟩ v).drew.cell? ⟨b,o,none⟩=w.cell? ⟨b,o,none⟩:=by
 have:(w.setCell ⟨g,k,none⟩ v).heap[b]?=w.heap[b]?:=zM _ _ _ _ (fun e=>h (show b=g from e));exact World.cell?_of_block (w:=w) (w':=(w.setCell ⟨g,k,none⟩ v).drew) (a:=⟨b,o,none⟩) this
theorem MatO.bel_set{B:Nat}{w0 w:World}{v:Value}{n i k g:Nat}{m:Mt}{gs:List Nat}(h:MatO B w v n gs m)(hg:gs[i]?=some g)(hb:Below B w0 w)(b:Bool):Below B w0 (w.setCell ⟨g,k,none⟩ (.bool b)):=hb.setCell (p:=⟨g,k,none⟩) (h.lo g (zC hg)) _
theorem rEither_any{w:World}{va vb:Value}{n:Nat}{a b:Mt}(ha:IsM w va n a)(hb:IsM w vb n b)(hn:n<=100000):
 Calls Tryz.prog 67 #[va,vb] w fun e w'=>∃v,e=.returned v/\IsM w' v n (jaW a b)/\Below w.heap.size w w':=by
 obtain⟨M,hM⟩:=eX (jaW a b);rw[<- hM];have aK:=zA hM;obtain⟨ga,ai⟩:=ha;obtain⟨gb,aj⟩:=hb;obtain⟨aa,ac,ax⟩:=ai.sl.slice;obtain⟨ba,bc,ay⟩:=aj.sl.slice;rw[ai.len]at ax;rw[aj.len]at ay;subst ax ay;have HA:=zA ai;have aJ:=zA aj;clear ai aj hM;go_enter Tryz.func67,Tryz.ntmps67;go_wp2_with fail;refine(jcs n w hn).mono ?_;rintro e w1 ⟨v,rfl,⟨gs,al,hm⟩,aw⟩;obtain⟨ma,mc,hv⟩:=jab hm.row;rw[al]at hv;subst hv;have ah:=zA al;have aL:=zA (hm.congr (m':=fillM M 0 0) al (fun i k _ _=>fill_start M i k));have aN:=zA aw;clear al hm aw;go_wp2_with fail;go_loopw [6] (fun c wr=>∃i:Nat,i<=n/\c=.int .i64 i/\MatO w.heap.size wr (.slice ma n mc) n gs (fillM M i 0)/\Below w.heap.size w wr) (fun c _=>n-(intOf c).toNat)
 case atStart=>exact⟨0,zO _,rfl,aL.out,aN.out⟩
 case round=>
  obtain⟨i,hi,rfl,hm,aE⟩:=hrel;have HM:=zA hm;have az:=zA aE;clear hm aE;obtain⟨wx,aI⟩:=eX wr;subst aI;by_cases hlt:i<n
  . have an:(i:Int)<(n:Int):=by omega
    go_wp2_with fail;go_loopw [7] (fun c wr=>∃k:Nat,k<=n/\c=.int .i64 k/\MatO w.heap.size wr (.slice ma n mc) n gs (fillM M i k)/\Below w.heap.size w wr) (fun c _=>n-(intOf c).toNat)
    case atStart=>exact⟨0,zO _,rfl,HM.out,az.out⟩
    case round=>
     obtain⟨k,hk,rfl,hm,aC⟩:=hrel;obtain⟨wy,aH⟩:=eX wr;subst aH;have ad:=zA hm;have ae:=zA aC;clear hm aC;by_cases hlk:k<n
     . have ap:(k:Int)<(n:Int):=by omega
       obtain⟨mb,mo,mg,aD,am,_,m0,_,mr⟩:=(ad.out.read ah.out).at_ hlt;obtain⟨ab,ao,ag,aQ,_,aP,a0,aO,ar⟩:=HA.out.at_ hlt;obtain⟨bb,bo,bg,aG,_,aM,b0,aF,br⟩:=aJ.out.at_ hlt;have hmlo:w.heap.size<=mg:=ad.out.lo mg (zC am);have aq:mb≠mg:=fun e=>jdF ad.out.row (ad.out.ats i mg am) (by decide) (by rw[aD,e];rfl)
       subst aD aQ aG;obtain⟨m1,m2⟩:=mr k hlk;obtain⟨a1,_⟩:=ar k hlk;obtain⟨b1,_⟩:=br k hlk;obtain⟨x,hx⟩:=eX (a i k);obtain⟨y,hy⟩:=eX (b i k);rw[<- hx]at a1;rw[<- hy]at b1;have aB:Hid (M i k=(x||y)):=zA (by rw[aK.out,hx,hy];rfl);have ak:=zA am;have HS:Hid ((wy.cell? ⟨mb,mo+i,none⟩=some (.slice (some ⟨mg,0,none⟩) n n))/\(wy.cell? ⟨ab,ao+i,none⟩=some (.slice (some ⟨ag,0,none⟩) n n)/\wy.cell? ⟨ag,k,none⟩=some (.bool x))/\(wy.cell? ⟨bb,bo+i,none⟩=some (.slice (some ⟨bg,0,none⟩) n n)/\wy.cell? ⟨bg,k,none⟩=some (.bool y))):=zA ⟨m0,⟨(ae.out.cell (p:=⟨ab,ao+i,none⟩) aP).trans a0,(ae.out.cell (p:=⟨ag,k,none⟩) aO).trans a1⟩,⟨(ae.out.cell (p:=⟨bb,bo+i,none⟩) aM).trans b0,(ae.out.cell (p:=⟨bg,k,none⟩) aF).trans b1⟩⟩;have HN:Hid (∀v:Value,((wy.setCell ⟨mg,k,none⟩ v).drew.cell? ⟨mb,mo+i,none⟩=some (.slice (some ⟨mg,0,none⟩) n n))/\((wy.setCell ⟨mg,k,none⟩ v).drew.cell? ⟨ab,ao+i,none⟩=some (.slice (some ⟨ag,0,none⟩) n n)/\(wy.setCell ⟨mg,k,none⟩ v).drew.cell? ⟨ag,k,none⟩=some (.bool x))/\((wy.setCell ⟨mg,k,none⟩ v).drew.cell? ⟨bb,bo+i,none⟩=some (.slice (some ⟨bg,0,none⟩) n n)/\(wy.setCell ⟨mg,k,none⟩ v).drew.cell? ⟨bg,k,none⟩=some (.bool y))):=zA (fun v=>by
        obtain⟨s0,⟨s1,s2⟩,⟨s3,s4⟩⟩:=HS.out;exact⟨(cellM_other aq).trans s0,⟨(cellM_other (by omega)).trans s1,(cellM_other (by omega)).trans s2⟩,⟨(cellM_other (by omega)).trans s3,(cellM_other (by omega)).trans s4⟩⟩)
       clear mr ar br hx hy am m0 a0 b0 a1 b1;cases x with
       |true=>
        have af:Hid (MatO w.heap.size (wy.setCell ⟨mg,k,none⟩ (.bool true)).drew (.slice (some ⟨mb,mo,none⟩) n mc) n gs (fillM M i (k+1))):=zA (((ad.out.set ak.out true).below (zF _ _).drew).congr ah.out (fun i' k' _ _=>by
         rw[<- fill_step M i k i' k',aB.out];rfl))
        have au:Hid (Below w.heap.size w (wy.setCell ⟨mg,k,none⟩ (.bool true)).drew):=zA (ad.out.bel_set ak.out ae.out true).drew;go_wp2_with fail;refine wp_region_held_drew (S:=fun u=>(u.cell? ⟨mb,mo+i,none⟩=some (.slice (some ⟨mg,0,none⟩) n n))/\(u.cell? ⟨ab,ao+i,none⟩=some (.slice (some ⟨ag,0,none⟩) n n)/\u.cell? ⟨ag,k,none⟩=some (.bool true))/\(u.cell? ⟨bb,bo+i,none⟩=some (.slice (some ⟨bg,0,none⟩) n n)/\u.cell? ⟨bg,k,none⟩=some (.bool y))) (by kernel_rfl) ?_ (fun hHeld=>?_)
        . exact HS.out
        refine tkH (i:=0) (oi:=⟨some 23,.move (.tmp 5),78, "ref.go:62",#[],none⟩) (v:=?_) rfl ?_ hHeld ?_;rotate_left 1
        . rintro W ⟨s0,⟨s1,s2⟩,⟨s3,s4⟩⟩;go_simp;try with_reducible rfl
        simp only[Act.put,zIB,zSZ,zSS];refine tkH (i:=1) (oi:=⟨some 24,.move (.tmp 6),3, "ref.go:62",#[],none⟩) (v:=?_) rfl ?_ hHeld ?_;rotate_left 1
        . rintro W ⟨s0,⟨s1,s2⟩,⟨s3,s4⟩⟩;go_simp;try with_reducible rfl
        simp only[Act.put,zIB,zSZ,zSS];refine tkH (i:=2) (oi:=⟨some 25,.indexAddr 78 (.tmp 23) (.tmp 24),0, "ref.go:62",#[⟨0,.data⟩,⟨1,.data⟩],none⟩) (v:=?_) rfl ?_ hHeld ?_;rotate_left 1
        . rintro W ⟨s0,⟨s1,s2⟩,⟨s3,s4⟩⟩;go_simp;try with_reducible rfl
        simp only[Act.put,zIB,zSZ,zSS];refine tkH (i:=3) (oi:=⟨some 26,.load 80 (.tmp 25),80, "ref.go:62",#[⟨2,.data⟩],none⟩) (v:=?_) rfl ?_ hHeld ?_;rotate_left 1
        . rintro W ⟨s0,⟨s1,s2⟩,⟨s3,s4⟩⟩;go_simp;try with_reducible rfl
        simp only[Act.put,zIB,zSZ,zSS];refine tkH (i:=4) (oi:=⟨some 27,.move (.tmp 7),3, "ref.go:62",#[],none⟩) (v:=?_) rfl ?_ hHeld ?_;rotate_left 1
        . rintro W ⟨s0,⟨s1,s2⟩,⟨s3,s4⟩⟩;go_simp;try with_reducible rfl
        simp only[Act.put,zIB,zSZ,zSS];refine tkH (i:=5) (oi:=⟨some 28,.move (.tmp 0),78, "ref.go:62",#[],none⟩) (v:=?_) rfl ?_ hHeld ?_;rotate_left 1
        . rintro W ⟨s0,⟨s1,s2⟩,⟨s3,s4⟩⟩;go_simp;try with_reducible rfl
        simp only[Act.put,zIB,zSZ,zSS];refine tkH (i:=6) (oi:=⟨some 29,.move (.tmp 6),3, "ref.go:62",#[],none⟩) (v:=?_) rfl ?_ hHeld ?_;rotate_left 1
        . rintro W ⟨s0,⟨s1,s2⟩,⟨s3,s4⟩⟩;go_simp;try with_reducible rfl
        simp only[Act.put,zIB,zSZ,zSS];refine tkH (i:=7) (oi:=⟨some 30,.indexAddr 78 (.tmp 28) (.tmp 29),0, "ref.go:62",#[⟨5,.data⟩,⟨6,.data⟩],none⟩) (v:=?_) rfl ?_ hHeld ?_;rotate_left 1
        . rintro W ⟨s0,⟨s1,s2⟩,⟨s3,s4⟩⟩;go_simp;try with_reducible rfl
        simp only[Act.put,zIB,zSZ,zSS];refine tkH (i:=8) (oi:=⟨some 31,.load 80 (.tmp 30),80, "ref.go:62",#[⟨7,.data⟩],none⟩) (v:=?_) rfl ?_ hHeld ?_;rotate_left 1
        . rintro W ⟨s0,⟨s1,s2⟩,⟨s3,s4⟩⟩;go_simp;try with_reducible rfl
        simp only[Act.put,zIB,zSZ,zSS];refine tkH (i:=9) (oi:=⟨some 32,.move (.tmp 7),3, "ref.go:62",#[],none⟩) (v:=?_) rfl ?_ hHeld ?_;rotate_left 1
        . rintro W ⟨s0,⟨s1,s2⟩,⟨s3,s4⟩⟩;go_simp;try with_reducible rfl
        simp only[Act.put,zIB,zSZ,zSS];refine tkH (i:=10) (oi:=⟨some 33,.indexAddr 80 (.tmp 31) (.tmp 32),0, "ref.go:62",#[⟨8,.data⟩,⟨9,.data⟩],none⟩) (v:=?_) rfl ?_ hHeld ?_;rotate_left 1
        . rintro W ⟨s0,⟨s1,s2⟩,⟨s3,s4⟩⟩;go_simp;try with_reducible rfl
        simp only[Act.put,zIB,zSZ,zSS];refine tkH (i:=11) (oi:=⟨some 34,.load 4 (.tmp 33),4, "ref.go:62",#[⟨10,.data⟩],none⟩) (v:=?_) rfl ?_ hHeld ?_;rotate_left 1
        . rintro W ⟨s0,⟨s1,s2⟩,⟨s3,s4⟩⟩;go_simp;try with_reducible rfl
        simp only[Act.put,zIB,zSZ,zSS];refine tkH (i:=12) (oi:=⟨some 35,.move (.tmp 34),4, "ref.go:62",#[⟨11,.data⟩],none⟩) (v:=?_) rfl ?_ hHeld ?_;rotate_left 1
        . rintro W ⟨s0,⟨s1,s2⟩,⟨s3,s4⟩⟩;go_simp;try with_reducible rfl
        simp only[Act.put,zIB,zSZ,zSS];refine wpAnyH_take (i:=13) (oi:=⟨some 36,.move (.tmp 1),78, "ref.go:62",#[⟨12,.guard⟩],some (12,false)⟩) (v:=undef) rfl (by kernel_rfl) (by kernel_rfl) (by kernel_rfl) (fun _ _ _ h=>h) (Or.inr ⟨by rfl,rfl⟩) hHeld ?_;simp only[Act.put,zIB,zSZ,zSS];refine wpAnyH_take (i:=14) (oi:=⟨some 37,.move (.tmp 6),3, "ref.go:62",#[⟨12,.guard⟩],some (12,false)⟩) (v:=undef) rfl (by kernel_rfl) (by kernel_rfl) (by kernel_rfl) (fun _ _ _ h=>h) (Or.inr ⟨by rfl,rfl⟩) hHeld ?_;simp only[Act.put,zIB,zSZ,zSS];refine wpAnyH_take (i:=15) (oi:=⟨some 38,.indexAddr 78 (.tmp 36) (.tmp 37),0, "ref.go:62",#[⟨13,.data⟩,⟨14,.data⟩,⟨12,.guard⟩],some (12,false)⟩) (v:=undef) rfl (by kernel_rfl) (by kernel_rfl) (by kernel_rfl) (fun _ _ _ h=>h) (Or.inr ⟨by rfl,rfl⟩) hHeld ?_;simp only[Act.put,zIB,zSZ,zSS];refine wpAnyH_take (i:=16) (oi:=⟨some 39,.load 80 (.tmp 38),80, "ref.go:62",#[⟨15,.data⟩,⟨12,.guard⟩],some (12,false)⟩) (v:=undef) rfl (by kernel_rfl) (by kernel_rfl) (by kernel_rfl) (fun _ _ _ h=>h) (Or.inr ⟨by rfl,rfl⟩) hHeld ?_;simp only[Act.put,zIB,zSZ,zSS];refine wpAnyH_take (i:=17) (oi:=⟨some 40,.move (.tmp 7),3, "ref.go:62",#[⟨12,.guard⟩],some (12,false)⟩) (v:=undef) rfl (by kernel_rfl) (by kernel_rfl) (by kernel_rfl) (fun _ _ _ h=>h) (Or.inr ⟨by rfl,rfl⟩) hHeld ?_;simp only[Act.put,zIB,zSZ,zSS];refine wpAnyH_take (i:=18) (oi:=⟨some 41,.indexAddr 80 (.tmp 39) (.tmp 40),0, "ref.go:62",#[⟨16,.data⟩,⟨17,.data⟩,⟨12,.guard⟩],some (12,false)⟩) (v:=undef) rfl (by kernel_rfl) (by kernel_rfl) (by kernel_rfl) (fun _ _ _ h=>h) (Or.inr ⟨by rfl,rfl⟩) hHeld ?_;simp only[Act.put,zIB,zSZ,zSS];refine wpAnyH_take (i:=19) (oi:=⟨some 42,.load 4 (.tmp 41),4, "ref.go:62",#[⟨18,.data⟩,⟨12,.guard⟩],some (12,false)⟩) (v:=undef) rfl (by kernel_rfl) (by kernel_rfl) (by kernel_rfl) (fun _ _ _ h=>h) (Or.inr ⟨by rfl,rfl⟩) hHeld ?_;simp only[Act.put,zIB,zSZ,zSS];refine tkH (i:=20) (oi:=⟨some 43,.pick (.tmp 35) (.const (.bool true)) (.tmp 42),4, "ref.go:62",#[⟨12,.data⟩,⟨19,.data⟩],none⟩) (v:=?_) rfl ?_ hHeld ?_;rotate_left 1
        . rintro W ⟨s0,⟨s1,s2⟩,⟨s3,s4⟩⟩;go_simp;try with_reducible rfl
        simp only[Act.put,zIB,zSZ,zSS];refine tkH (i:=21) (oi:=⟨some 44,.indexAddr 80 (.tmp 26) (.tmp 27),0, "ref.go:62",#[⟨3,.data⟩,⟨4,.data⟩,⟨0,.phase⟩,⟨1,.phase⟩,⟨2,.phase⟩,⟨3,.phase⟩,⟨4,.phase⟩,⟨5,.phase⟩,⟨6,.phase⟩,⟨7,.phase⟩,⟨8,.phase⟩,⟨9,.phase⟩,⟨10,.phase⟩,⟨11,.phase⟩,⟨12,.phase⟩,⟨13,.phase⟩,⟨14,.phase⟩,⟨15,.phase⟩,⟨16,.phase⟩,⟨17,.phase⟩,⟨18,.phase⟩,⟨19,.phase⟩,⟨20,.phase⟩],none⟩) (v:=?_) rfl ?_ hHeld ?_;rotate_left 1
        . rintro W ⟨s0,⟨s1,s2⟩,⟨s3,s4⟩⟩;go_simp;try with_reducible rfl
        simp only[Act.put,zIB,zSZ,zSS];refine rdH (k:=22) (o:=⟨none,.store 4 (.tmp 44) (.tmp 43),0, "ref.go:62",#[⟨21,.data⟩,⟨20,.data⟩,⟨12,.chain⟩,⟨0,.phase⟩,⟨1,.phase⟩,⟨2,.phase⟩,⟨3,.phase⟩,⟨4,.phase⟩,⟨5,.phase⟩,⟨6,.phase⟩,⟨7,.phase⟩,⟨8,.phase⟩,⟨9,.phase⟩,⟨10,.phase⟩,⟨11,.phase⟩,⟨12,.phase⟩,⟨13,.phase⟩,⟨14,.phase⟩,⟨15,.phase⟩,⟨16,.phase⟩,⟨17,.phase⟩,⟨18,.phase⟩,⟨19,.phase⟩,⟨20,.phase⟩],none⟩) rfl (fun K hK=>?_);go_simp;refine hK.out _ _ (HN.out _) (fun hHeld=>?_);clear hK K;refine wpAnyH_done (by kernel_rfl) ?_ _;go_wp2;go_roundw
        case rel=>exact⟨k+1,by omega,by go_num,af.out,au.out⟩
        case measure=>simp[intOf];omega
       |false=>
        have af:Hid (MatO w.heap.size (wy.setCell ⟨mg,k,none⟩ (.bool y)).drew (.slice (some ⟨mb,mo,none⟩) n mc) n gs (fillM M i (k+1))):=zA (((ad.out.set ak.out y).below (zF _ _).drew).congr ah.out (fun i' k' _ _=>by
         rw[<- fill_step M i k i' k',aB.out];rfl))
        have au:Hid (Below w.heap.size w (wy.setCell ⟨mg,k,none⟩ (.bool y)).drew):=zA (ad.out.bel_set ak.out ae.out y).drew;go_wp2_with fail;refine wp_region_held_drew (S:=fun u=>(u.cell? ⟨mb,mo+i,none⟩=some (.slice (some ⟨mg,0,none⟩) n n))/\(u.cell? ⟨ab,ao+i,none⟩=some (.slice (some ⟨ag,0,none⟩) n n)/\u.cell? ⟨ag,k,none⟩=some (.bool false))/\(u.cell? ⟨bb,bo+i,none⟩=some (.slice (some ⟨bg,0,none⟩) n n)/\u.cell? ⟨bg,k,none⟩=some (.bool y))) (by kernel_rfl) ?_ (fun hHeld=>?_)
        . exact HS.out
        refine tkH (i:=0) (oi:=⟨some 23,.move (.tmp 5),78, "ref.go:62",#[],none⟩) (v:=?_) rfl ?_ hHeld ?_;rotate_left 1
        . rintro W ⟨s0,⟨s1,s2⟩,⟨s3,s4⟩⟩;go_simp;try with_reducible rfl
        simp only[Act.put,zIB,zSZ,zSS];refine tkH (i:=1) (oi:=⟨some 24,.move (.tmp 6),3, "ref.go:62",#[],none⟩) (v:=?_) rfl ?_ hHeld ?_;rotate_left 1
        . rintro W ⟨s0,⟨s1,s2⟩,⟨s3,s4⟩⟩;go_simp;try with_reducible rfl
        simp only[Act.put,zIB,zSZ,zSS];refine tkH (i:=2) (oi:=⟨some 25,.indexAddr 78 (.tmp 23) (.tmp 24),0, "ref.go:62",#[⟨0,.data⟩,⟨1,.data⟩],none⟩) (v:=?_) rfl ?_ hHeld ?_;rotate_left 1
        . rintro W ⟨s0,⟨s1,s2⟩,⟨s3,s4⟩⟩;go_simp;try with_reducible rfl
        simp only[Act.put,zIB,zSZ,zSS];refine tkH (i:=3) (oi:=⟨some 26,.load 80 (.tmp 25),80, "ref.go:62",#[⟨2,.data⟩],none⟩) (v:=?_) rfl ?_ hHeld ?_;rotate_left 1
        . rintro W ⟨s0,⟨s1,s2⟩,⟨s3,s4⟩⟩;go_simp;try with_reducible rfl
        simp only[Act.put,zIB,zSZ,zSS];refine tkH (i:=4) (oi:=⟨some 27,.move (.tmp 7),3, "ref.go:62",#[],none⟩) (v:=?_) rfl ?_ hHeld ?_;rotate_left 1
        . rintro W ⟨s0,⟨s1,s2⟩,⟨s3,s4⟩⟩;go_simp;try with_reducible rfl
        simp only[Act.put,zIB,zSZ,zSS];refine tkH (i:=5) (oi:=⟨some 28,.move (.tmp 0),78, "ref.go:62",#[],none⟩) (v:=?_) rfl ?_ hHeld ?_;rotate_left 1
        . rintro W ⟨s0,⟨s1,s2⟩,⟨s3,s4⟩⟩;go_simp;try with_reducible rfl
        simp only[Act.put,zIB,zSZ,zSS];refine tkH (i:=6) (oi:=⟨some 29,.move (.tmp 6),3, "ref.go:62",#[],none⟩) (v:=?_) rfl ?_ hHeld ?_;rotate_left 1
        . rintro W ⟨s0,⟨s1,s2⟩,⟨s3,s4⟩⟩;go_simp;try with_reducible rfl
        simp only[Act.put,zIB,zSZ,zSS];refine tkH (i:=7) (oi:=⟨some 30,.indexAddr 78 (.tmp 28) (.tmp 29),0, "ref.go:62",#[⟨5,.data⟩,⟨6,.data⟩],none⟩) (v:=?_) rfl ?_ hHeld ?_;rotate_left 1
        . rintro W ⟨s0,⟨s1,s2⟩,⟨s3,s4⟩⟩;go_simp;try with_reducible rfl
        simp only[Act.put,zIB,zSZ,zSS];refine tkH (i:=8) (oi:=⟨some 31,.load 80 (.tmp 30),80, "ref.go:62",#[⟨7,.data⟩],none⟩) (v:=?_) rfl ?_ hHeld ?_;rotate_left 1
        . rintro W ⟨s0,⟨s1,s2⟩,⟨s3,s4⟩⟩;go_simp;try with_reducible rfl
        simp only[Act.put,zIB,zSZ,zSS];refine tkH (i:=9) (oi:=⟨some 32,.move (.tmp 7),3, "ref.go:62",#[],none⟩) (v:=?_) rfl ?_ hHeld ?_;rotate_left 1
        . rintro W ⟨s0,⟨s1,s2⟩,⟨s3,s4⟩⟩;go_simp;try with_reducible rfl
        simp only[Act.put,zIB,zSZ,zSS];refine tkH (i:=10) (oi:=⟨some 33,.indexAddr 80 (.tmp 31) (.tmp 32),0, "ref.go:62",#[⟨8,.data⟩,⟨9,.data⟩],none⟩) (v:=?_) rfl ?_ hHeld ?_;rotate_left 1
        . rintro W ⟨s0,⟨s1,s2⟩,⟨s3,s4⟩⟩;go_simp;try with_reducible rfl
        simp only[Act.put,zIB,zSZ,zSS];refine tkH (i:=11) (oi:=⟨some 34,.load 4 (.tmp 33),4, "ref.go:62",#[⟨10,.data⟩],none⟩) (v:=?_) rfl ?_ hHeld ?_;rotate_left 1
        . rintro W ⟨s0,⟨s1,s2⟩,⟨s3,s4⟩⟩;go_simp;try with_reducible rfl
        simp only[Act.put,zIB,zSZ,zSS];refine tkH (i:=12) (oi:=⟨some 35,.move (.tmp 34),4, "ref.go:62",#[⟨11,.data⟩],none⟩) (v:=?_) rfl ?_ hHeld ?_;rotate_left 1
        . rintro W ⟨s0,⟨s1,s2⟩,⟨s3,s4⟩⟩;go_simp;try with_reducible rfl
        simp only[Act.put,zIB,zSZ,zSS];refine tkH (i:=13) (oi:=⟨some 36,.move (.tmp 1),78, "ref.go:62",#[⟨12,.guard⟩],some (12,false)⟩) (v:=?_) rfl ?_ hHeld ?_;rotate_left 1
        . rintro W ⟨s0,⟨s1,s2⟩,⟨s3,s4⟩⟩;go_simp;try with_reducible rfl
        simp only[Act.put,zIB,zSZ,zSS];refine tkH (i:=14) (oi:=⟨some 37,.move (.tmp 6),3, "ref.go:62",#[⟨12,.guard⟩],some (12,false)⟩) (v:=?_) rfl ?_ hHeld ?_;rotate_left 1
        . rintro W ⟨s0,⟨s1,s2⟩,⟨s3,s4⟩⟩;go_simp;try with_reducible rfl
        simp only[Act.put,zIB,zSZ,zSS];refine tkH (i:=15) (oi:=⟨some 38,.indexAddr 78 (.tmp 36) (.tmp 37),0, "ref.go:62",#[⟨13,.data⟩,⟨14,.data⟩,⟨12,.guard⟩],some (12,false)⟩) (v:=?_) rfl ?_ hHeld ?_;rotate_left 1
        . rintro W ⟨s0,⟨s1,s2⟩,⟨s3,s4⟩⟩;go_simp;try with_reducible rfl
        simp only[Act.put,zIB,zSZ,zSS];refine tkH (i:=16) (oi:=⟨some 39,.load 80 (.tmp 38),80, "ref.go:62",#[⟨15,.data⟩,⟨12,.guard⟩],some (12,false)⟩) (v:=?_) rfl ?_ hHeld ?_;rotate_left 1
        . rintro W ⟨s0,⟨s1,s2⟩,⟨s3,s4⟩⟩;go_simp;try with_reducible rfl
        simp only[Act.put,zIB,zSZ,zSS];refine tkH (i:=17) (oi:=⟨some 40,.move (.tmp 7),3, "ref.go:62",#[⟨12,.guard⟩],some (12,false)⟩) (v:=?_) rfl ?_ hHeld ?_;rotate_left 1
        . rintro W ⟨s0,⟨s1,s2⟩,⟨s3,s4⟩⟩;go_simp;try with_reducible rfl
        simp only[Act.put,zIB,zSZ,zSS];refine tkH (i:=18) (oi:=⟨some 41,.indexAddr 80 (.tmp 39) (.tmp 40),0, "ref.go:62",#[⟨16,.data⟩,⟨17,.data⟩,⟨12,.guard⟩],some (12,false)⟩) (v:=?_) rfl ?_ hHeld ?_;rotate_left 1
        . rintro W ⟨s0,⟨s1,s2⟩,⟨s3,s4⟩⟩;go_simp;try with_reducible rfl
        simp only[Act.put,zIB,zSZ,zSS];refine tkH (i:=19) (oi:=⟨some 42,.load 4 (.tmp 41),4, "ref.go:62",#[⟨18,.data⟩,⟨12,.guard⟩],some (12,false)⟩) (v:=?_) rfl ?_ hHeld ?_;rotate_left 1
        . rintro W ⟨s0,⟨s1,s2⟩,⟨s3,s4⟩⟩;go_simp;try with_reducible rfl
        simp only[Act.put,zIB,zSZ,zSS];refine tkH (i:=20) (oi:=⟨some 43,.pick (.tmp 35) (.const (.bool true)) (.tmp 42),4, "ref.go:62",#[⟨12,.data⟩,⟨19,.data⟩],none⟩) (v:=?_) rfl ?_ hHeld ?_;rotate_left 1
        . rintro W ⟨s0,⟨s1,s2⟩,⟨s3,s4⟩⟩;go_simp;try with_reducible rfl
        simp only[Act.put,zIB,zSZ,zSS];refine tkH (i:=21) (oi:=⟨some 44,.indexAddr 80 (.tmp 26) (.tmp 27),0, "ref.go:62",#[⟨3,.data⟩,⟨4,.data⟩,⟨0,.phase⟩,⟨1,.phase⟩,⟨2,.phase⟩,⟨3,.phase⟩,⟨4,.phase⟩,⟨5,.phase⟩,⟨6,.phase⟩,⟨7,.phase⟩,⟨8,.phase⟩,⟨9,.phase⟩,⟨10,.phase⟩,⟨11,.phase⟩,⟨12,.phase⟩,⟨13,.phase⟩,⟨14,.phase⟩,⟨15,.phase⟩,⟨16,.phase⟩,⟨17,.phase⟩,⟨18,.phase⟩,⟨19,.phase⟩,⟨20,.phase⟩],none⟩) (v:=?_) rfl ?_ hHeld ?_;rotate_left 1
        . rintro W ⟨s0,⟨s1,s2⟩,⟨s3,s4⟩⟩;go_simp;try with_reducible rfl
        simp only[Act.put,zIB,zSZ,zSS];refine rdH (k:=22) (o:=⟨none,.store 4 (.tmp 44) (.tmp 43),0, "ref.go:62",#[⟨21,.data⟩,⟨20,.data⟩,⟨12,.chain⟩,⟨0,.phase⟩,⟨1,.phase⟩,⟨2,.phase⟩,⟨3,.phase⟩,⟨4,.phase⟩,⟨5,.phase⟩,⟨6,.phase⟩,⟨7,.phase⟩,⟨8,.phase⟩,⟨9,.phase⟩,⟨10,.phase⟩,⟨11,.phase⟩,⟨12,.phase⟩,⟨13,.phase⟩,⟨14,.phase⟩,⟨15,.phase⟩,⟨16,.phase⟩,⟨17,.phase⟩,⟨18,.phase⟩,⟨19,.phase⟩,⟨20,.phase⟩],none⟩) rfl (fun K hK=>?_);go_simp;refine hK.out _ _ (HN.out _) (fun hHeld=>?_);clear hK K;refine wpAnyH_done (by kernel_rfl) ?_ _;go_wp2;go_roundw
        case rel=>exact⟨k+1,by omega,by go_num,af.out,au.out⟩
        case measure=>simp[intOf];omega
     . have ap:¬(k:Int)<(n:Int):=by omega
       have av:k=n:=by omega
       have af:Hid (MatO w.heap.size wy (.slice ma n mc) n gs (fillM M (i+1) 0)):=zA (ad.out.congr ah.out (fun i' k' _ hk'=>by rw[av];exact fill_row M i i' k' hk'));clear av;go_wp2;go_roundw
       case rel=>exact⟨i+1,by omega,by go_num,af.out,ae.out⟩
       case measure=>simp[intOf];omega
  . have an:¬(i:Int)<(n:Int):=by omega
    have aA:i=n:=by omega
    have af:Hid (IsM wx (.slice ma n mc) n M):=zA ⟨gs,(HM.out.congr ah.out (fun i' k' hi' _=>by rw[aA];exact fill_end M i' k' hi')).read ah.out⟩;clear aA;go_wp2;go_ret;exact⟨_,rfl,af.out,az.out⟩
def anyTo(k:Nat)(f:Nat->Bool):Bool:=(List.range k).any f
theorem any_succ(k:Nat)(f:Nat->Bool):anyTo (k+1) f=(anyTo k f||f k):=by
 unfold anyTo;rw[List.range_succ,List.any_append];simp
def bhM(n:Nat)(a b:Mt)(i k j:Nat):Mt:=fun i' j'=>if i'<i then jaP n a b i' j' else if i'=i then (anyTo k (fun z=>a i z&&b z j')||(decide (j'<j)&&(a i k&&b k j')))else false
theorem bh_start(n:Nat)(a b:Mt)(i k:Nat):jbQ i k=bhM n a b 0 0 0 i k:=by
 unfold bhM;rw[if_neg (by omega)];split<;>simp[jbQ,anyTo]
theorem bh_here(n:Nat)(a b:Mt)(i k j:Nat):bhM n a b i k j i j=anyTo k (fun z=>a i z&&b z j):=by
 unfold bhM;rw[if_neg (by omega),if_pos rfl];simp
theorem bh_step{n:Nat}{a b:Mt}{i k j:Nat}(h:a i k=true)(i' j':Nat):updM (bhM n a b i k j) i j (bhM n a b i k j i j||b k j) i' j'=bhM n a b i k (j+1) i' j':=by
 unfold updM;by_cases e:i'=i/\j'=j
 . rw[if_pos e,e.1,e.2,bh_here];unfold bhM;rw[if_neg (by omega),if_pos rfl,h];simp
 . rw[if_neg e];unfold bhM;by_cases e2:i'=i
   . have hj:j'≠j:=fun x=>e ⟨e2,x⟩
     have:decide (j'<j)=decide (j'<j+1):=by rw[decide_eq_decide];omega
     rw[this]
   . simp[e2]
theorem bh_next{n:Nat}{a b:Mt}{i k:Nat}(i' j':Nat)(hj:j'<n):bhM n a b i k n i' j'=bhM n a b i (k+1) 0 i' j':=by
 unfold bhM;split
 . rfl
 . split
   . rw[any_succ,zU hj];simp
   . rfl
theorem bh_skip{n:Nat}{a b:Mt}{i k:Nat}(h:a i k=false)(j i' j':Nat):bhM n a b i k j i' j'=bhM n a b i (k+1) 0 i' j':=by
 unfold bhM;split
 . rfl
 . split
   . rw[any_succ,h];simp
   . rfl
theorem bh_row{n:Nat}{a b:Mt}{i:Nat}(i' j':Nat):bhM n a b i n 0 i' j'=bhM n a b (i+1) 0 0 i' j':=by
 unfold bhM;by_cases h1:i'<i
 . rw[if_pos h1,if_pos (by omega)]
 . rw[if_neg h1];by_cases h2:i'=i
   . subst h2;rw[if_pos rfl,if_pos (by omega)];simp[anyTo,jaP]
   . rw[if_neg h2,if_neg (by omega)];split<;>simp[anyTo]
theorem bh_end{n:Nat}{a b:Mt}(i' j':Nat)(hi:i'<n):bhM n a b n 0 0 i' j'=jaP n a b i' j':=by
 unfold bhM;rw[if_pos hi]
theorem rBehind_any{w:World}{va vb:Value}{n:Nat}{a b:Mt}(ha:IsM w va n a)(hb:IsM w vb n b)(hn:n<=100000):
 Calls Tryz.prog 66 #[va,vb] w fun e w'=>∃v,e=.returned v/\IsM w' v n (jaP n a b)/\Below w.heap.size w w':=by
 obtain⟨M,hM⟩:=eX (bhM n a b);have aP:Hid (∀i k,jbQ i k=M 0 0 0 i k):=zA (fun i k=>by rw[hM];exact bh_start n a b i k);have aS:Hid (∀i k j,a i k=true->∀i' j',updM (M i k j) i j (M i k j i j||b k j) i' j'=M i k (j+1) i' j'):=zA (fun i k j h i' j'=>by rw[hM];exact bh_step h i' j');have aW:Hid (∀i k i' j',j'<n->M i k n i' j'=M i (k+1) 0 i' j'):=zA (fun i k i' j' h=>by rw[hM];exact bh_next i' j' h);have a3:Hid (∀i k j,a i k=false->∀i' j',M i k j i' j'=M i (k+1) 0 i' j'):=zA (fun i k j h i' j'=>by rw[hM];exact bh_skip h j i' j');have aU:Hid (∀i i' j',M i n 0 i' j'=M (i+1) 0 0 i' j'):=zA (fun i i' j'=>by rw[hM];exact bh_row i' j');have aH:Hid (∀i' j',i'<n->M n 0 0 i' j'=jaP n a b i' j'):=zA (fun i' j' h=>by rw[hM];exact bh_end i' j' h);clear hM;obtain⟨RM,aA⟩:=eX (jaP n a b);rw[<- aA]at aH ⊢;obtain⟨ga,aj⟩:=ha;obtain⟨gb,ak⟩:=hb;obtain⟨aa,ac,aB⟩:=aj.sl.slice;obtain⟨ba,bc,aD⟩:=ak.sl.slice;rw[aj.len]at aB;rw[ak.len]at aD;subst aB aD;have HA:=zA aj;have aT:=zA ak;clear aj ak aA;go_enter Tryz.func66,Tryz.ntmps66;go_wp2_with fail;refine(jcs n w hn).mono ?_;rintro e w1 ⟨v,rfl,⟨gs,an,hm⟩,az⟩;obtain⟨ma,mc,hv⟩:=jab hm.row;rw[an]at hv;subst hv;have af:=zA an;have aX:=zA (hm.congr (m':=M 0 0 0) an (fun i k _ _=>aP.out i k));have aZ:=zA az;clear an hm az;go_wp2_with fail;go_loopw [6] (fun c wr=>∃i:Nat,i<=n/\c=.int .i64 i/\MatO w.heap.size wr (.slice ma n mc) n gs (M i 0 0)/\Below w.heap.size w wr) (fun c _=>n-(intOf c).toNat)
 case atStart=>exact⟨0,zO _,rfl,aX.out,aZ.out⟩
 case round=>
  obtain⟨i,hi,rfl,hm,aL⟩:=hrel;have HM:=zA hm;have aF:=zA aL;clear hm aL;obtain⟨wx,aR⟩:=eX wr;subst aR;by_cases hlt:i<n
  . have aq:(i:Int)<(n:Int):=by omega
    go_wp2_with fail;go_loopw [7] (fun c wr=>∃k:Nat,k<=n/\c=.int .i64 k/\MatO w.heap.size wr (.slice ma n mc) n gs (M i k 0)/\Below w.heap.size w wr) (fun c _=>n-(intOf c).toNat)
    case atStart=>exact⟨0,zO _,rfl,HM.out,aF.out⟩
    case round=>
     obtain⟨k,hk,rfl,hm,aJ⟩:=hrel;obtain⟨wy,aQ⟩:=eX wr;subst aQ;have av:=zA hm;have am:=zA aJ;clear hm aJ;by_cases hlk:k<n
     . have au:(k:Int)<(n:Int):=by omega
       obtain⟨x,hx⟩:=eX (a i k);have aI:=zA hx;obtain⟨ab,ao,ag,a5,_,a4,a0,a2,ar⟩:=HA.out.at_ hlt;subst a5;obtain⟨a1,_⟩:=ar k hlk;rw[<- hx]at a1;have KA:Hid (∀u,Below w.heap.size w u->u.cell? ⟨ab,ao+i,none⟩=some (.slice (some ⟨ag,0,none⟩) n n)/\u.cell? ⟨ag,k,none⟩=some (.bool x)):=zA (fun u hu=>⟨(hu.cell (p:=⟨ab,ao+i,none⟩) a4).trans a0,(hu.cell (p:=⟨ag,k,none⟩) a2).trans a1⟩);clear a0 a1 ar hx;cases x with
       |false=>
        have ad:Hid (MatO w.heap.size wy (.slice ma n mc) n gs (M i (k+1) 0)):=zA (av.out.congr af.out (fun i' k' _ _=>a3.out i k 0 aI.out.symm i' k'));go_wp2_with fail;go_loopw [8] (fun c wr=>c=.int .i64 0/\wr=wy) (fun _ _=>0)
        case atStart=>exact⟨rfl,rfl⟩
        case round=>
         obtain⟨rfl,aN⟩:=hrel;subst aN;have h0:(0:Int)<(n:Int):=by omega
         obtain⟨s0,s1⟩:=KA.out _ am.out;go_wp2;go_roundw
         case rel=>exact⟨k+1,by omega,by go_num,ad.out,am.out⟩
         case measure=>simp[intOf];omega
       |true=>
        go_wp2_with fail;go_loopw [8] (fun c wr=>∃j:Nat,j<=n/\c=.int .i64 j/\MatO w.heap.size wr (.slice ma n mc) n gs (M i k j)/\Below w.heap.size w wr) (fun c _=>n-(intOf c).toNat)
        case atStart=>exact⟨0,zO _,rfl,av.out,am.out⟩
        case round=>
         obtain⟨j,hj,rfl,hm,aE⟩:=hrel;obtain⟨wz,aV⟩:=eX wr;subst aV;have ae:=zA hm;have ah:=zA aE;clear hm aE;obtain⟨s0,s1⟩:=KA.out _ ah.out;by_cases hlj:j<n
         . have ai:(j:Int)<(n:Int):=by omega
           obtain⟨mb,mo,mg,aK,ap,_,m0,_,mr⟩:=(ae.out.read af.out).at_ hlt;obtain⟨bb,bo,bg,aO,_,aY,b0,aM,br⟩:=aT.out.at_ hlk;have hmlo:w.heap.size<=mg:=ae.out.lo mg (zC ap);have aw:mb≠mg:=fun e=>jdF ae.out.row (ae.out.ats i mg ap) (by decide) (by rw[aK,e];rfl)
           subst aK aO;obtain⟨m1,m2⟩:=mr j hlj;obtain⟨b1,_⟩:=br j hlj;obtain⟨z,hz⟩:=eX (M i k j i j);obtain⟨y,hy⟩:=eX (b k j);rw[<- hz]at m1;rw[<- hy]at b1;have al:=zA ap;have HZ:Hid (∀i' j',updM (M i k j) i j (z||y) i' j'=M i k (j+1) i' j'):=zA (fun i' j'=>by rw[hz,hy];exact aS.out i k j aI.out.symm i' j');have HS:Hid ((wz.cell? ⟨mb,mo+i,none⟩=some (.slice (some ⟨mg,0,none⟩) n n))/\(wz.cell? ⟨bb,bo+k,none⟩=some (.slice (some ⟨bg,0,none⟩) n n)/\wz.cell? ⟨bg,j,none⟩=some (.bool y))):=zA ⟨m0,(ah.out.cell (p:=⟨bb,bo+k,none⟩) aY).trans b0,(ah.out.cell (p:=⟨bg,j,none⟩) aM).trans b1⟩;have HN:Hid (∀v:Value,((wz.setCell ⟨mg,j,none⟩ v).drew.cell? ⟨mb,mo+i,none⟩=some (.slice (some ⟨mg,0,none⟩) n n))/\((wz.setCell ⟨mg,j,none⟩ v).drew.cell? ⟨bb,bo+k,none⟩=some (.slice (some ⟨bg,0,none⟩) n n)/\(wz.setCell ⟨mg,j,none⟩ v).drew.cell? ⟨bg,j,none⟩=some (.bool y))):=zA (fun v=>by
            obtain⟨s0,s1,s2⟩:=HS.out;exact⟨(cellM_other aw).trans s0,(cellM_other (by omega)).trans s1,(cellM_other (by omega)).trans s2⟩)
           clear mr br hy hz ap m0 b0 b1;cases z with
           |true=>
            have ad:Hid (MatO w.heap.size (wz.setCell ⟨mg,j,none⟩ (.bool true)).drew (.slice (some ⟨mb,mo,none⟩) n mc) n gs (M i k (j+1))):=zA (((ae.out.set al.out true).below (zF _ _).drew).congr af.out (fun i' k' _ _=>HZ.out i' k'));have ax:Hid (Below w.heap.size w (wz.setCell ⟨mg,j,none⟩ (.bool true)).drew):=zA (ae.out.bel_set al.out ah.out true).drew;go_wp2_with fail;refine wp_region_held_drew (S:=fun u=>(u.cell? ⟨mb,mo+i,none⟩=some (.slice (some ⟨mg,0,none⟩) n n))/\(u.cell? ⟨bb,bo+k,none⟩=some (.slice (some ⟨bg,0,none⟩) n n)/\u.cell? ⟨bg,j,none⟩=some (.bool y))) (by kernel_rfl) ?_ (fun hHeld=>?_)
            . exact HS.out
            refine tkH (i:=0) (oi:=⟨some 39,.move (.tmp 5),78, "ref.go:74",#[],none⟩) (v:=?_) rfl ?_ hHeld ?_;rotate_left 1
            . rintro W ⟨s0,s1,s2⟩;go_simp;try with_reducible rfl
            simp only[Act.put,zIB,zSZ,zSS];refine tkH (i:=1) (oi:=⟨some 40,.move (.tmp 6),3, "ref.go:74",#[],none⟩) (v:=?_) rfl ?_ hHeld ?_;rotate_left 1
            . rintro W ⟨s0,s1,s2⟩;go_simp;try with_reducible rfl
            simp only[Act.put,zIB,zSZ,zSS];refine tkH (i:=2) (oi:=⟨some 41,.indexAddr 78 (.tmp 39) (.tmp 40),0, "ref.go:74",#[⟨0,.data⟩,⟨1,.data⟩],none⟩) (v:=?_) rfl ?_ hHeld ?_;rotate_left 1
            . rintro W ⟨s0,s1,s2⟩;go_simp;try with_reducible rfl
            simp only[Act.put,zIB,zSZ,zSS];refine tkH (i:=3) (oi:=⟨some 42,.load 80 (.tmp 41),80, "ref.go:74",#[⟨2,.data⟩],none⟩) (v:=?_) rfl ?_ hHeld ?_;rotate_left 1
            . rintro W ⟨s0,s1,s2⟩;go_simp;try with_reducible rfl
            simp only[Act.put,zIB,zSZ,zSS];refine tkH (i:=4) (oi:=⟨some 43,.move (.tmp 8),3, "ref.go:74",#[],none⟩) (v:=?_) rfl ?_ hHeld ?_;rotate_left 1
            . rintro W ⟨s0,s1,s2⟩;go_simp;try with_reducible rfl
            simp only[Act.put,zIB,zSZ,zSS];refine tkH (i:=5) (oi:=⟨some 44,.move (.tmp 5),78, "ref.go:74",#[],none⟩) (v:=?_) rfl ?_ hHeld ?_;rotate_left 1
            . rintro W ⟨s0,s1,s2⟩;go_simp;try with_reducible rfl
            simp only[Act.put,zIB,zSZ,zSS];refine tkH (i:=6) (oi:=⟨some 45,.move (.tmp 6),3, "ref.go:74",#[],none⟩) (v:=?_) rfl ?_ hHeld ?_;rotate_left 1
            . rintro W ⟨s0,s1,s2⟩;go_simp;try with_reducible rfl
            simp only[Act.put,zIB,zSZ,zSS];refine tkH (i:=7) (oi:=⟨some 46,.indexAddr 78 (.tmp 44) (.tmp 45),0, "ref.go:74",#[⟨5,.data⟩,⟨6,.data⟩],none⟩) (v:=?_) rfl ?_ hHeld ?_;rotate_left 1
            . rintro W ⟨s0,s1,s2⟩;go_simp;try with_reducible rfl
            simp only[Act.put,zIB,zSZ,zSS];refine tkH (i:=8) (oi:=⟨some 47,.load 80 (.tmp 46),80, "ref.go:74",#[⟨7,.data⟩],none⟩) (v:=?_) rfl ?_ hHeld ?_;rotate_left 1
            . rintro W ⟨s0,s1,s2⟩;go_simp;try with_reducible rfl
            simp only[Act.put,zIB,zSZ,zSS];refine tkH (i:=9) (oi:=⟨some 48,.move (.tmp 8),3, "ref.go:74",#[],none⟩) (v:=?_) rfl ?_ hHeld ?_;rotate_left 1
            . rintro W ⟨s0,s1,s2⟩;go_simp;try with_reducible rfl
            simp only[Act.put,zIB,zSZ,zSS];refine tkH (i:=10) (oi:=⟨some 49,.indexAddr 80 (.tmp 47) (.tmp 48),0, "ref.go:74",#[⟨8,.data⟩,⟨9,.data⟩],none⟩) (v:=?_) rfl ?_ hHeld ?_;rotate_left 1
            . rintro W ⟨s0,s1,s2⟩;go_simp;try with_reducible rfl
            simp only[Act.put,zIB,zSZ,zSS];refine rdH (k:=11) (o:=⟨some 50,.load 4 (.tmp 49),4, "ref.go:74",#[⟨10,.data⟩],none⟩) rfl (fun K hK=>?_);go_simp;refine hK.out _ _ HS.out (fun hHeld=>?_);clear hK K;refine tkH (i:=12) (oi:=⟨some 51,.move (.tmp 50),4, "ref.go:74",#[⟨11,.data⟩],none⟩) (v:=?_) rfl ?_ hHeld ?_;rotate_left 1
            . rintro W ⟨s0,s1,s2⟩;go_simp;try with_reducible rfl
            simp only[Act.put,zIB,zSZ,zSS];refine wpAnyH_take (i:=13) (oi:=⟨some 52,.move (.tmp 1),78, "ref.go:74",#[⟨12,.guard⟩],some (12,false)⟩) (v:=undef) rfl (by kernel_rfl) (by kernel_rfl) (by kernel_rfl) (fun _ _ _ h=>h) (Or.inr ⟨by rfl,rfl⟩) hHeld ?_;simp only[Act.put,zIB,zSZ,zSS];refine wpAnyH_take (i:=14) (oi:=⟨some 53,.move (.tmp 7),3, "ref.go:74",#[⟨12,.guard⟩],some (12,false)⟩) (v:=undef) rfl (by kernel_rfl) (by kernel_rfl) (by kernel_rfl) (fun _ _ _ h=>h) (Or.inr ⟨by rfl,rfl⟩) hHeld ?_;simp only[Act.put,zIB,zSZ,zSS];refine wpAnyH_take (i:=15) (oi:=⟨some 54,.indexAddr 78 (.tmp 52) (.tmp 53),0, "ref.go:74",#[⟨13,.data⟩,⟨14,.data⟩,⟨12,.guard⟩],some (12,false)⟩) (v:=undef) rfl (by kernel_rfl) (by kernel_rfl) (by kernel_rfl) (fun _ _ _ h=>h) (Or.inr ⟨by rfl,rfl⟩) hHeld ?_;simp only[Act.put,zIB,zSZ,zSS];refine wpAnyH_take (i:=16) (oi:=⟨some 55,.load 80 (.tmp 54),80, "ref.go:74",#[⟨15,.data⟩,⟨12,.guard⟩],some (12,false)⟩) (v:=undef) rfl (by kernel_rfl) (by kernel_rfl) (by kernel_rfl) (fun _ _ _ h=>h) (Or.inr ⟨by rfl,rfl⟩) hHeld ?_;simp only[Act.put,zIB,zSZ,zSS];refine wpAnyH_take (i:=17) (oi:=⟨some 56,.move (.tmp 8),3, "ref.go:74",#[⟨12,.guard⟩],some (12,false)⟩) (v:=undef) rfl (by kernel_rfl) (by kernel_rfl) (by kernel_rfl) (fun _ _ _ h=>h) (Or.inr ⟨by rfl,rfl⟩) hHeld ?_;simp only[Act.put,zIB,zSZ,zSS];refine wpAnyH_take (i:=18) (oi:=⟨some 57,.indexAddr 80 (.tmp 55) (.tmp 56),0, "ref.go:74",#[⟨16,.data⟩,⟨17,.data⟩,⟨12,.guard⟩],some (12,false)⟩) (v:=undef) rfl (by kernel_rfl) (by kernel_rfl) (by kernel_rfl) (fun _ _ _ h=>h) (Or.inr ⟨by rfl,rfl⟩) hHeld ?_;simp only[Act.put,zIB,zSZ,zSS];refine wpAnyH_take (i:=19) (oi:=⟨some 58,.load 4 (.tmp 57),4, "ref.go:74",#[⟨18,.data⟩,⟨12,.guard⟩],some (12,false)⟩) (v:=undef) rfl (by kernel_rfl) (by kernel_rfl) (by kernel_rfl) (fun _ _ _ h=>h) (Or.inr ⟨by rfl,rfl⟩) hHeld ?_;simp only[Act.put,zIB,zSZ,zSS];refine tkH (i:=20) (oi:=⟨some 59,.pick (.tmp 51) (.const (.bool true)) (.tmp 58),4, "ref.go:74",#[⟨12,.data⟩,⟨19,.data⟩],none⟩) (v:=?_) rfl ?_ hHeld ?_;rotate_left 1
            . rintro W ⟨s0,s1,s2⟩;go_simp;try with_reducible rfl
            simp only[Act.put,zIB,zSZ,zSS];refine tkH (i:=21) (oi:=⟨some 60,.indexAddr 80 (.tmp 42) (.tmp 43),0, "ref.go:74",#[⟨3,.data⟩,⟨4,.data⟩,⟨0,.phase⟩,⟨1,.phase⟩,⟨2,.phase⟩,⟨3,.phase⟩,⟨4,.phase⟩,⟨5,.phase⟩,⟨6,.phase⟩,⟨7,.phase⟩,⟨8,.phase⟩,⟨9,.phase⟩,⟨10,.phase⟩,⟨11,.phase⟩,⟨12,.phase⟩,⟨13,.phase⟩,⟨14,.phase⟩,⟨15,.phase⟩,⟨16,.phase⟩,⟨17,.phase⟩,⟨18,.phase⟩,⟨19,.phase⟩,⟨20,.phase⟩],none⟩) (v:=?_) rfl ?_ hHeld ?_;rotate_left 1
            . rintro W ⟨s0,s1,s2⟩;go_simp;try with_reducible rfl
            simp only[Act.put,zIB,zSZ,zSS];refine rdH (k:=22) (o:=⟨none,.store 4 (.tmp 60) (.tmp 59),0, "ref.go:74",#[⟨21,.data⟩,⟨20,.data⟩,⟨12,.chain⟩,⟨0,.phase⟩,⟨1,.phase⟩,⟨2,.phase⟩,⟨3,.phase⟩,⟨4,.phase⟩,⟨5,.phase⟩,⟨6,.phase⟩,⟨7,.phase⟩,⟨8,.phase⟩,⟨9,.phase⟩,⟨10,.phase⟩,⟨11,.phase⟩,⟨12,.phase⟩,⟨13,.phase⟩,⟨14,.phase⟩,⟨15,.phase⟩,⟨16,.phase⟩,⟨17,.phase⟩,⟨18,.phase⟩,⟨19,.phase⟩,⟨20,.phase⟩],none⟩) rfl (fun K hK=>?_);go_simp;refine hK.out _ _ (HN.out _) (fun hHeld=>?_);clear hK K;refine wpAnyH_done (by kernel_rfl) ?_ _;go_wp2;go_roundw
            case rel=>exact⟨j+1,by omega,by go_num,ad.out,ax.out⟩
            case measure=>simp[intOf];omega
           |false=>
            have ad:Hid (MatO w.heap.size (wz.setCell ⟨mg,j,none⟩ (.bool y)).drew (.slice (some ⟨mb,mo,none⟩) n mc) n gs (M i k (j+1))):=zA (((ae.out.set al.out y).below (zF _ _).drew).congr af.out (fun i' k' _ _=>HZ.out i' k'));have ax:Hid (Below w.heap.size w (wz.setCell ⟨mg,j,none⟩ (.bool y)).drew):=zA (ae.out.bel_set al.out ah.out y).drew;go_wp2_with fail;refine wp_region_held_drew (S:=fun u=>(u.cell? ⟨mb,mo+i,none⟩=some (.slice (some ⟨mg,0,none⟩) n n))/\(u.cell? ⟨bb,bo+k,none⟩=some (.slice (some ⟨bg,0,none⟩) n n)/\u.cell? ⟨bg,j,none⟩=some (.bool y))) (by kernel_rfl) ?_ (fun hHeld=>?_)
            . exact HS.out
            refine tkH (i:=0) (oi:=⟨some 39,.move (.tmp 5),78, "ref.go:74",#[],none⟩) (v:=?_) rfl ?_ hHeld ?_;rotate_left 1
            . rintro W ⟨s0,s1,s2⟩;go_simp;try with_reducible rfl
            simp only[Act.put,zIB,zSZ,zSS];refine tkH (i:=1) (oi:=⟨some 40,.move (.tmp 6),3, "ref.go:74",#[],none⟩) (v:=?_) rfl ?_ hHeld ?_;rotate_left 1
            . rintro W ⟨s0,s1,s2⟩;go_simp;try with_reducible rfl
            simp only[Act.put,zIB,zSZ,zSS];refine tkH (i:=2) (oi:=⟨some 41,.indexAddr 78 (.tmp 39) (.tmp 40),0, "ref.go:74",#[⟨0,.data⟩,⟨1,.data⟩],none⟩) (v:=?_) rfl ?_ hHeld ?_;rotate_left 1
            . rintro W ⟨s0,s1,s2⟩;go_simp;try with_reducible rfl
            simp only[Act.put,zIB,zSZ,zSS];refine tkH (i:=3) (oi:=⟨some 42,.load 80 (.tmp 41),80, "ref.go:74",#[⟨2,.data⟩],none⟩) (v:=?_) rfl ?_ hHeld ?_;rotate_left 1
            . rintro W ⟨s0,s1,s2⟩;go_simp;try with_reducible rfl
            simp only[Act.put,zIB,zSZ,zSS];refine tkH (i:=4) (oi:=⟨some 43,.move (.tmp 8),3, "ref.go:74",#[],none⟩) (v:=?_) rfl ?_ hHeld ?_;rotate_left 1
            . rintro W ⟨s0,s1,s2⟩;go_simp;try with_reducible rfl
            simp only[Act.put,zIB,zSZ,zSS];refine tkH (i:=5) (oi:=⟨some 44,.move (.tmp 5),78, "ref.go:74",#[],none⟩) (v:=?_) rfl ?_ hHeld ?_;rotate_left 1
            . rintro W ⟨s0,s1,s2⟩;go_simp;try with_reducible rfl
            simp only[Act.put,zIB,zSZ,zSS];refine tkH (i:=6) (oi:=⟨some 45,.move (.tmp 6),3, "ref.go:74",#[],none⟩) (v:=?_) rfl ?_ hHeld ?_;rotate_left 1
            . rintro W ⟨s0,s1,s2⟩;go_simp;try with_reducible rfl
            simp only[Act.put,zIB,zSZ,zSS];refine tkH (i:=7) (oi:=⟨some 46,.indexAddr 78 (.tmp 44) (.tmp 45),0, "ref.go:74",#[⟨5,.data⟩,⟨6,.data⟩],none⟩) (v:=?_) rfl ?_ hHeld ?_;rotate_left 1
            . rintro W ⟨s0,s1,s2⟩;go_simp;try with_reducible rfl
            simp only[Act.put,zIB,zSZ,zSS];refine tkH (i:=8) (oi:=⟨some 47,.load 80 (.tmp 46),80, "ref.go:74",#[⟨7,.data⟩],none⟩) (v:=?_) rfl ?_ hHeld ?_;rotate_left 1
            . rintro W ⟨s0,s1,s2⟩;go_simp;try with_reducible rfl
            simp only[Act.put,zIB,zSZ,zSS];refine tkH (i:=9) (oi:=⟨some 48,.move (.tmp 8),3, "ref.go:74",#[],none⟩) (v:=?_) rfl ?_ hHeld ?_;rotate_left 1
            . rintro W ⟨s0,s1,s2⟩;go_simp;try with_reducible rfl
            simp only[Act.put,zIB,zSZ,zSS];refine tkH (i:=10) (oi:=⟨some 49,.indexAddr 80 (.tmp 47) (.tmp 48),0, "ref.go:74",#[⟨8,.data⟩,⟨9,.data⟩],none⟩) (v:=?_) rfl ?_ hHeld ?_;rotate_left 1
            . rintro W ⟨s0,s1,s2⟩;go_simp;try with_reducible rfl
            simp only[Act.put,zIB,zSZ,zSS];refine rdH (k:=11) (o:=⟨some 50,.load 4 (.tmp 49),4, "ref.go:74",#[⟨10,.data⟩],none⟩) rfl (fun K hK=>?_);go_simp;refine hK.out _ _ HS.out (fun hHeld=>?_);clear hK K;refine tkH (i:=12) (oi:=⟨some 51,.move (.tmp 50),4, "ref.go:74",#[⟨11,.data⟩],none⟩) (v:=?_) rfl ?_ hHeld ?_;rotate_left 1
            . rintro W ⟨s0,s1,s2⟩;go_simp;try with_reducible rfl
            simp only[Act.put,zIB,zSZ,zSS];refine tkH (i:=13) (oi:=⟨some 52,.move (.tmp 1),78, "ref.go:74",#[⟨12,.guard⟩],some (12,false)⟩) (v:=?_) rfl ?_ hHeld ?_;rotate_left 1
            . rintro W ⟨s0,s1,s2⟩;go_simp;try with_reducible rfl
            simp only[Act.put,zIB,zSZ,zSS];refine tkH (i:=14) (oi:=⟨some 53,.move (.tmp 7),3, "ref.go:74",#[⟨12,.guard⟩],some (12,false)⟩) (v:=?_) rfl ?_ hHeld ?_;rotate_left 1
            . rintro W ⟨s0,s1,s2⟩;go_simp;try with_reducible rfl
            simp only[Act.put,zIB,zSZ,zSS];refine tkH (i:=15) (oi:=⟨some 54,.indexAddr 78 (.tmp 52) (.tmp 53),0, "ref.go:74",#[⟨13,.data⟩,⟨14,.data⟩,⟨12,.guard⟩],some (12,false)⟩) (v:=?_) rfl ?_ hHeld ?_;rotate_left 1
            . rintro W ⟨s0,s1,s2⟩;go_simp;try with_reducible rfl
            simp only[Act.put,zIB,zSZ,zSS];refine tkH (i:=16) (oi:=⟨some 55,.load 80 (.tmp 54),80, "ref.go:74",#[⟨15,.data⟩,⟨12,.guard⟩],some (12,false)⟩) (v:=?_) rfl ?_ hHeld ?_;rotate_left 1
            . rintro W ⟨s0,s1,s2⟩;go_simp;try with_reducible rfl
            simp only[Act.put,zIB,zSZ,zSS];refine tkH (i:=17) (oi:=⟨some 56,.move (.tmp 8),3, "ref.go:74",#[⟨12,.guard⟩],some (12,false)⟩) (v:=?_) rfl ?_ hHeld ?_;rotate_left 1
            . rintro W ⟨s0,s1,s2⟩;go_simp;try with_reducible rfl
            simp only[Act.put,zIB,zSZ,zSS];refine tkH (i:=18) (oi:=⟨some 57,.indexAddr 80 (.tmp 55) (.tmp 56),0, "ref.go:74",#[⟨16,.data⟩,⟨17,.data⟩,⟨12,.guard⟩],some (12,false)⟩) (v:=?_) rfl ?_ hHeld ?_;rotate_left 1
            . rintro W ⟨s0,s1,s2⟩;go_simp;try with_reducible rfl
            simp only[Act.put,zIB,zSZ,zSS];refine tkH (i:=19) (oi:=⟨some 58,.load 4 (.tmp 57),4, "ref.go:74",#[⟨18,.data⟩,⟨12,.guard⟩],some (12,false)⟩) (v:=?_) rfl ?_ hHeld ?_;rotate_left 1
            . rintro W ⟨s0,s1,s2⟩;go_simp;try with_reducible rfl
            simp only[Act.put,zIB,zSZ,zSS];refine tkH (i:=20) (oi:=⟨some 59,.pick (.tmp 51) (.const (.bool true)) (.tmp 58),4, "ref.go:74",#[⟨12,.data⟩,⟨19,.data⟩],none⟩) (v:=?_) rfl ?_ hHeld ?_;rotate_left 1
            . rintro W ⟨s0,s1,s2⟩;go_simp;try with_reducible rfl
            simp only[Act.put,zIB,zSZ,zSS];refine tkH (i:=21) (oi:=⟨some 60,.indexAddr 80 (.tmp 42) (.tmp 43),0, "ref.go:74",#[⟨3,.data⟩,⟨4,.data⟩,⟨0,.phase⟩,⟨1,.phase⟩,⟨2,.phase⟩,⟨3,.phase⟩,⟨4,.phase⟩,⟨5,.phase⟩,⟨6,.phase⟩,⟨7,.phase⟩,⟨8,.phase⟩,⟨9,.phase⟩,⟨10,.phase⟩,⟨11,.phase⟩,⟨12,.phase⟩,⟨13,.phase⟩,⟨14,.phase⟩,⟨15,.phase⟩,⟨16,.phase⟩,⟨17,.phase⟩,⟨18,.phase⟩,⟨19,.phase⟩,⟨20,.phase⟩],none⟩) (v:=?_) rfl ?_ hHeld ?_;rotate_left 1
            . rintro W ⟨s0,s1,s2⟩;go_simp;try with_reducible rfl
            simp only[Act.put,zIB,zSZ,zSS];refine rdH (k:=22) (o:=⟨none,.store 4 (.tmp 60) (.tmp 59),0, "ref.go:74",#[⟨21,.data⟩,⟨20,.data⟩,⟨12,.chain⟩,⟨0,.phase⟩,⟨1,.phase⟩,⟨2,.phase⟩,⟨3,.phase⟩,⟨4,.phase⟩,⟨5,.phase⟩,⟨6,.phase⟩,⟨7,.phase⟩,⟨8,.phase⟩,⟨9,.phase⟩,⟨10,.phase⟩,⟨11,.phase⟩,⟨12,.phase⟩,⟨13,.phase⟩,⟨14,.phase⟩,⟨15,.phase⟩,⟨16,.phase⟩,⟨17,.phase⟩,⟨18,.phase⟩,⟨19,.phase⟩,⟨20,.phase⟩],none⟩) rfl (fun K hK=>?_);go_simp;refine hK.out _ _ (HN.out _) (fun hHeld=>?_);clear hK K;refine wpAnyH_done (by kernel_rfl) ?_ _;go_wp2;go_roundw
            case rel=>exact⟨j+1,by omega,by go_num,ad.out,ax.out⟩
            case measure=>simp[intOf];omega
         . have ai:¬(j:Int)<(n:Int):=by omega
           have hdj:decide ((j:Int)<(n:Int))=false:=decide_eq_false ai;have aC:j=n:=by omega
           have ad:Hid (MatO w.heap.size wz (.slice ma n mc) n gs (M i (k+1) 0)):=zA (ae.out.congr af.out (fun i' k' _ hk'=>by rw[aC];exact aW.out i k i' k' hk'));clear aC;go_wp2;go_roundw
           case rel=>exact⟨k+1,by omega,by go_num,ad.out,ah.out⟩
           case measure=>simp[intOf];omega
     . have au:¬(k:Int)<(n:Int):=by omega
       have ay:k=n:=by omega
       have ad:Hid (MatO w.heap.size wy (.slice ma n mc) n gs (M (i+1) 0 0)):=zA (av.out.congr af.out (fun i' k' _ _=>by rw[ay];exact aU.out i i' k'));clear ay;go_wp2;go_roundw
       case rel=>exact⟨i+1,by omega,by go_num,ad.out,am.out⟩
       case measure=>simp[intOf];omega
  . have aq:¬(i:Int)<(n:Int):=by omega
    have aG:i=n:=by omega
    have ad:Hid (IsM wx (.slice ma n mc) n RM):=zA ⟨gs,(HM.out.congr af.out (fun i' k' hi' _=>by rw[aG];exact aH.out i' k' hi')).read af.out⟩;clear aG;go_wp2;go_ret;exact⟨_,rfl,ad.out,aF.out⟩
def dgM(i:Nat):Mt:=fun i' k'=>decide (i'<i)&&decide (i'=k')
theorem rSameM_any(n:Nat)(w:World)(hn:n<=100000):
 Calls Tryz.prog 65 #[.int .i64 (n:Int)] w fun e w'=>∃v,e=.returned v/\IsM w' v n jc2/\Below w.heap.size w w':=by
 go_enter Tryz.func65,Tryz.ntmps65;go_wp2_with fail;refine(jcs n w hn).mono ?_;rintro e w1 ⟨v,rfl,⟨gs,aa,hm⟩,af⟩;obtain⟨ma,mc,hv⟩:=jab hm.row;rw[aa]at hv;subst hv;have ab:=zA aa;have aj:=zA (hm.congr (m':=dgM 0) aa (fun i k _ _=>by simp[dgM,jbQ]));have an:=zA af;clear aa hm af;go_wp2_with fail;go_loopw [4] (fun c wr=>∃i:Nat,i<=n/\c=.int .i64 i/\MatO w.heap.size wr (.slice ma n mc) n gs (dgM i)/\Below w.heap.size w wr) (fun c _=>n-(intOf c).toNat)
 case atStart=>exact⟨0,zO _,rfl,aj.out,an.out⟩
 case round=>
  obtain⟨i,hi,rfl,hm,ai⟩:=hrel;have HM:=zA hm;have ag:=zA ai;clear hm ai;obtain⟨wx,am⟩:=eX wr;subst am;by_cases hlt:i<n
  . have ad:(i:Int)<(n:Int):=by omega
    obtain⟨mb,mo,mg,ak,ae,_,m0,_,mr⟩:=(HM.out.read ab.out).at_ hlt;subst ak;obtain⟨m1,m2⟩:=mr i hlt;have ac:Hid (MatO w.heap.size (wx.setCell ⟨mg,i,none⟩ (.bool true)) (.slice (some ⟨mb,mo,none⟩) n mc) n gs (dgM (i+1))):=zA ((HM.out.set ae true).congr ab.out (fun i' k' _ _=>by
     unfold updM dgM;by_cases e:i'=i/\k'=i
     . rw[if_pos e,e.1,e.2];simp
     . rw[if_neg e];by_cases e2:i'=i
       . have:¬i'=k':=fun x=>e ⟨e2,by omega⟩
         simp[this]
       . have:decide (i'<i)=decide (i'<i+1):=by rw[decide_eq_decide];omega
         rw[this]))
    have al:Hid (Below w.heap.size w (wx.setCell ⟨mg,i,none⟩ (.bool true))):=zA (HM.out.bel_set ae ag.out true);clear mr ae;go_wp2;go_roundw
    case rel=>exact⟨i+1,by omega,by go_num,ac.out,al.out⟩
    case measure=>simp[intOf];omega
  . have ad:¬(i:Int)<(n:Int):=by omega
    have ah:i=n:=by omega
    have ac:Hid (IsM wx (.slice ma n mc) n jc2):=zA ⟨gs,(HM.out.congr ab.out (fun i' k' hi' _=>by
     unfold dgM jc2;rw[ah,zU hi',Bool.true_and])).read ab.out⟩
    clear ah;go_wp2;go_ret;exact⟨_,rfl,ac.out,ag.out⟩
theorem rOften_any{w:World}{va:Value}{n:Nat}{a:Mt}(ha:IsM w va n a)(hn:n<=100000):
 Calls Tryz.prog 68 #[va] w fun e w'=>∃v,e=.returned v/\IsM w' v n (jep n a)/\Below w.heap.size w w':=by
 have HA:=zA ha;obtain⟨ga,ad⟩:=ha;obtain⟨aa,ac,ai⟩:=ad.sl.slice;rw[ad.len]at ai;subst ai;obtain⟨R,hR⟩:=eX (jep n a);rw[<- hR];have HR:=zA hR;clear ad hR;go_enter Tryz.func68,Tryz.ntmps68;go_wp2_with fail;go_loopw [3,4] (fun vl c wr=>∃(i:Nat) (u:Value),u=vl/\i<=n/\c=.int .i64 i/\IsM wr u n (oftM n a i)/\Below w.heap.size w wr) (fun _ c _=>n-(intOf c).toNat)
 case atStart=>exact⟨0,_,rfl,zO _,rfl,HA.out,zF _ _⟩
 case round=>
  obtain⟨i,u,rfl,hi,rfl,hm,al⟩:=hrel;have HM:=zA hm;have ab:=zA al;clear hm al;by_cases hlt:i<n
  . have ae:(i:Int)<(n:Int):=by omega
    go_wp2_with fail;refine(rBehind_any HM.out (HA.out.below ab.out) hn).mono ?_;rintro e w3 ⟨v3,rfl,aj,af⟩;have ao:=zA aj;have ap:=zA (HM.out.below af);have ah:=zA (ab.out.trans (af.mono ab.out.size));clear aj af;go_wp2_with fail;refine(rEither_any ap.out ao.out hn).mono ?_;rintro e w4 ⟨v4,rfl,ag,ak⟩;have am:=zA ag;have an:=zA (ah.out.trans (ak.mono ah.out.size));clear ag ak;go_wp2;go_roundw
    case rel=>exact⟨i+1,_,rfl,by omega,by go_num,am.out,an.out⟩
    case measure=>simp[intOf];omega
  . have ae:¬(i:Int)<(n:Int):=by omega
    have HT:Hid (R=oftM n a i):=zA (by rw[HR.out,jep,show i=n by omega]);go_wp2;go_ret;exact⟨_,rfl,by rw[HT.out];exact HM.out,ab.out⟩
end Go.Proofs.YtkbgmcmcpbegjaaGreatDoor
