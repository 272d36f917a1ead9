/- MMem, MEith, MLead. -/
import Derived.Test.YtkbgmcmcpbegjaaGreatDoorMG31
import Derived.Test.YtkbgmcmcpbegjaaGreatDoorMG28
set_option maxRecDepth 100000
namespace Go.Proofs.YtkbgmcmcpbegjaaGreatDoor
open Go.RowKit Go.Shelf
theorem grown_atM{w3 w9:World}{o:Obj}{row:Option Nat}{mb:Nat}(hg:(w3.alloc o).grownBy w9 row)(hlt:mb<w3.heap.size)(hne:row≠some mb):w9.heap[mb]?=w3.heap[mb]?:=by
 rw[hg.block mb (by simp;omega) (fun e=>hne e.symm),heap_alloc_old _ _ hlt]
theorem made_false(n:Nat):madeCells #[Value.bool false] n=bCells n (fun _=>false):=by
 apply Array.ext_getElem?;intro j;by_cases hj:j<n
 . rw[bCells_get _ hj];simp[madeCells,hj,Nat.mod_one]
 . rw[Array.getElem?_eq_none (by simp[madeCells];omega),Array.getElem?_eq_none (by rw[bCells_size];omega)]
theorem own_full{w:World}{B n g:Nat}{e:TypeId}{xs:List Value}(h:w.ownsRow B e 1 (.slice (some ⟨g,0,none⟩) n n) n xs):w.heap[g]?=some (.cells xs.toArray e (0,0))/\B<=g:=by
 rcases h.2 with⟨h0,_⟩|⟨g',cap,cur,e1,e2,e3,_,_,e5,e6⟩
 . cases h0
 . injection e1 with e1 e7 e8;injection e1 with e1;injection e1 with e1;subst e1 e8;rw[<- e6,zJ (by rw[Array.length_toList,e5];exact zD _)];exact⟨e3,e2⟩
theorem infoB:(Tryz.prog.info? 4).map (fun i=>(i.zero,i.size,i.bytes))=some (some (.bool false),1,1):=by kernel_rfl
theorem infoBs:(Tryz.prog.info? 80).map (fun i=>(i.zero,i.size,i.bytes))=some (some (.slice none 0 0),1,24):=by kernel_rfl
set_option maxHeartbeats 4000000 in
theorem rNone_any(n:Nat)(w:World)(hn:n<=100000):
 Calls Tryz.prog 64 #[.int .i64 (n:Int)] w fun e w'=>∃v,e=.returned v/\IsO w.heap.size w' v n noneM/\Below w.heap.size w w':=by
 obtain⟨i0,hi0,hz0,hz1,hz2⟩:=info_parts infoB;obtain⟨i1,hi1,hy0,hy1,hy2⟩:=info_parts infoBs;go_enter Tryz.func64,Tryz.ntmps64;go_wp2_with fail;go_loopw [3,4] (fun vl c wr=>∃(i:Nat) (u:Value) (gs:List Nat),u=vl/\i<=n/\c=.int .i64 i/\gs.length=i/\MatO w.heap.size wr u n gs noneM/\Below w.heap.size w wr) (fun _ c _=>n-(intOf c).toNat)
 case atStart=>exact⟨0,.slice none 0 0,[],rfl,zO _,rfl,rfl,⟨World.ownsRow_nil _ _ _ _,List.nodup_nil,by simp,fun i g h=>by simp at h⟩,zE _ _⟩
 case round=>
  obtain⟨i,u,gs,rfl,hi,rfl,hgl,hm,hbq⟩:=hrel;obtain⟨wx,hwx⟩:∃wx,wx=wr:=⟨_,rfl⟩
  subst hwx;obtain⟨ua,uc,hu⟩:=own_slice hm.row;rw[hgl]at hu;subst hu;have HM:=zA hm;have HBQ:=zA hbq;have HGL:=zA hgl;have hsx:w.heap.size<=wx.heap.size:=hbq.size;obtain⟨X,hX⟩:∃l,l=gs.flatMap (csG n):=⟨_,rfl⟩
  have HX:=zA hX;have HROW:Hid (wx.ownsRow w.heap.size 80 1 (.slice ua i uc) i X):=zA (by
   have h:=hm.row;rw[hgl,<- hX]at h;exact h)
  clear hm hbq hgl hX;by_cases hlt:i<n
  . have hltI:(i:Int)<(n:Int):=by omega
    go_wp2_with (at_make;refine wpList_make_full _ rfl _ _ 80 rfl wx.heap.size 4 i0 (.bool false) 1 Tryz.underlying80 hi0 hz0 hz1 _ _ _ _ n rfl rfl rfl rfl (by rw[hz2];omega) (by unfold maxLen;omega) (zD _) ?_);intro w1 hown hgrow;obtain⟨hblk,_⟩:=own_full hown;rw[made_false,Array.toArray_toList]at hblk;have HBL:=zA hblk;have hb1:Below wx.heap.size wx w1:=(zE _ _).grown hgrow (zD _) (by simp);have HB1:=zA hb1;have hs1:wx.heap.size<w1.heap.size:=lt_of_block hblk;have HR1:=zA (owns_below HROW.out hb1);clear hown hgrow hblk hb1;go_wp2_with (at_builtin;refine wpList_append_lies _ rfl _ _ _ rfl w.heap.size 80 i1 _ 1 24 Tryz.underlying78 hi1 hy0 hy1 hy2 rfl (by decide) (.slice ua i uc) _ _ (by rfl) (HR1.out.alloc _) ⟨w1.heap.size,0,none⟩ 1 1 (csG n wx.heap.size) (by rfl) (by rfl) (World.news_of_block (cs:=#[.slice (some ⟨wx.heap.size,0,none⟩) n n]) (t:=80) (fr:=(0,0)) (heap_alloc_new w1 _)) (by simp[Value.oneCell']) (by decide) (by unfold maxLen;omega) (by omega) (by simp;omega) (w1.heap.size+1) (by simp) ?_);intro gg cap2 w9 hown9 hgrow9 hat9 hlt9;have ba:Below w1.heap.size w1 (w1.alloc (.cells #[.slice (some ⟨wx.heap.size,0,none⟩) n n] 80)):=(zE _ _).alloc (zD _) _;have hb1w:Below w.heap.size w w1:=HBQ.out.trans (HB1.out.mono HBQ.out.size);have HB9:Hid (Below w.heap.size w w9):=zA ((hb1w.trans (ba.mono hb1w.size)).grown hgrow9 (by simp;omega) (fun k e=>(HROW.out.lt k e).1));have HM9:Hid (MatO w.heap.size w9 (.slice (some ⟨gg,0,none⟩) (i+1) cap2) n (gs++[wx.heap.size]) noneM):=zA (by
     have hm:=HM.out;have hlow:∀g∈gs,g<wx.heap.size:=fun g hg=>by
      obtain⟨j,hj⟩:=List.getElem?_of_mem hg;exact lt_of_block (hm.ats j g hj)
     have hkeep:∀g f,BRow w1 g n f->BRow w9 g n f:=fun g f h=>by
      have h2:g<w1.heap.size:=lt_of_block h;exact(grown_atM hgrow9 h2 (fun e=>own_neM HR1.out h (by decide) e)).trans h
     refine⟨?_,?_,?_,?_⟩
     . rw[zG,HGL.out,zR,<- HX.out];exact hown9
     . rw[List.nodup_append];exact⟨hm.nd,by simp,fun a ha b hb=>by simp at hb;have:=hlow a ha;omega⟩
     . intro g hg;rcases zM.1 hg with hg|hg
       . exact hm.lo g hg
       . simp at hg;omega
     . intro j g hg;by_cases hj:j<gs.length
       . rw[yH hj]at hg;exact hkeep g _ ((HB1.out.block g (lt_of_block (hm.ats j g hg))).trans (hm.ats j g hg))
       . rw[yO (by omega)]at hg;have h1:=(zF.1 hg).1;simp at h1;have h0:j-gs.length=0:=by omega
         rw[h0]at hg;simp at hg;subst hg;exact hkeep _ _ HBL.out)
    clear hown9 hgrow9 hat9 hlt9 ba hb1w;go_wp2;go_roundw
    case rel=>exact⟨i+1,_,_,rfl,by omega,by go_num,by rw[zG,HGL.out];rfl,HM9.out,HB9.out⟩
    case measure=>simp[intOf];omega
  . have hltI:¬(i:Int)<(n:Int):=by omega
    have hin:gs.length=n:=by rw[HGL.out];omega
    go_wp2;go_ret;exact⟨_,rfl,⟨gs,hin,HM.out⟩,HBQ.out⟩
def fillM(M:Mt)(i k:Nat):Mt:=fun i' k'=>(decide (i'<i)||(decide (i'=i)&&decide (k'<k)))&&M i' k'
theorem fill_start(M:Mt)(i k:Nat):noneM i k=fillM M 0 0 i k:=by
 have h1:decide (i<0)=false:=decide_eq_false (by omega);have h2:decide (k<0)=false:=decide_eq_false (by omega);simp[fillM,noneM]
theorem fill_step(M:Mt)(i k i' k':Nat):updM (fillM M i k) i k (M i k) i' k'=fillM M i (k+1) i' k':=by
 unfold updM fillM;by_cases h:i'=i/\k'=k
 . rw[if_pos h,h.1,h.2];have:decide (k<k+1)=true:=zU (by omega);simp
 . rw[if_neg h];by_cases e:i'=i
   . have hk:k'≠k:=fun e2=>h ⟨e,e2⟩
     have:decide (k'<k)=decide (k'<k+1):=by
      rw[decide_eq_decide];omega
     rw[this]
   . simp[e]
theorem fill_row{n:Nat}(M:Mt)(i i' k':Nat)(hk:k'<n):fillM M i n i' k'=fillM M (i+1) 0 i' k':=by
 unfold fillM;have h1:decide (k'<n)=true:=zU hk;have h2:decide (k'<0)=false:=decide_eq_false (by omega);have h3:decide (i'<i+1)=(decide (i'<i)||decide (i'=i)):=by
  rw[<- Bool.decide_or,decide_eq_decide];omega
 rw[h1,h2,h3];simp
theorem fill_end{n:Nat}(M:Mt)(i' k':Nat)(hi:i'<n):fillM M n 0 i' k'=M i' k':=by
 unfold fillM;have h1:decide (i'<n)=true:=zU hi;rw[h1];simp
theorem cellM_other{w:World}{b g o k:Nat}{v:Value}(h:b≠g):(w.setCell ⟨g,k,none⟩ v).drew.cell? ⟨b,o,none⟩=w.cell? ⟨b,o,none⟩:=by
 have:(w.setCell ⟨g,k,none⟩ v).heap[b]?=w.heap[b]?:=zN _ _ _ _ (fun e=>h (show b=g from e));exact World.cell?_of_block (w:=w) (w':=(w.setCell ⟨g,k,none⟩ v).drew) (a:=⟨b,o,none⟩) this
theorem MatO.bel_set{B:Nat}{w0 w:World}{v:Value}{n i k g:Nat}{m:Mt}{gs:List Nat}(h:MatO B w v n gs m)(hg:gs[i]?=some g)(hb:Below B w0 w)(b:Bool):Below B w0 (w.setCell ⟨g,k,none⟩ (.bool b)):=hb.setCell (p:=⟨g,k,none⟩) (h.lo g (zC hg)) _
set_option maxHeartbeats 40000000 in
theorem rEither_any{w:World}{va vb:Value}{n:Nat}{a b:Mt}(ha:IsM w va n a)(hb:IsM w vb n b)(hn:n<=100000):
 Calls Tryz.prog 67 #[va,vb] w fun e w'=>∃v,e=.returned v/\IsM w' v n (eitherM a b)/\Below w.heap.size w w':=by
 obtain⟨M,hM⟩:∃M,M=eitherM a b:=⟨_,rfl⟩
 rw[<- hM];have HM0:=zA hM;obtain⟨ga,hga⟩:=ha;obtain⟨gb,hgb⟩:=hb;obtain⟨aa,ac,hva⟩:=hga.sl.slice;obtain⟨ba,bc,hvb⟩:=hgb.sl.slice;rw[hga.len]at hva;rw[hgb.len]at hvb;subst hva hvb;have HA:=zA hga;have HBm:=zA hgb;clear hga hgb hM;go_enter Tryz.func67,Tryz.ntmps67;go_wp2_with fail;refine(rNone_any n w hn).mono ?_;rintro e w1 ⟨v,rfl,⟨gs,hgl,hm⟩,hb1⟩;obtain⟨ma,mc,hv⟩:=own_slice hm.row;rw[hgl]at hv;subst hv;have HGL:=zA hgl;have HMO:=zA (hm.congr (m':=fillM M 0 0) hgl (fun i k _ _=>fill_start M i k));have HB1:=zA hb1;clear hgl hm hb1;go_wp2_with fail;go_loopw [6] (fun c wr=>∃i:Nat,i<=n/\c=.int .i64 i/\MatO w.heap.size wr (.slice ma n mc) n gs (fillM M i 0)/\Below w.heap.size w wr) (fun c _=>n-(intOf c).toNat)
 case atStart=>exact⟨0,zO _,rfl,HMO.out,HB1.out⟩
 case round=>
  obtain⟨i,hi,rfl,hm,hbq⟩:=hrel;have HM:=zA hm;have HBQ:=zA hbq;clear hm hbq;obtain⟨wx,hwx⟩:∃wx,wx=wr:=⟨_,rfl⟩
  subst hwx;by_cases hlt:i<n
  . have hltI:(i:Int)<(n:Int):=by omega
    go_wp2_with fail;go_loopw [7] (fun c wr=>∃k:Nat,k<=n/\c=.int .i64 k/\MatO w.heap.size wr (.slice ma n mc) n gs (fillM M i k)/\Below w.heap.size w wr) (fun c _=>n-(intOf c).toNat)
    case atStart=>exact⟨0,zO _,rfl,HM.out,HBQ.out⟩
    case round=>
     obtain⟨k,hk,rfl,hm,hby⟩:=hrel;obtain⟨wy,hwy⟩:∃wy,wy=wr:=⟨_,rfl⟩
     subst hwy;have HMY:=zA hm;have HBY:=zA hby;clear hm hby;by_cases hlk:k<n
     . have hlkI:(k:Int)<(n:Int):=by omega
       obtain⟨mb,mo,mg,hma,hmg,_,m0,_,mr⟩:=(HMY.out.read HGL.out).at_ hlt;obtain⟨ab,ao,ag,haa,_,abl,a0,agl,ar⟩:=HA.out.at_ hlt;obtain⟨bb,bo,bg,hba,_,bbl,b0,bgl,br⟩:=HBm.out.at_ hlt;have hmlo:w.heap.size<=mg:=HMY.out.lo mg (zC hmg);have hmbg:mb≠mg:=fun e=>own_neM HMY.out.row (HMY.out.ats i mg hmg) (by decide) (by rw[hma,e];rfl)
       subst hma haa hba;obtain⟨m1,m2⟩:=mr k hlk;obtain⟨a1,_⟩:=ar k hlk;obtain⟨b1,_⟩:=br k hlk;obtain⟨x,hx⟩:∃x,x=a i k:=⟨_,rfl⟩
       obtain⟨y,hy⟩:∃y,y=b i k:=⟨_,rfl⟩
       rw[<- hx]at a1;rw[<- hy]at b1;have HXY:Hid (M i k=(x||y)):=zA (by rw[HM0.out,hx,hy];rfl);have HMG:=zA hmg;have HS:Hid ((wy.cell? ⟨mb,mo+i,none⟩=some (.slice (some ⟨mg,0,none⟩) n n))/\(wy.cell? ⟨ab,ao+i,none⟩=some (.slice (some ⟨ag,0,none⟩) n n)/\wy.cell? ⟨ag,k,none⟩=some (.bool x))/\(wy.cell? ⟨bb,bo+i,none⟩=some (.slice (some ⟨bg,0,none⟩) n n)/\wy.cell? ⟨bg,k,none⟩=some (.bool y))):=zA ⟨m0,⟨(HBY.out.cell (p:=⟨ab,ao+i,none⟩) abl).trans a0,(HBY.out.cell (p:=⟨ag,k,none⟩) agl).trans a1⟩,⟨(HBY.out.cell (p:=⟨bb,bo+i,none⟩) bbl).trans b0,(HBY.out.cell (p:=⟨bg,k,none⟩) bgl).trans b1⟩⟩;have HN:Hid (∀v:Value,((wy.setCell ⟨mg,k,none⟩ v).drew.cell? ⟨mb,mo+i,none⟩=some (.slice (some ⟨mg,0,none⟩) n n))/\((wy.setCell ⟨mg,k,none⟩ v).drew.cell? ⟨ab,ao+i,none⟩=some (.slice (some ⟨ag,0,none⟩) n n)/\(wy.setCell ⟨mg,k,none⟩ v).drew.cell? ⟨ag,k,none⟩=some (.bool x))/\((wy.setCell ⟨mg,k,none⟩ v).drew.cell? ⟨bb,bo+i,none⟩=some (.slice (some ⟨bg,0,none⟩) n n)/\(wy.setCell ⟨mg,k,none⟩ v).drew.cell? ⟨bg,k,none⟩=some (.bool y))):=zA (fun v=>by
        obtain⟨s0,⟨s1,s2⟩,⟨s3,s4⟩⟩:=HS.out;exact⟨(cellM_other hmbg).trans s0,⟨(cellM_other (by omega)).trans s1,(cellM_other (by omega)).trans s2⟩,⟨(cellM_other (by omega)).trans s3,(cellM_other (by omega)).trans s4⟩⟩)
       clear mr ar br hx hy hmg m0 a0 b0 a1 b1;cases x with
       |true=>
        have HM9:Hid (MatO w.heap.size (wy.setCell ⟨mg,k,none⟩ (.bool true)).drew (.slice (some ⟨mb,mo,none⟩) n mc) n gs (fillM M i (k+1))):=zA (((HMY.out.set HMG.out true).below (zE _ _).drew).congr HGL.out (fun i' k' _ _=>by
         rw[<- fill_step M i k i' k',HXY.out];rfl))
        have HB9:Hid (Below w.heap.size w (wy.setCell ⟨mg,k,none⟩ (.bool true)).drew):=zA (HMY.out.bel_set HMG.out HBY.out true).drew;go_wp2_with fail;refine wp_region_held_drew (S:=fun u=>(u.cell? ⟨mb,mo+i,none⟩=some (.slice (some ⟨mg,0,none⟩) n n))/\(u.cell? ⟨ab,ao+i,none⟩=some (.slice (some ⟨ag,0,none⟩) n n)/\u.cell? ⟨ag,k,none⟩=some (.bool true))/\(u.cell? ⟨bb,bo+i,none⟩=some (.slice (some ⟨bg,0,none⟩) n n)/\u.cell? ⟨bg,k,none⟩=some (.bool y))) (by kernel_rfl) ?_ (fun hHeld=>?_)
        . exact HS.out
        refine tkH (i:=0) (oi:=⟨some 23,.move (.tmp 5),78, "ref.go:62",#[],none⟩) (v:=?_) rfl ?_ hHeld ?_;rotate_left 1
        . rintro W ⟨s0,⟨s1,s2⟩,⟨s3,s4⟩⟩;go_simp;try with_reducible rfl
        simp only[Act.put,zIB,zSZ,zSS];refine tkH (i:=1) (oi:=⟨some 24,.move (.tmp 6),3, "ref.go:62",#[],none⟩) (v:=?_) rfl ?_ hHeld ?_;rotate_left 1
        . rintro W ⟨s0,⟨s1,s2⟩,⟨s3,s4⟩⟩;go_simp;try with_reducible rfl
        simp only[Act.put,zIB,zSZ,zSS];refine tkH (i:=2) (oi:=⟨some 25,.indexAddr 78 (.tmp 23) (.tmp 24),0, "ref.go:62",#[⟨0,.data⟩,⟨1,.data⟩],none⟩) (v:=?_) rfl ?_ hHeld ?_;rotate_left 1
        . rintro W ⟨s0,⟨s1,s2⟩,⟨s3,s4⟩⟩;go_simp;try with_reducible rfl
        simp only[Act.put,zIB,zSZ,zSS];refine tkH (i:=3) (oi:=⟨some 26,.load 80 (.tmp 25),80, "ref.go:62",#[⟨2,.data⟩],none⟩) (v:=?_) rfl ?_ hHeld ?_;rotate_left 1
        . rintro W ⟨s0,⟨s1,s2⟩,⟨s3,s4⟩⟩;go_simp;try with_reducible rfl
        simp only[Act.put,zIB,zSZ,zSS];refine tkH (i:=4) (oi:=⟨some 27,.move (.tmp 7),3, "ref.go:62",#[],none⟩) (v:=?_) rfl ?_ hHeld ?_;rotate_left 1
        . rintro W ⟨s0,⟨s1,s2⟩,⟨s3,s4⟩⟩;go_simp;try with_reducible rfl
        simp only[Act.put,zIB,zSZ,zSS];refine tkH (i:=5) (oi:=⟨some 28,.move (.tmp 0),78, "ref.go:62",#[],none⟩) (v:=?_) rfl ?_ hHeld ?_;rotate_left 1
        . rintro W ⟨s0,⟨s1,s2⟩,⟨s3,s4⟩⟩;go_simp;try with_reducible rfl
        simp only[Act.put,zIB,zSZ,zSS];refine tkH (i:=6) (oi:=⟨some 29,.move (.tmp 6),3, "ref.go:62",#[],none⟩) (v:=?_) rfl ?_ hHeld ?_;rotate_left 1
        . rintro W ⟨s0,⟨s1,s2⟩,⟨s3,s4⟩⟩;go_simp;try with_reducible rfl
        simp only[Act.put,zIB,zSZ,zSS];refine tkH (i:=7) (oi:=⟨some 30,.indexAddr 78 (.tmp 28) (.tmp 29),0, "ref.go:62",#[⟨5,.data⟩,⟨6,.data⟩],none⟩) (v:=?_) rfl ?_ hHeld ?_;rotate_left 1
        . rintro W ⟨s0,⟨s1,s2⟩,⟨s3,s4⟩⟩;go_simp;try with_reducible rfl
        simp only[Act.put,zIB,zSZ,zSS];refine tkH (i:=8) (oi:=⟨some 31,.load 80 (.tmp 30),80, "ref.go:62",#[⟨7,.data⟩],none⟩) (v:=?_) rfl ?_ hHeld ?_;rotate_left 1
        . rintro W ⟨s0,⟨s1,s2⟩,⟨s3,s4⟩⟩;go_simp;try with_reducible rfl
        simp only[Act.put,zIB,zSZ,zSS];refine tkH (i:=9) (oi:=⟨some 32,.move (.tmp 7),3, "ref.go:62",#[],none⟩) (v:=?_) rfl ?_ hHeld ?_;rotate_left 1
        . rintro W ⟨s0,⟨s1,s2⟩,⟨s3,s4⟩⟩;go_simp;try with_reducible rfl
        simp only[Act.put,zIB,zSZ,zSS];refine tkH (i:=10) (oi:=⟨some 33,.indexAddr 80 (.tmp 31) (.tmp 32),0, "ref.go:62",#[⟨8,.data⟩,⟨9,.data⟩],none⟩) (v:=?_) rfl ?_ hHeld ?_;rotate_left 1
        . rintro W ⟨s0,⟨s1,s2⟩,⟨s3,s4⟩⟩;go_simp;try with_reducible rfl
        simp only[Act.put,zIB,zSZ,zSS];refine tkH (i:=11) (oi:=⟨some 34,.load 4 (.tmp 33),4, "ref.go:62",#[⟨10,.data⟩],none⟩) (v:=?_) rfl ?_ hHeld ?_;rotate_left 1
        . rintro W ⟨s0,⟨s1,s2⟩,⟨s3,s4⟩⟩;go_simp;try with_reducible rfl
        simp only[Act.put,zIB,zSZ,zSS];refine tkH (i:=12) (oi:=⟨some 35,.move (.tmp 34),4, "ref.go:62",#[⟨11,.data⟩],none⟩) (v:=?_) rfl ?_ hHeld ?_;rotate_left 1
        . rintro W ⟨s0,⟨s1,s2⟩,⟨s3,s4⟩⟩;go_simp;try with_reducible rfl
        simp only[Act.put,zIB,zSZ,zSS];refine wpAnyH_take (i:=13) (oi:=⟨some 36,.move (.tmp 1),78, "ref.go:62",#[⟨12,.guard⟩],some (12,false)⟩) (v:=undef) rfl (by kernel_rfl) (by kernel_rfl) (by kernel_rfl) (fun _ _ _ h=>h) (Or.inr ⟨by rfl,rfl⟩) hHeld ?_;simp only[Act.put,zIB,zSZ,zSS];refine wpAnyH_take (i:=14) (oi:=⟨some 37,.move (.tmp 6),3, "ref.go:62",#[⟨12,.guard⟩],some (12,false)⟩) (v:=undef) rfl (by kernel_rfl) (by kernel_rfl) (by kernel_rfl) (fun _ _ _ h=>h) (Or.inr ⟨by rfl,rfl⟩) hHeld ?_;simp only[Act.put,zIB,zSZ,zSS];refine wpAnyH_take (i:=15) (oi:=⟨some 38,.indexAddr 78 (.tmp 36) (.tmp 37),0, "ref.go:62",#[⟨13,.data⟩,⟨14,.data⟩,⟨12,.guard⟩],some (12,false)⟩) (v:=undef) rfl (by kernel_rfl) (by kernel_rfl) (by kernel_rfl) (fun _ _ _ h=>h) (Or.inr ⟨by rfl,rfl⟩) hHeld ?_;simp only[Act.put,zIB,zSZ,zSS];refine wpAnyH_take (i:=16) (oi:=⟨some 39,.load 80 (.tmp 38),80, "ref.go:62",#[⟨15,.data⟩,⟨12,.guard⟩],some (12,false)⟩) (v:=undef) rfl (by kernel_rfl) (by kernel_rfl) (by kernel_rfl) (fun _ _ _ h=>h) (Or.inr ⟨by rfl,rfl⟩) hHeld ?_;simp only[Act.put,zIB,zSZ,zSS];refine wpAnyH_take (i:=17) (oi:=⟨some 40,.move (.tmp 7),3, "ref.go:62",#[⟨12,.guard⟩],some (12,false)⟩) (v:=undef) rfl (by kernel_rfl) (by kernel_rfl) (by kernel_rfl) (fun _ _ _ h=>h) (Or.inr ⟨by rfl,rfl⟩) hHeld ?_;simp only[Act.put,zIB,zSZ,zSS];refine wpAnyH_take (i:=18) (oi:=⟨some 41,.indexAddr 80 (.tmp 39) (.tmp 40),0, "ref.go:62",#[⟨16,.data⟩,⟨17,.data⟩,⟨12,.guard⟩],some (12,false)⟩) (v:=undef) rfl (by kernel_rfl) (by kernel_rfl) (by kernel_rfl) (fun _ _ _ h=>h) (Or.inr ⟨by rfl,rfl⟩) hHeld ?_;simp only[Act.put,zIB,zSZ,zSS];refine wpAnyH_take (i:=19) (oi:=⟨some 42,.load 4 (.tmp 41),4, "ref.go:62",#[⟨18,.data⟩,⟨12,.guard⟩],some (12,false)⟩) (v:=undef) rfl (by kernel_rfl) (by kernel_rfl) (by kernel_rfl) (fun _ _ _ h=>h) (Or.inr ⟨by rfl,rfl⟩) hHeld ?_;simp only[Act.put,zIB,zSZ,zSS];refine tkH (i:=20) (oi:=⟨some 43,.pick (.tmp 35) (.const (.bool true)) (.tmp 42),4, "ref.go:62",#[⟨12,.data⟩,⟨19,.data⟩],none⟩) (v:=?_) rfl ?_ hHeld ?_;rotate_left 1
        . rintro W ⟨s0,⟨s1,s2⟩,⟨s3,s4⟩⟩;go_simp;try with_reducible rfl
        simp only[Act.put,zIB,zSZ,zSS];refine tkH (i:=21) (oi:=⟨some 44,.indexAddr 80 (.tmp 26) (.tmp 27),0, "ref.go:62",#[⟨3,.data⟩,⟨4,.data⟩,⟨0,.phase⟩,⟨1,.phase⟩,⟨2,.phase⟩,⟨3,.phase⟩,⟨4,.phase⟩,⟨5,.phase⟩,⟨6,.phase⟩,⟨7,.phase⟩,⟨8,.phase⟩,⟨9,.phase⟩,⟨10,.phase⟩,⟨11,.phase⟩,⟨12,.phase⟩,⟨13,.phase⟩,⟨14,.phase⟩,⟨15,.phase⟩,⟨16,.phase⟩,⟨17,.phase⟩,⟨18,.phase⟩,⟨19,.phase⟩,⟨20,.phase⟩],none⟩) (v:=?_) rfl ?_ hHeld ?_;rotate_left 1
        . rintro W ⟨s0,⟨s1,s2⟩,⟨s3,s4⟩⟩;go_simp;try with_reducible rfl
        simp only[Act.put,zIB,zSZ,zSS];refine wpAnyH_ready (rs:=[22]) (by kernel_rfl) (by simp) ?_;refine AllReadyH.cons (o:=⟨none,.store 4 (.tmp 44) (.tmp 43),0, "ref.go:62",#[⟨21,.data⟩,⟨20,.data⟩,⟨12,.chain⟩,⟨0,.phase⟩,⟨1,.phase⟩,⟨2,.phase⟩,⟨3,.phase⟩,⟨4,.phase⟩,⟨5,.phase⟩,⟨6,.phase⟩,⟨7,.phase⟩,⟨8,.phase⟩,⟨9,.phase⟩,⟨10,.phase⟩,⟨11,.phase⟩,⟨12,.phase⟩,⟨13,.phase⟩,⟨14,.phase⟩,⟨15,.phase⟩,⟨16,.phase⟩,⟨17,.phase⟩,⟨18,.phase⟩,⟨19,.phase⟩,⟨20,.phase⟩],none⟩) rfl (fun K hK=>?_) AllReadyH.nil;go_simp;refine hK.out _ _ (HN.out _) (fun hHeld=>?_);clear hK K;refine wpAnyH_done (by kernel_rfl) ?_ _;go_wp2;go_roundw
        case rel=>exact⟨k+1,by omega,by go_num,HM9.out,HB9.out⟩
        case measure=>simp[intOf];omega
       |false=>
        have HM9:Hid (MatO w.heap.size (wy.setCell ⟨mg,k,none⟩ (.bool y)).drew (.slice (some ⟨mb,mo,none⟩) n mc) n gs (fillM M i (k+1))):=zA (((HMY.out.set HMG.out y).below (zE _ _).drew).congr HGL.out (fun i' k' _ _=>by
         rw[<- fill_step M i k i' k',HXY.out];rfl))
        have HB9:Hid (Below w.heap.size w (wy.setCell ⟨mg,k,none⟩ (.bool y)).drew):=zA (HMY.out.bel_set HMG.out HBY.out y).drew;go_wp2_with fail;refine wp_region_held_drew (S:=fun u=>(u.cell? ⟨mb,mo+i,none⟩=some (.slice (some ⟨mg,0,none⟩) n n))/\(u.cell? ⟨ab,ao+i,none⟩=some (.slice (some ⟨ag,0,none⟩) n n)/\u.cell? ⟨ag,k,none⟩=some (.bool false))/\(u.cell? ⟨bb,bo+i,none⟩=some (.slice (some ⟨bg,0,none⟩) n n)/\u.cell? ⟨bg,k,none⟩=some (.bool y))) (by kernel_rfl) ?_ (fun hHeld=>?_)
        . exact HS.out
        refine tkH (i:=0) (oi:=⟨some 23,.move (.tmp 5),78, "ref.go:62",#[],none⟩) (v:=?_) rfl ?_ hHeld ?_;rotate_left 1
        . rintro W ⟨s0,⟨s1,s2⟩,⟨s3,s4⟩⟩;go_simp;try with_reducible rfl
        simp only[Act.put,zIB,zSZ,zSS];refine tkH (i:=1) (oi:=⟨some 24,.move (.tmp 6),3, "ref.go:62",#[],none⟩) (v:=?_) rfl ?_ hHeld ?_;rotate_left 1
        . rintro W ⟨s0,⟨s1,s2⟩,⟨s3,s4⟩⟩;go_simp;try with_reducible rfl
        simp only[Act.put,zIB,zSZ,zSS];refine tkH (i:=2) (oi:=⟨some 25,.indexAddr 78 (.tmp 23) (.tmp 24),0, "ref.go:62",#[⟨0,.data⟩,⟨1,.data⟩],none⟩) (v:=?_) rfl ?_ hHeld ?_;rotate_left 1
        . rintro W ⟨s0,⟨s1,s2⟩,⟨s3,s4⟩⟩;go_simp;try with_reducible rfl
        simp only[Act.put,zIB,zSZ,zSS];refine tkH (i:=3) (oi:=⟨some 26,.load 80 (.tmp 25),80, "ref.go:62",#[⟨2,.data⟩],none⟩) (v:=?_) rfl ?_ hHeld ?_;rotate_left 1
        . rintro W ⟨s0,⟨s1,s2⟩,⟨s3,s4⟩⟩;go_simp;try with_reducible rfl
        simp only[Act.put,zIB,zSZ,zSS];refine tkH (i:=4) (oi:=⟨some 27,.move (.tmp 7),3, "ref.go:62",#[],none⟩) (v:=?_) rfl ?_ hHeld ?_;rotate_left 1
        . rintro W ⟨s0,⟨s1,s2⟩,⟨s3,s4⟩⟩;go_simp;try with_reducible rfl
        simp only[Act.put,zIB,zSZ,zSS];refine tkH (i:=5) (oi:=⟨some 28,.move (.tmp 0),78, "ref.go:62",#[],none⟩) (v:=?_) rfl ?_ hHeld ?_;rotate_left 1
        . rintro W ⟨s0,⟨s1,s2⟩,⟨s3,s4⟩⟩;go_simp;try with_reducible rfl
        simp only[Act.put,zIB,zSZ,zSS];refine tkH (i:=6) (oi:=⟨some 29,.move (.tmp 6),3, "ref.go:62",#[],none⟩) (v:=?_) rfl ?_ hHeld ?_;rotate_left 1
        . rintro W ⟨s0,⟨s1,s2⟩,⟨s3,s4⟩⟩;go_simp;try with_reducible rfl
        simp only[Act.put,zIB,zSZ,zSS];refine tkH (i:=7) (oi:=⟨some 30,.indexAddr 78 (.tmp 28) (.tmp 29),0, "ref.go:62",#[⟨5,.data⟩,⟨6,.data⟩],none⟩) (v:=?_) rfl ?_ hHeld ?_;rotate_left 1
        . rintro W ⟨s0,⟨s1,s2⟩,⟨s3,s4⟩⟩;go_simp;try with_reducible rfl
        simp only[Act.put,zIB,zSZ,zSS];refine tkH (i:=8) (oi:=⟨some 31,.load 80 (.tmp 30),80, "ref.go:62",#[⟨7,.data⟩],none⟩) (v:=?_) rfl ?_ hHeld ?_;rotate_left 1
        . rintro W ⟨s0,⟨s1,s2⟩,⟨s3,s4⟩⟩;go_simp;try with_reducible rfl
        simp only[Act.put,zIB,zSZ,zSS];refine tkH (i:=9) (oi:=⟨some 32,.move (.tmp 7),3, "ref.go:62",#[],none⟩) (v:=?_) rfl ?_ hHeld ?_;rotate_left 1
        . rintro W ⟨s0,⟨s1,s2⟩,⟨s3,s4⟩⟩;go_simp;try with_reducible rfl
        simp only[Act.put,zIB,zSZ,zSS];refine tkH (i:=10) (oi:=⟨some 33,.indexAddr 80 (.tmp 31) (.tmp 32),0, "ref.go:62",#[⟨8,.data⟩,⟨9,.data⟩],none⟩) (v:=?_) rfl ?_ hHeld ?_;rotate_left 1
        . rintro W ⟨s0,⟨s1,s2⟩,⟨s3,s4⟩⟩;go_simp;try with_reducible rfl
        simp only[Act.put,zIB,zSZ,zSS];refine tkH (i:=11) (oi:=⟨some 34,.load 4 (.tmp 33),4, "ref.go:62",#[⟨10,.data⟩],none⟩) (v:=?_) rfl ?_ hHeld ?_;rotate_left 1
        . rintro W ⟨s0,⟨s1,s2⟩,⟨s3,s4⟩⟩;go_simp;try with_reducible rfl
        simp only[Act.put,zIB,zSZ,zSS];refine tkH (i:=12) (oi:=⟨some 35,.move (.tmp 34),4, "ref.go:62",#[⟨11,.data⟩],none⟩) (v:=?_) rfl ?_ hHeld ?_;rotate_left 1
        . rintro W ⟨s0,⟨s1,s2⟩,⟨s3,s4⟩⟩;go_simp;try with_reducible rfl
        simp only[Act.put,zIB,zSZ,zSS];refine tkH (i:=13) (oi:=⟨some 36,.move (.tmp 1),78, "ref.go:62",#[⟨12,.guard⟩],some (12,false)⟩) (v:=?_) rfl ?_ hHeld ?_;rotate_left 1
        . rintro W ⟨s0,⟨s1,s2⟩,⟨s3,s4⟩⟩;go_simp;try with_reducible rfl
        simp only[Act.put,zIB,zSZ,zSS];refine tkH (i:=14) (oi:=⟨some 37,.move (.tmp 6),3, "ref.go:62",#[⟨12,.guard⟩],some (12,false)⟩) (v:=?_) rfl ?_ hHeld ?_;rotate_left 1
        . rintro W ⟨s0,⟨s1,s2⟩,⟨s3,s4⟩⟩;go_simp;try with_reducible rfl
        simp only[Act.put,zIB,zSZ,zSS];refine tkH (i:=15) (oi:=⟨some 38,.indexAddr 78 (.tmp 36) (.tmp 37),0, "ref.go:62",#[⟨13,.data⟩,⟨14,.data⟩,⟨12,.guard⟩],some (12,false)⟩) (v:=?_) rfl ?_ hHeld ?_;rotate_left 1
        . rintro W ⟨s0,⟨s1,s2⟩,⟨s3,s4⟩⟩;go_simp;try with_reducible rfl
        simp only[Act.put,zIB,zSZ,zSS];refine tkH (i:=16) (oi:=⟨some 39,.load 80 (.tmp 38),80, "ref.go:62",#[⟨15,.data⟩,⟨12,.guard⟩],some (12,false)⟩) (v:=?_) rfl ?_ hHeld ?_;rotate_left 1
        . rintro W ⟨s0,⟨s1,s2⟩,⟨s3,s4⟩⟩;go_simp;try with_reducible rfl
        simp only[Act.put,zIB,zSZ,zSS];refine tkH (i:=17) (oi:=⟨some 40,.move (.tmp 7),3, "ref.go:62",#[⟨12,.guard⟩],some (12,false)⟩) (v:=?_) rfl ?_ hHeld ?_;rotate_left 1
        . rintro W ⟨s0,⟨s1,s2⟩,⟨s3,s4⟩⟩;go_simp;try with_reducible rfl
        simp only[Act.put,zIB,zSZ,zSS];refine tkH (i:=18) (oi:=⟨some 41,.indexAddr 80 (.tmp 39) (.tmp 40),0, "ref.go:62",#[⟨16,.data⟩,⟨17,.data⟩,⟨12,.guard⟩],some (12,false)⟩) (v:=?_) rfl ?_ hHeld ?_;rotate_left 1
        . rintro W ⟨s0,⟨s1,s2⟩,⟨s3,s4⟩⟩;go_simp;try with_reducible rfl
        simp only[Act.put,zIB,zSZ,zSS];refine tkH (i:=19) (oi:=⟨some 42,.load 4 (.tmp 41),4, "ref.go:62",#[⟨18,.data⟩,⟨12,.guard⟩],some (12,false)⟩) (v:=?_) rfl ?_ hHeld ?_;rotate_left 1
        . rintro W ⟨s0,⟨s1,s2⟩,⟨s3,s4⟩⟩;go_simp;try with_reducible rfl
        simp only[Act.put,zIB,zSZ,zSS];refine tkH (i:=20) (oi:=⟨some 43,.pick (.tmp 35) (.const (.bool true)) (.tmp 42),4, "ref.go:62",#[⟨12,.data⟩,⟨19,.data⟩],none⟩) (v:=?_) rfl ?_ hHeld ?_;rotate_left 1
        . rintro W ⟨s0,⟨s1,s2⟩,⟨s3,s4⟩⟩;go_simp;try with_reducible rfl
        simp only[Act.put,zIB,zSZ,zSS];refine tkH (i:=21) (oi:=⟨some 44,.indexAddr 80 (.tmp 26) (.tmp 27),0, "ref.go:62",#[⟨3,.data⟩,⟨4,.data⟩,⟨0,.phase⟩,⟨1,.phase⟩,⟨2,.phase⟩,⟨3,.phase⟩,⟨4,.phase⟩,⟨5,.phase⟩,⟨6,.phase⟩,⟨7,.phase⟩,⟨8,.phase⟩,⟨9,.phase⟩,⟨10,.phase⟩,⟨11,.phase⟩,⟨12,.phase⟩,⟨13,.phase⟩,⟨14,.phase⟩,⟨15,.phase⟩,⟨16,.phase⟩,⟨17,.phase⟩,⟨18,.phase⟩,⟨19,.phase⟩,⟨20,.phase⟩],none⟩) (v:=?_) rfl ?_ hHeld ?_;rotate_left 1
        . rintro W ⟨s0,⟨s1,s2⟩,⟨s3,s4⟩⟩;go_simp;try with_reducible rfl
        simp only[Act.put,zIB,zSZ,zSS];refine wpAnyH_ready (rs:=[22]) (by kernel_rfl) (by simp) ?_;refine AllReadyH.cons (o:=⟨none,.store 4 (.tmp 44) (.tmp 43),0, "ref.go:62",#[⟨21,.data⟩,⟨20,.data⟩,⟨12,.chain⟩,⟨0,.phase⟩,⟨1,.phase⟩,⟨2,.phase⟩,⟨3,.phase⟩,⟨4,.phase⟩,⟨5,.phase⟩,⟨6,.phase⟩,⟨7,.phase⟩,⟨8,.phase⟩,⟨9,.phase⟩,⟨10,.phase⟩,⟨11,.phase⟩,⟨12,.phase⟩,⟨13,.phase⟩,⟨14,.phase⟩,⟨15,.phase⟩,⟨16,.phase⟩,⟨17,.phase⟩,⟨18,.phase⟩,⟨19,.phase⟩,⟨20,.phase⟩],none⟩) rfl (fun K hK=>?_) AllReadyH.nil;go_simp;refine hK.out _ _ (HN.out _) (fun hHeld=>?_);clear hK K;refine wpAnyH_done (by kernel_rfl) ?_ _;go_wp2;go_roundw
        case rel=>exact⟨k+1,by omega,by go_num,HM9.out,HB9.out⟩
        case measure=>simp[intOf];omega
     . have hlkI:¬(k:Int)<(n:Int):=by omega
       have hkn:k=n:=by omega
       have HM9:Hid (MatO w.heap.size wy (.slice ma n mc) n gs (fillM M (i+1) 0)):=zA (HMY.out.congr HGL.out (fun i' k' _ hk'=>by rw[hkn];exact fill_row M i i' k' hk'));clear hkn;go_wp2;go_roundw
       case rel=>exact⟨i+1,by omega,by go_num,HM9.out,HBY.out⟩
       case measure=>simp[intOf];omega
  . have hltI:¬(i:Int)<(n:Int):=by omega
    have hin:i=n:=by omega
    have HM9:Hid (IsM wx (.slice ma n mc) n M):=zA ⟨gs,(HM.out.congr HGL.out (fun i' k' hi' _=>by rw[hin];exact fill_end M i' k' hi')).read HGL.out⟩;clear hin;go_wp2;go_ret;exact⟨_,rfl,HM9.out,HBQ.out⟩
def anyTo(k:Nat)(f:Nat->Bool):Bool:=(List.range k).any f
theorem any_succ(k:Nat)(f:Nat->Bool):anyTo (k+1) f=(anyTo k f||f k):=by
 unfold anyTo;rw[List.range_succ,List.any_append];simp
def bhM(n:Nat)(a b:Mt)(i k j:Nat):Mt:=fun i' j'=>if i'<i then behindM n a b i' j' else if i'=i then (anyTo k (fun z=>a i z&&b z j')||(decide (j'<j)&&(a i k&&b k j')))else false
theorem bh_start(n:Nat)(a b:Mt)(i k:Nat):noneM i k=bhM n a b 0 0 0 i k:=by
 unfold bhM;rw[if_neg (by omega)];split<;>simp[noneM,anyTo]
theorem bh_here(n:Nat)(a b:Mt)(i k j:Nat):bhM n a b i k j i j=anyTo k (fun z=>a i z&&b z j):=by
 unfold bhM;rw[if_neg (by omega),if_pos rfl];simp
theorem bh_step{n:Nat}{a b:Mt}{i k j:Nat}(h:a i k=true)(i' j':Nat):updM (bhM n a b i k j) i j (bhM n a b i k j i j||b k j) i' j'=bhM n a b i k (j+1) i' j':=by
 unfold updM;by_cases e:i'=i/\j'=j
 . rw[if_pos e,e.1,e.2,bh_here];unfold bhM;rw[if_neg (by omega),if_pos rfl,h];simp
 . rw[if_neg e];unfold bhM;by_cases e2:i'=i
   . have hj:j'≠j:=fun x=>e ⟨e2,x⟩
     have:decide (j'<j)=decide (j'<j+1):=by rw[decide_eq_decide];omega
     rw[this]
   . simp[e2]
theorem bh_next{n:Nat}{a b:Mt}{i k:Nat}(i' j':Nat)(hj:j'<n):bhM n a b i k n i' j'=bhM n a b i (k+1) 0 i' j':=by
 unfold bhM;split
 . rfl
 . split
   . rw[any_succ,zU hj];simp
   . rfl
theorem bh_skip{n:Nat}{a b:Mt}{i k:Nat}(h:a i k=false)(j i' j':Nat):bhM n a b i k j i' j'=bhM n a b i (k+1) 0 i' j':=by
 unfold bhM;split
 . rfl
 . split
   . rw[any_succ,h];simp
   . rfl
theorem bh_row{n:Nat}{a b:Mt}{i:Nat}(i' j':Nat):bhM n a b i n 0 i' j'=bhM n a b (i+1) 0 0 i' j':=by
 unfold bhM;by_cases h1:i'<i
 . rw[if_pos h1,if_pos (by omega)]
 . rw[if_neg h1];by_cases h2:i'=i
   . subst h2;rw[if_pos rfl,if_pos (by omega)];simp[anyTo,behindM]
   . rw[if_neg h2,if_neg (by omega)];split<;>simp[anyTo]
theorem bh_end{n:Nat}{a b:Mt}(i' j':Nat)(hi:i'<n):bhM n a b n 0 0 i' j'=behindM n a b i' j':=by
 unfold bhM;rw[if_pos hi]
set_option maxHeartbeats 40000000 in
theorem rBehind_any{w:World}{va vb:Value}{n:Nat}{a b:Mt}(ha:IsM w va n a)(hb:IsM w vb n b)(hn:n<=100000):
 Calls Tryz.prog 66 #[va,vb] w fun e w'=>∃v,e=.returned v/\IsM w' v n (behindM n a b)/\Below w.heap.size w w':=by
 obtain⟨M,hM⟩:∃M,M=bhM n a b:=⟨_,rfl⟩
 have HST:Hid (∀i k,noneM i k=M 0 0 0 i k):=zA (fun i k=>by rw[hM];exact bh_start n a b i k);have HSP:Hid (∀i k j,a i k=true->∀i' j',updM (M i k j) i j (M i k j i j||b k j) i' j'=M i k (j+1) i' j'):=zA (fun i k j h i' j'=>by rw[hM];exact bh_step h i' j');have HNX:Hid (∀i k i' j',j'<n->M i k n i' j'=M i (k+1) 0 i' j'):=zA (fun i k i' j' h=>by rw[hM];exact bh_next i' j' h);have HSK:Hid (∀i k j,a i k=false->∀i' j',M i k j i' j'=M i (k+1) 0 i' j'):=zA (fun i k j h i' j'=>by rw[hM];exact bh_skip h j i' j');have HRW:Hid (∀i i' j',M i n 0 i' j'=M (i+1) 0 0 i' j'):=zA (fun i i' j'=>by rw[hM];exact bh_row i' j');have HEN:Hid (∀i' j',i'<n->M n 0 0 i' j'=behindM n a b i' j'):=zA (fun i' j' h=>by rw[hM];exact bh_end i' j' h);clear hM;obtain⟨RM,hRM⟩:∃R,R=behindM n a b:=⟨_,rfl⟩
 rw[<- hRM]at HEN ⊢;obtain⟨ga,hga⟩:=ha;obtain⟨gb,hgb⟩:=hb;obtain⟨aa,ac,hva⟩:=hga.sl.slice;obtain⟨ba,bc,hvb⟩:=hgb.sl.slice;rw[hga.len]at hva;rw[hgb.len]at hvb;subst hva hvb;have HA:=zA hga;have HBm:=zA hgb;clear hga hgb hRM;go_enter Tryz.func66,Tryz.ntmps66;go_wp2_with fail;refine(rNone_any n w hn).mono ?_;rintro e w1 ⟨v,rfl,⟨gs,hgl,hm⟩,hb1⟩;obtain⟨ma,mc,hv⟩:=own_slice hm.row;rw[hgl]at hv;subst hv;have HGL:=zA hgl;have HMO:=zA (hm.congr (m':=M 0 0 0) hgl (fun i k _ _=>HST.out i k));have HB1:=zA hb1;clear hgl hm hb1;go_wp2_with fail;go_loopw [6] (fun c wr=>∃i:Nat,i<=n/\c=.int .i64 i/\MatO w.heap.size wr (.slice ma n mc) n gs (M i 0 0)/\Below w.heap.size w wr) (fun c _=>n-(intOf c).toNat)
 case atStart=>exact⟨0,zO _,rfl,HMO.out,HB1.out⟩
 case round=>
  obtain⟨i,hi,rfl,hm,hbq⟩:=hrel;have HM:=zA hm;have HBQ:=zA hbq;clear hm hbq;obtain⟨wx,hwx⟩:∃wx,wx=wr:=⟨_,rfl⟩
  subst hwx;by_cases hlt:i<n
  . have hltI:(i:Int)<(n:Int):=by omega
    go_wp2_with fail;go_loopw [7] (fun c wr=>∃k:Nat,k<=n/\c=.int .i64 k/\MatO w.heap.size wr (.slice ma n mc) n gs (M i k 0)/\Below w.heap.size w wr) (fun c _=>n-(intOf c).toNat)
    case atStart=>exact⟨0,zO _,rfl,HM.out,HBQ.out⟩
    case round=>
     obtain⟨k,hk,rfl,hm,hby⟩:=hrel;obtain⟨wy,hwy⟩:∃wy,wy=wr:=⟨_,rfl⟩
     subst hwy;have HMY:=zA hm;have HBY:=zA hby;clear hm hby;by_cases hlk:k<n
     . have hlkI:(k:Int)<(n:Int):=by omega
       obtain⟨x,hx⟩:∃x,x=a i k:=⟨_,rfl⟩
       have HXA:=zA hx;obtain⟨ab,ao,ag,haa,_,abl,a0,agl,ar⟩:=HA.out.at_ hlt;subst haa;obtain⟨a1,_⟩:=ar k hlk;rw[<- hx]at a1;have KA:Hid (∀u,Below w.heap.size w u->u.cell? ⟨ab,ao+i,none⟩=some (.slice (some ⟨ag,0,none⟩) n n)/\u.cell? ⟨ag,k,none⟩=some (.bool x)):=zA (fun u hu=>⟨(hu.cell (p:=⟨ab,ao+i,none⟩) abl).trans a0,(hu.cell (p:=⟨ag,k,none⟩) agl).trans a1⟩);clear a0 a1 ar hx;cases x with
       |false=>
        have HM9:Hid (MatO w.heap.size wy (.slice ma n mc) n gs (M i (k+1) 0)):=zA (HMY.out.congr HGL.out (fun i' k' _ _=>HSK.out i k 0 HXA.out.symm i' k'));go_wp2_with fail;go_loopw [8] (fun c wr=>c=.int .i64 0/\wr=wy) (fun _ _=>0)
        case atStart=>exact⟨rfl,rfl⟩
        case round=>
         obtain⟨rfl,hwr⟩:=hrel;subst hwr;have h0:(0:Int)<(n:Int):=by omega
         obtain⟨s0,s1⟩:=KA.out _ HBY.out;go_wp2;go_roundw
         case rel=>exact⟨k+1,by omega,by go_num,HM9.out,HBY.out⟩
         case measure=>simp[intOf];omega
       |true=>
        go_wp2_with fail;go_loopw [8] (fun c wr=>∃j:Nat,j<=n/\c=.int .i64 j/\MatO w.heap.size wr (.slice ma n mc) n gs (M i k j)/\Below w.heap.size w wr) (fun c _=>n-(intOf c).toNat)
        case atStart=>exact⟨0,zO _,rfl,HMY.out,HBY.out⟩
        case round=>
         obtain⟨j,hj,rfl,hm,hbz⟩:=hrel;obtain⟨wz,hwz⟩:∃wz,wz=wr:=⟨_,rfl⟩
         subst hwz;have HMZ:=zA hm;have HBZ:=zA hbz;clear hm hbz;obtain⟨s0,s1⟩:=KA.out _ HBZ.out;by_cases hlj:j<n
         . have hljI:(j:Int)<(n:Int):=by omega
           obtain⟨mb,mo,mg,hma,hmg,_,m0,_,mr⟩:=(HMZ.out.read HGL.out).at_ hlt;obtain⟨bb,bo,bg,hba,_,bbl,b0,bgl,br⟩:=HBm.out.at_ hlk;have hmlo:w.heap.size<=mg:=HMZ.out.lo mg (zC hmg);have hmbg:mb≠mg:=fun e=>own_neM HMZ.out.row (HMZ.out.ats i mg hmg) (by decide) (by rw[hma,e];rfl)
           subst hma hba;obtain⟨m1,m2⟩:=mr j hlj;obtain⟨b1,_⟩:=br j hlj;obtain⟨z,hz⟩:∃z,z=M i k j i j:=⟨_,rfl⟩
           obtain⟨y,hy⟩:∃y,y=b k j:=⟨_,rfl⟩
           rw[<- hz]at m1;rw[<- hy]at b1;have HMG:=zA hmg;have HZ:Hid (∀i' j',updM (M i k j) i j (z||y) i' j'=M i k (j+1) i' j'):=zA (fun i' j'=>by rw[hz,hy];exact HSP.out i k j HXA.out.symm i' j');have HS:Hid ((wz.cell? ⟨mb,mo+i,none⟩=some (.slice (some ⟨mg,0,none⟩) n n))/\(wz.cell? ⟨bb,bo+k,none⟩=some (.slice (some ⟨bg,0,none⟩) n n)/\wz.cell? ⟨bg,j,none⟩=some (.bool y))):=zA ⟨m0,(HBZ.out.cell (p:=⟨bb,bo+k,none⟩) bbl).trans b0,(HBZ.out.cell (p:=⟨bg,j,none⟩) bgl).trans b1⟩;have HN:Hid (∀v:Value,((wz.setCell ⟨mg,j,none⟩ v).drew.cell? ⟨mb,mo+i,none⟩=some (.slice (some ⟨mg,0,none⟩) n n))/\((wz.setCell ⟨mg,j,none⟩ v).drew.cell? ⟨bb,bo+k,none⟩=some (.slice (some ⟨bg,0,none⟩) n n)/\(wz.setCell ⟨mg,j,none⟩ v).drew.cell? ⟨bg,j,none⟩=some (.bool y))):=zA (fun v=>by
            obtain⟨s0,s1,s2⟩:=HS.out;exact⟨(cellM_other hmbg).trans s0,(cellM_other (by omega)).trans s1,(cellM_other (by omega)).trans s2⟩)
           clear mr br hy hz hmg m0 b0 b1;cases z with
           |true=>
            have HM9:Hid (MatO w.heap.size (wz.setCell ⟨mg,j,none⟩ (.bool true)).drew (.slice (some ⟨mb,mo,none⟩) n mc) n gs (M i k (j+1))):=zA (((HMZ.out.set HMG.out true).below (zE _ _).drew).congr HGL.out (fun i' k' _ _=>HZ.out i' k'));have HB9:Hid (Below w.heap.size w (wz.setCell ⟨mg,j,none⟩ (.bool true)).drew):=zA (HMZ.out.bel_set HMG.out HBZ.out true).drew;go_wp2_with fail;refine wp_region_held_drew (S:=fun u=>(u.cell? ⟨mb,mo+i,none⟩=some (.slice (some ⟨mg,0,none⟩) n n))/\(u.cell? ⟨bb,bo+k,none⟩=some (.slice (some ⟨bg,0,none⟩) n n)/\u.cell? ⟨bg,j,none⟩=some (.bool y))) (by kernel_rfl) ?_ (fun hHeld=>?_)
            . exact HS.out
            refine tkH (i:=0) (oi:=⟨some 39,.move (.tmp 5),78, "ref.go:74",#[],none⟩) (v:=?_) rfl ?_ hHeld ?_;rotate_left 1
            . rintro W ⟨s0,s1,s2⟩;go_simp;try with_reducible rfl
            simp only[Act.put,zIB,zSZ,zSS];refine tkH (i:=1) (oi:=⟨some 40,.move (.tmp 6),3, "ref.go:74",#[],none⟩) (v:=?_) rfl ?_ hHeld ?_;rotate_left 1
            . rintro W ⟨s0,s1,s2⟩;go_simp;try with_reducible rfl
            simp only[Act.put,zIB,zSZ,zSS];refine tkH (i:=2) (oi:=⟨some 41,.indexAddr 78 (.tmp 39) (.tmp 40),0, "ref.go:74",#[⟨0,.data⟩,⟨1,.data⟩],none⟩) (v:=?_) rfl ?_ hHeld ?_;rotate_left 1
            . rintro W ⟨s0,s1,s2⟩;go_simp;try with_reducible rfl
            simp only[Act.put,zIB,zSZ,zSS];refine tkH (i:=3) (oi:=⟨some 42,.load 80 (.tmp 41),80, "ref.go:74",#[⟨2,.data⟩],none⟩) (v:=?_) rfl ?_ hHeld ?_;rotate_left 1
            . rintro W ⟨s0,s1,s2⟩;go_simp;try with_reducible rfl
            simp only[Act.put,zIB,zSZ,zSS];refine tkH (i:=4) (oi:=⟨some 43,.move (.tmp 8),3, "ref.go:74",#[],none⟩) (v:=?_) rfl ?_ hHeld ?_;rotate_left 1
            . rintro W ⟨s0,s1,s2⟩;go_simp;try with_reducible rfl
            simp only[Act.put,zIB,zSZ,zSS];refine tkH (i:=5) (oi:=⟨some 44,.move (.tmp 5),78, "ref.go:74",#[],none⟩) (v:=?_) rfl ?_ hHeld ?_;rotate_left 1
            . rintro W ⟨s0,s1,s2⟩;go_simp;try with_reducible rfl
            simp only[Act.put,zIB,zSZ,zSS];refine tkH (i:=6) (oi:=⟨some 45,.move (.tmp 6),3, "ref.go:74",#[],none⟩) (v:=?_) rfl ?_ hHeld ?_;rotate_left 1
            . rintro W ⟨s0,s1,s2⟩;go_simp;try with_reducible rfl
            simp only[Act.put,zIB,zSZ,zSS];refine tkH (i:=7) (oi:=⟨some 46,.indexAddr 78 (.tmp 44) (.tmp 45),0, "ref.go:74",#[⟨5,.data⟩,⟨6,.data⟩],none⟩) (v:=?_) rfl ?_ hHeld ?_;rotate_left 1
            . rintro W ⟨s0,s1,s2⟩;go_simp;try with_reducible rfl
            simp only[Act.put,zIB,zSZ,zSS];refine tkH (i:=8) (oi:=⟨some 47,.load 80 (.tmp 46),80, "ref.go:74",#[⟨7,.data⟩],none⟩) (v:=?_) rfl ?_ hHeld ?_;rotate_left 1
            . rintro W ⟨s0,s1,s2⟩;go_simp;try with_reducible rfl
            simp only[Act.put,zIB,zSZ,zSS];refine tkH (i:=9) (oi:=⟨some 48,.move (.tmp 8),3, "ref.go:74",#[],none⟩) (v:=?_) rfl ?_ hHeld ?_;rotate_left 1
            . rintro W ⟨s0,s1,s2⟩;go_simp;try with_reducible rfl
            simp only[Act.put,zIB,zSZ,zSS];refine tkH (i:=10) (oi:=⟨some 49,.indexAddr 80 (.tmp 47) (.tmp 48),0, "ref.go:74",#[⟨8,.data⟩,⟨9,.data⟩],none⟩) (v:=?_) rfl ?_ hHeld ?_;rotate_left 1
            . rintro W ⟨s0,s1,s2⟩;go_simp;try with_reducible rfl
            simp only[Act.put,zIB,zSZ,zSS];refine wpAnyH_ready (rs:=[11]) (by kernel_rfl) (by simp) ?_;refine AllReadyH.cons (o:=⟨some 50,.load 4 (.tmp 49),4, "ref.go:74",#[⟨10,.data⟩],none⟩) rfl (fun K hK=>?_) AllReadyH.nil;go_simp;refine hK.out _ _ HS.out (fun hHeld=>?_);clear hK K;refine tkH (i:=12) (oi:=⟨some 51,.move (.tmp 50),4, "ref.go:74",#[⟨11,.data⟩],none⟩) (v:=?_) rfl ?_ hHeld ?_;rotate_left 1
            . rintro W ⟨s0,s1,s2⟩;go_simp;try with_reducible rfl
            simp only[Act.put,zIB,zSZ,zSS];refine wpAnyH_take (i:=13) (oi:=⟨some 52,.move (.tmp 1),78, "ref.go:74",#[⟨12,.guard⟩],some (12,false)⟩) (v:=undef) rfl (by kernel_rfl) (by kernel_rfl) (by kernel_rfl) (fun _ _ _ h=>h) (Or.inr ⟨by rfl,rfl⟩) hHeld ?_;simp only[Act.put,zIB,zSZ,zSS];refine wpAnyH_take (i:=14) (oi:=⟨some 53,.move (.tmp 7),3, "ref.go:74",#[⟨12,.guard⟩],some (12,false)⟩) (v:=undef) rfl (by kernel_rfl) (by kernel_rfl) (by kernel_rfl) (fun _ _ _ h=>h) (Or.inr ⟨by rfl,rfl⟩) hHeld ?_;simp only[Act.put,zIB,zSZ,zSS];refine wpAnyH_take (i:=15) (oi:=⟨some 54,.indexAddr 78 (.tmp 52) (.tmp 53),0, "ref.go:74",#[⟨13,.data⟩,⟨14,.data⟩,⟨12,.guard⟩],some (12,false)⟩) (v:=undef) rfl (by kernel_rfl) (by kernel_rfl) (by kernel_rfl) (fun _ _ _ h=>h) (Or.inr ⟨by rfl,rfl⟩) hHeld ?_;simp only[Act.put,zIB,zSZ,zSS];refine wpAnyH_take (i:=16) (oi:=⟨some 55,.load 80 (.tmp 54),80, "ref.go:74",#[⟨15,.data⟩,⟨12,.guard⟩],some (12,false)⟩) (v:=undef) rfl (by kernel_rfl) (by kernel_rfl) (by kernel_rfl) (fun _ _ _ h=>h) (Or.inr ⟨by rfl,rfl⟩) hHeld ?_;simp only[Act.put,zIB,zSZ,zSS];refine wpAnyH_take (i:=17) (oi:=⟨some 56,.move (.tmp 8),3, "ref.go:74",#[⟨12,.guard⟩],some (12,false)⟩) (v:=undef) rfl (by kernel_rfl) (by kernel_rfl) (by kernel_rfl) (fun _ _ _ h=>h) (Or.inr ⟨by rfl,rfl⟩) hHeld ?_;simp only[Act.put,zIB,zSZ,zSS];refine wpAnyH_take (i:=18) (oi:=⟨some 57,.indexAddr 80 (.tmp 55) (.tmp 56),0, "ref.go:74",#[⟨16,.data⟩,⟨17,.data⟩,⟨12,.guard⟩],some (12,false)⟩) (v:=undef) rfl (by kernel_rfl) (by kernel_rfl) (by kernel_rfl) (fun _ _ _ h=>h) (Or.inr ⟨by rfl,rfl⟩) hHeld ?_;simp only[Act.put,zIB,zSZ,zSS];refine wpAnyH_take (i:=19) (oi:=⟨some 58,.load 4 (.tmp 57),4, "ref.go:74",#[⟨18,.data⟩,⟨12,.guard⟩],some (12,false)⟩) (v:=undef) rfl (by kernel_rfl) (by kernel_rfl) (by kernel_rfl) (fun _ _ _ h=>h) (Or.inr ⟨by rfl,rfl⟩) hHeld ?_;simp only[Act.put,zIB,zSZ,zSS];refine tkH (i:=20) (oi:=⟨some 59,.pick (.tmp 51) (.const (.bool true)) (.tmp 58),4, "ref.go:74",#[⟨12,.data⟩,⟨19,.data⟩],none⟩) (v:=?_) rfl ?_ hHeld ?_;rotate_left 1
            . rintro W ⟨s0,s1,s2⟩;go_simp;try with_reducible rfl
            simp only[Act.put,zIB,zSZ,zSS];refine tkH (i:=21) (oi:=⟨some 60,.indexAddr 80 (.tmp 42) (.tmp 43),0, "ref.go:74",#[⟨3,.data⟩,⟨4,.data⟩,⟨0,.phase⟩,⟨1,.phase⟩,⟨2,.phase⟩,⟨3,.phase⟩,⟨4,.phase⟩,⟨5,.phase⟩,⟨6,.phase⟩,⟨7,.phase⟩,⟨8,.phase⟩,⟨9,.phase⟩,⟨10,.phase⟩,⟨11,.phase⟩,⟨12,.phase⟩,⟨13,.phase⟩,⟨14,.phase⟩,⟨15,.phase⟩,⟨16,.phase⟩,⟨17,.phase⟩,⟨18,.phase⟩,⟨19,.phase⟩,⟨20,.phase⟩],none⟩) (v:=?_) rfl ?_ hHeld ?_;rotate_left 1
            . rintro W ⟨s0,s1,s2⟩;go_simp;try with_reducible rfl
            simp only[Act.put,zIB,zSZ,zSS];refine wpAnyH_ready (rs:=[22]) (by kernel_rfl) (by simp) ?_;refine AllReadyH.cons (o:=⟨none,.store 4 (.tmp 60) (.tmp 59),0, "ref.go:74",#[⟨21,.data⟩,⟨20,.data⟩,⟨12,.chain⟩,⟨0,.phase⟩,⟨1,.phase⟩,⟨2,.phase⟩,⟨3,.phase⟩,⟨4,.phase⟩,⟨5,.phase⟩,⟨6,.phase⟩,⟨7,.phase⟩,⟨8,.phase⟩,⟨9,.phase⟩,⟨10,.phase⟩,⟨11,.phase⟩,⟨12,.phase⟩,⟨13,.phase⟩,⟨14,.phase⟩,⟨15,.phase⟩,⟨16,.phase⟩,⟨17,.phase⟩,⟨18,.phase⟩,⟨19,.phase⟩,⟨20,.phase⟩],none⟩) rfl (fun K hK=>?_) AllReadyH.nil;go_simp;refine hK.out _ _ (HN.out _) (fun hHeld=>?_);clear hK K;refine wpAnyH_done (by kernel_rfl) ?_ _;go_wp2;go_roundw
            case rel=>exact⟨j+1,by omega,by go_num,HM9.out,HB9.out⟩
            case measure=>simp[intOf];omega
           |false=>
            have HM9:Hid (MatO w.heap.size (wz.setCell ⟨mg,j,none⟩ (.bool y)).drew (.slice (some ⟨mb,mo,none⟩) n mc) n gs (M i k (j+1))):=zA (((HMZ.out.set HMG.out y).below (zE _ _).drew).congr HGL.out (fun i' k' _ _=>HZ.out i' k'));have HB9:Hid (Below w.heap.size w (wz.setCell ⟨mg,j,none⟩ (.bool y)).drew):=zA (HMZ.out.bel_set HMG.out HBZ.out y).drew;go_wp2_with fail;refine wp_region_held_drew (S:=fun u=>(u.cell? ⟨mb,mo+i,none⟩=some (.slice (some ⟨mg,0,none⟩) n n))/\(u.cell? ⟨bb,bo+k,none⟩=some (.slice (some ⟨bg,0,none⟩) n n)/\u.cell? ⟨bg,j,none⟩=some (.bool y))) (by kernel_rfl) ?_ (fun hHeld=>?_)
            . exact HS.out
            refine tkH (i:=0) (oi:=⟨some 39,.move (.tmp 5),78, "ref.go:74",#[],none⟩) (v:=?_) rfl ?_ hHeld ?_;rotate_left 1
            . rintro W ⟨s0,s1,s2⟩;go_simp;try with_reducible rfl
            simp only[Act.put,zIB,zSZ,zSS];refine tkH (i:=1) (oi:=⟨some 40,.move (.tmp 6),3, "ref.go:74",#[],none⟩) (v:=?_) rfl ?_ hHeld ?_;rotate_left 1
            . rintro W ⟨s0,s1,s2⟩;go_simp;try with_reducible rfl
            simp only[Act.put,zIB,zSZ,zSS];refine tkH (i:=2) (oi:=⟨some 41,.indexAddr 78 (.tmp 39) (.tmp 40),0, "ref.go:74",#[⟨0,.data⟩,⟨1,.data⟩],none⟩) (v:=?_) rfl ?_ hHeld ?_;rotate_left 1
            . rintro W ⟨s0,s1,s2⟩;go_simp;try with_reducible rfl
            simp only[Act.put,zIB,zSZ,zSS];refine tkH (i:=3) (oi:=⟨some 42,.load 80 (.tmp 41),80, "ref.go:74",#[⟨2,.data⟩],none⟩) (v:=?_) rfl ?_ hHeld ?_;rotate_left 1
            . rintro W ⟨s0,s1,s2⟩;go_simp;try with_reducible rfl
            simp only[Act.put,zIB,zSZ,zSS];refine tkH (i:=4) (oi:=⟨some 43,.move (.tmp 8),3, "ref.go:74",#[],none⟩) (v:=?_) rfl ?_ hHeld ?_;rotate_left 1
            . rintro W ⟨s0,s1,s2⟩;go_simp;try with_reducible rfl
            simp only[Act.put,zIB,zSZ,zSS];refine tkH (i:=5) (oi:=⟨some 44,.move (.tmp 5),78, "ref.go:74",#[],none⟩) (v:=?_) rfl ?_ hHeld ?_;rotate_left 1
            . rintro W ⟨s0,s1,s2⟩;go_simp;try with_reducible rfl
            simp only[Act.put,zIB,zSZ,zSS];refine tkH (i:=6) (oi:=⟨some 45,.move (.tmp 6),3, "ref.go:74",#[],none⟩) (v:=?_) rfl ?_ hHeld ?_;rotate_left 1
            . rintro W ⟨s0,s1,s2⟩;go_simp;try with_reducible rfl
            simp only[Act.put,zIB,zSZ,zSS];refine tkH (i:=7) (oi:=⟨some 46,.indexAddr 78 (.tmp 44) (.tmp 45),0, "ref.go:74",#[⟨5,.data⟩,⟨6,.data⟩],none⟩) (v:=?_) rfl ?_ hHeld ?_;rotate_left 1
            . rintro W ⟨s0,s1,s2⟩;go_simp;try with_reducible rfl
            simp only[Act.put,zIB,zSZ,zSS];refine tkH (i:=8) (oi:=⟨some 47,.load 80 (.tmp 46),80, "ref.go:74",#[⟨7,.data⟩],none⟩) (v:=?_) rfl ?_ hHeld ?_;rotate_left 1
            . rintro W ⟨s0,s1,s2⟩;go_simp;try with_reducible rfl
            simp only[Act.put,zIB,zSZ,zSS];refine tkH (i:=9) (oi:=⟨some 48,.move (.tmp 8),3, "ref.go:74",#[],none⟩) (v:=?_) rfl ?_ hHeld ?_;rotate_left 1
            . rintro W ⟨s0,s1,s2⟩;go_simp;try with_reducible rfl
            simp only[Act.put,zIB,zSZ,zSS];refine tkH (i:=10) (oi:=⟨some 49,.indexAddr 80 (.tmp 47) (.tmp 48),0, "ref.go:74",#[⟨8,.data⟩,⟨9,.data⟩],none⟩) (v:=?_) rfl ?_ hHeld ?_;rotate_left 1
            . rintro W ⟨s0,s1,s2⟩;go_simp;try with_reducible rfl
            simp only[Act.put,zIB,zSZ,zSS];refine wpAnyH_ready (rs:=[11]) (by kernel_rfl) (by simp) ?_;refine AllReadyH.cons (o:=⟨some 50,.load 4 (.tmp 49),4, "ref.go:74",#[⟨10,.data⟩],none⟩) rfl (fun K hK=>?_) AllReadyH.nil;go_simp;refine hK.out _ _ HS.out (fun hHeld=>?_);clear hK K;refine tkH (i:=12) (oi:=⟨some 51,.move (.tmp 50),4, "ref.go:74",#[⟨11,.data⟩],none⟩) (v:=?_) rfl ?_ hHeld ?_;rotate_left 1
            . rintro W ⟨s0,s1,s2⟩;go_simp;try with_reducible rfl
            simp only[Act.put,zIB,zSZ,zSS];refine tkH (i:=13) (oi:=⟨some 52,.move (.tmp 1),78, "ref.go:74",#[⟨12,.guard⟩],some (12,false)⟩) (v:=?_) rfl ?_ hHeld ?_;rotate_left 1
            . rintro W ⟨s0,s1,s2⟩;go_simp;try with_reducible rfl
            simp only[Act.put,zIB,zSZ,zSS];refine tkH (i:=14) (oi:=⟨some 53,.move (.tmp 7),3, "ref.go:74",#[⟨12,.guard⟩],some (12,false)⟩) (v:=?_) rfl ?_ hHeld ?_;rotate_left 1
            . rintro W ⟨s0,s1,s2⟩;go_simp;try with_reducible rfl
            simp only[Act.put,zIB,zSZ,zSS];refine tkH (i:=15) (oi:=⟨some 54,.indexAddr 78 (.tmp 52) (.tmp 53),0, "ref.go:74",#[⟨13,.data⟩,⟨14,.data⟩,⟨12,.guard⟩],some (12,false)⟩) (v:=?_) rfl ?_ hHeld ?_;rotate_left 1
            . rintro W ⟨s0,s1,s2⟩;go_simp;try with_reducible rfl
            simp only[Act.put,zIB,zSZ,zSS];refine tkH (i:=16) (oi:=⟨some 55,.load 80 (.tmp 54),80, "ref.go:74",#[⟨15,.data⟩,⟨12,.guard⟩],some (12,false)⟩) (v:=?_) rfl ?_ hHeld ?_;rotate_left 1
            . rintro W ⟨s0,s1,s2⟩;go_simp;try with_reducible rfl
            simp only[Act.put,zIB,zSZ,zSS];refine tkH (i:=17) (oi:=⟨some 56,.move (.tmp 8),3, "ref.go:74",#[⟨12,.guard⟩],some (12,false)⟩) (v:=?_) rfl ?_ hHeld ?_;rotate_left 1
            . rintro W ⟨s0,s1,s2⟩;go_simp;try with_reducible rfl
            simp only[Act.put,zIB,zSZ,zSS];refine tkH (i:=18) (oi:=⟨some 57,.indexAddr 80 (.tmp 55) (.tmp 56),0, "ref.go:74",#[⟨16,.data⟩,⟨17,.data⟩,⟨12,.guard⟩],some (12,false)⟩) (v:=?_) rfl ?_ hHeld ?_;rotate_left 1
            . rintro W ⟨s0,s1,s2⟩;go_simp;try with_reducible rfl
            simp only[Act.put,zIB,zSZ,zSS];refine tkH (i:=19) (oi:=⟨some 58,.load 4 (.tmp 57),4, "ref.go:74",#[⟨18,.data⟩,⟨12,.guard⟩],some (12,false)⟩) (v:=?_) rfl ?_ hHeld ?_;rotate_left 1
            . rintro W ⟨s0,s1,s2⟩;go_simp;try with_reducible rfl
            simp only[Act.put,zIB,zSZ,zSS];refine tkH (i:=20) (oi:=⟨some 59,.pick (.tmp 51) (.const (.bool true)) (.tmp 58),4, "ref.go:74",#[⟨12,.data⟩,⟨19,.data⟩],none⟩) (v:=?_) rfl ?_ hHeld ?_;rotate_left 1
            . rintro W ⟨s0,s1,s2⟩;go_simp;try with_reducible rfl
            simp only[Act.put,zIB,zSZ,zSS];refine tkH (i:=21) (oi:=⟨some 60,.indexAddr 80 (.tmp 42) (.tmp 43),0, "ref.go:74",#[⟨3,.data⟩,⟨4,.data⟩,⟨0,.phase⟩,⟨1,.phase⟩,⟨2,.phase⟩,⟨3,.phase⟩,⟨4,.phase⟩,⟨5,.phase⟩,⟨6,.phase⟩,⟨7,.phase⟩,⟨8,.phase⟩,⟨9,.phase⟩,⟨10,.phase⟩,⟨11,.phase⟩,⟨12,.phase⟩,⟨13,.phase⟩,⟨14,.phase⟩,⟨15,.phase⟩,⟨16,.phase⟩,⟨17,.phase⟩,⟨18,.phase⟩,⟨19,.phase⟩,⟨20,.phase⟩],none⟩) (v:=?_) rfl ?_ hHeld ?_;rotate_left 1
            . rintro W ⟨s0,s1,s2⟩;go_simp;try with_reducible rfl
            simp only[Act.put,zIB,zSZ,zSS];refine wpAnyH_ready (rs:=[22]) (by kernel_rfl) (by simp) ?_;refine AllReadyH.cons (o:=⟨none,.store 4 (.tmp 60) (.tmp 59),0, "ref.go:74",#[⟨21,.data⟩,⟨20,.data⟩,⟨12,.chain⟩,⟨0,.phase⟩,⟨1,.phase⟩,⟨2,.phase⟩,⟨3,.phase⟩,⟨4,.phase⟩,⟨5,.phase⟩,⟨6,.phase⟩,⟨7,.phase⟩,⟨8,.phase⟩,⟨9,.phase⟩,⟨10,.phase⟩,⟨11,.phase⟩,⟨12,.phase⟩,⟨13,.phase⟩,⟨14,.phase⟩,⟨15,.phase⟩,⟨16,.phase⟩,⟨17,.phase⟩,⟨18,.phase⟩,⟨19,.phase⟩,⟨20,.phase⟩],none⟩) rfl (fun K hK=>?_) AllReadyH.nil;go_simp;refine hK.out _ _ (HN.out _) (fun hHeld=>?_);clear hK K;refine wpAnyH_done (by kernel_rfl) ?_ _;go_wp2;go_roundw
            case rel=>exact⟨j+1,by omega,by go_num,HM9.out,HB9.out⟩
            case measure=>simp[intOf];omega
         . have hljI:¬(j:Int)<(n:Int):=by omega
           have hdj:decide ((j:Int)<(n:Int))=false:=decide_eq_false hljI;have hjn:j=n:=by omega
           have HM9:Hid (MatO w.heap.size wz (.slice ma n mc) n gs (M i (k+1) 0)):=zA (HMZ.out.congr HGL.out (fun i' k' _ hk'=>by rw[hjn];exact HNX.out i k i' k' hk'));clear hjn;go_wp2;go_roundw
           case rel=>exact⟨k+1,by omega,by go_num,HM9.out,HBZ.out⟩
           case measure=>simp[intOf];omega
     . have hlkI:¬(k:Int)<(n:Int):=by omega
       have hkn:k=n:=by omega
       have HM9:Hid (MatO w.heap.size wy (.slice ma n mc) n gs (M (i+1) 0 0)):=zA (HMY.out.congr HGL.out (fun i' k' _ _=>by rw[hkn];exact HRW.out i i' k'));clear hkn;go_wp2;go_roundw
       case rel=>exact⟨i+1,by omega,by go_num,HM9.out,HBY.out⟩
       case measure=>simp[intOf];omega
  . have hltI:¬(i:Int)<(n:Int):=by omega
    have hin:i=n:=by omega
    have HM9:Hid (IsM wx (.slice ma n mc) n RM):=zA ⟨gs,(HM.out.congr HGL.out (fun i' k' hi' _=>by rw[hin];exact HEN.out i' k' hi')).read HGL.out⟩;clear hin;go_wp2;go_ret;exact⟨_,rfl,HM9.out,HBQ.out⟩
def dgM(i:Nat):Mt:=fun i' k'=>decide (i'<i)&&decide (i'=k')
set_option maxHeartbeats 4000000 in
theorem rSameM_any(n:Nat)(w:World)(hn:n<=100000):
 Calls Tryz.prog 65 #[.int .i64 (n:Int)] w fun e w'=>∃v,e=.returned v/\IsM w' v n sameM/\Below w.heap.size w w':=by
 go_enter Tryz.func65,Tryz.ntmps65;go_wp2_with fail;refine(rNone_any n w hn).mono ?_;rintro e w1 ⟨v,rfl,⟨gs,hgl,hm⟩,hb1⟩;obtain⟨ma,mc,hv⟩:=own_slice hm.row;rw[hgl]at hv;subst hv;have HGL:=zA hgl;have HMO:=zA (hm.congr (m':=dgM 0) hgl (fun i k _ _=>by simp[dgM,noneM]));have HB1:=zA hb1;clear hgl hm hb1;go_wp2_with fail;go_loopw [4] (fun c wr=>∃i:Nat,i<=n/\c=.int .i64 i/\MatO w.heap.size wr (.slice ma n mc) n gs (dgM i)/\Below w.heap.size w wr) (fun c _=>n-(intOf c).toNat)
 case atStart=>exact⟨0,zO _,rfl,HMO.out,HB1.out⟩
 case round=>
  obtain⟨i,hi,rfl,hm,hbq⟩:=hrel;have HM:=zA hm;have HBQ:=zA hbq;clear hm hbq;obtain⟨wx,hwx⟩:∃wx,wx=wr:=⟨_,rfl⟩
  subst hwx;by_cases hlt:i<n
  . have hltI:(i:Int)<(n:Int):=by omega
    obtain⟨mb,mo,mg,hma,hmg,_,m0,_,mr⟩:=(HM.out.read HGL.out).at_ hlt;subst hma;obtain⟨m1,m2⟩:=mr i hlt;have HM9:Hid (MatO w.heap.size (wx.setCell ⟨mg,i,none⟩ (.bool true)) (.slice (some ⟨mb,mo,none⟩) n mc) n gs (dgM (i+1))):=zA ((HM.out.set hmg true).congr HGL.out (fun i' k' _ _=>by
     unfold updM dgM;by_cases e:i'=i/\k'=i
     . rw[if_pos e,e.1,e.2];simp
     . rw[if_neg e];by_cases e2:i'=i
       . have:¬i'=k':=fun x=>e ⟨e2,by omega⟩
         simp[this]
       . have:decide (i'<i)=decide (i'<i+1):=by rw[decide_eq_decide];omega
         rw[this]))
    have HB9:Hid (Below w.heap.size w (wx.setCell ⟨mg,i,none⟩ (.bool true))):=zA (HM.out.bel_set hmg HBQ.out true);clear mr hmg;go_wp2;go_roundw
    case rel=>exact⟨i+1,by omega,by go_num,HM9.out,HB9.out⟩
    case measure=>simp[intOf];omega
  . have hltI:¬(i:Int)<(n:Int):=by omega
    have hin:i=n:=by omega
    have HM9:Hid (IsM wx (.slice ma n mc) n sameM):=zA ⟨gs,(HM.out.congr HGL.out (fun i' k' hi' _=>by
     unfold dgM sameM;rw[hin,zU hi',Bool.true_and])).read HGL.out⟩
    clear hin;go_wp2;go_ret;exact⟨_,rfl,HM9.out,HBQ.out⟩
set_option maxHeartbeats 4000000 in
theorem rOften_any{w:World}{va:Value}{n:Nat}{a:Mt}(ha:IsM w va n a)(hn:n<=100000):
 Calls Tryz.prog 68 #[va] w fun e w'=>∃v,e=.returned v/\IsM w' v n (oftenM n a)/\Below w.heap.size w w':=by
 have HA:=zA ha;obtain⟨ga,hga⟩:=ha;obtain⟨aa,ac,hva⟩:=hga.sl.slice;rw[hga.len]at hva;subst hva;obtain⟨R,hR⟩:∃R,R=oftenM n a:=⟨_,rfl⟩
 rw[<- hR];have HR:=zA hR;clear hga hR;go_enter Tryz.func68,Tryz.ntmps68;go_wp2_with fail;go_loopw [3,4] (fun vl c wr=>∃(i:Nat) (u:Value),u=vl/\i<=n/\c=.int .i64 i/\IsM wr u n (oftM n a i)/\Below w.heap.size w wr) (fun _ c _=>n-(intOf c).toNat)
 case atStart=>exact⟨0,_,rfl,zO _,rfl,HA.out,zE _ _⟩
 case round=>
  obtain⟨i,u,rfl,hi,rfl,hm,hbq⟩:=hrel;have HM:=zA hm;have HBQ:=zA hbq;clear hm hbq;by_cases hlt:i<n
  . have hltI:(i:Int)<(n:Int):=by omega
    go_wp2_with fail;refine(rBehind_any HM.out (HA.out.below HBQ.out) hn).mono ?_;rintro e w3 ⟨v3,rfl,hm3,hb3⟩;have HM3:=zA hm3;have HU3:=zA (HM.out.below hb3);have HB3:=zA (HBQ.out.trans (hb3.mono HBQ.out.size));clear hm3 hb3;go_wp2_with fail;refine(rEither_any HU3.out HM3.out hn).mono ?_;rintro e w4 ⟨v4,rfl,hm4,hb4⟩;have HM4:=zA hm4;have HB4:=zA (HB3.out.trans (hb4.mono HB3.out.size));clear hm4 hb4;go_wp2;go_roundw
    case rel=>exact⟨i+1,_,rfl,by omega,by go_num,HM4.out,HB4.out⟩
    case measure=>simp[intOf];omega
  . have hltI:¬(i:Int)<(n:Int):=by omega
    have HT:Hid (R=oftM n a i):=zA (by rw[HR.out,oftenM,show i=n by omega]);go_wp2;go_ret;exact⟨_,rfl,by rw[HT.out];exact HM.out,HBQ.out⟩
def LeadC(fs:List Fa)(V:List Wd)(x:Vt):Prop:=∀(w:World) (vf vl:Value),FasS (fun _=>True) w vf fs->TxtS (fun _=>True) w vl V->VOk (fun _=>True) w x->Calls Tryz.prog 36 #[vf,vl,encN x] w fun e w'=>∃v,e=.returned v/\IsM w' v V.length (leadsM fs V x.pt)/\Below w.heap.size w w'
theorem formed_casesM{k:Int}{w:List UInt8}{n:Nat}(h:formedP k w n=true):(k=1/\n=0/\isW w=true)\/(k=2/\2<=n)\/(k=3/\2<=n)\/(k=4/\n=1)\/(k=5/\n=1)\/(k=6/\n=1):=by
 unfold formedP at h;split at h
 . simp at h;rename_i hk;exact .inl ⟨hk,h.1,h.2⟩
 . split at h
   . rename_i hk;simp at h;rcases hk with hk|hk
     . exact .inr (.inl ⟨hk,h.1⟩)
     . exact .inr (.inr (.inl ⟨hk,h.1⟩))
   . split at h
     . rename_i hk;simp at h;rcases hk with hk|hk|hk
       . exact .inr (.inr (.inr (.inl ⟨hk,h.1⟩)))
       . exact .inr (.inr (.inr (.inr (.inl ⟨hk,h.1⟩))))
       . exact .inr (.inr (.inr (.inr (.inr ⟨hk,h.1⟩))))
     . cases h
theorem word_step{fs:List Fa}{V:List Wd}(hV:RiseL less V){wd f1 f3:Wd}{i pi pk:Nat}(hx:fs[i]?=some (f1,wd,f3))(h1:V[pi]?=some f1)(h2:V[pk]?=some f3)(i' k':Nat):updM (wordM (fs.take i) V wd) pi pk true i' k'=wordM (fs.take (i+1)) V wd i' k':=by
 unfold wordM updM;rw[zS,hx];simp only[yR,List.any_append,List.any_cons,List.any_nil,Bool.or_false];have e1:decide (V[i']?=some f1)=decide (i'=pi):=by
  rw[decide_eq_decide];exact⟨fun h=>hV.once ordW h h1,fun h=>h▸h1⟩
 have e2:decide (V[k']?=some f3)=decide (k'=pk):=by
  rw[decide_eq_decide];exact⟨fun h=>hV.once ordW h h2,fun h=>h▸h2⟩
 rw[e1,e2];by_cases e:i'=pi/\k'=pk
 . rw[if_pos e,e.1,e.2];simp
 . rw[if_neg e];have:(decide (i'=pi)&&decide (k'=pk))=false:=by
    rw[<- Bool.decide_and];exact decide_eq_false e
   simp only[decide_true,Bool.true_and,this,Bool.or_false]
theorem word_skip{fs:List Fa}{V:List Wd}{wd f1 f2 f3:Wd}{i:Nat}(hx:fs[i]?=some (f1,f2,f3))(hne:¬f2=wd)(i' k':Nat):wordM (fs.take i) V wd i' k'=wordM (fs.take (i+1)) V wd i' k':=by
 unfold wordM;rw[zS,hx];simp[hne]
theorem place_vert{V:List Wd}(hV:RiseL less V){s:Wd}(h:s∈V):∃i:Nat,V[i]?=some s/\i<V.length/\placeL V s=(i:Int):=by
 obtain⟨i,hi⟩:=List.getElem?_of_mem h;refine⟨i,hi,(zF.1 hi).1,place_some hi (fun j hj hj2=>?_)⟩;have:=hV.once ordW hi hj2;omega
set_option maxHeartbeats 40000000 in
theorem rLead_word{fs:List Fa}{V:List Wd}(hV:V=vertsL fs)(hlf:fs.length<=100000)(hlv:V.length<=100000){wd:Wd}{v:Value}{l:List Vt}:LeadC fs V ⟨1,wd,v,l⟩:=by
 intro w vf vl hf hl hok;obtain⟨R,hR⟩:∃R,R=leadsM fs V (Vt.pt ⟨1,wd,v,l⟩):=⟨_,rfl⟩
 rw[<- hR];have HR:Hid (R=wordM fs V wd):=zA (by rw[hR,Vt.pt_mk,leadsM_mk];rfl);clear hR;have hok2:=hok.parts;obtain⟨ka,kc,hv⟩:=hok2.1.slice;dsimp only at hok2 hv;subst hv;have HK:=zA hok2;obtain⟨fa,fc,hvf⟩:=hf.slice;obtain⟨la,lc,hvl⟩:=hl.slice;subst hvf hvl;have HF:=zA hf;have HLs:=zA hl;obtain⟨nf,hnf⟩:∃n,n=fs.length:=⟨_,rfl⟩
 obtain⟨n,hn⟩:∃n,n=V.length:=⟨_,rfl⟩
 rw[<- hnf]at HF hlf ⊢;rw[<- hn]at HLs hlv ⊢;try rw[<- hn]at HR
 have HNF:=zA hnf;have HN:=zA hn;clear hok hok2 hf hl hnf hn;have HVR:Hid (RiseL less V):=zA (by rw[hV];exact verts_rise fs);have HVM:Hid (∀i f1 f2 f3,fs[i]?=some (f1,f2,f3)->f1∈V/\f3∈V):=zA (fun i f1 f2 f3 h=>by
  rw[hV];exact⟨mem_verts.2 ⟨_,zC h,.inl rfl⟩,mem_verts.2 ⟨_,zC h,.inr rfl⟩⟩)
 clear hV;obtain⟨kn,hkn⟩:∃n,n=l.length:=⟨_,rfl⟩
 rw[<- hkn];clear hkn HK;obtain⟨o,ho⟩:∃o,o=Obj.cells #[.int .i64 1,.string ⟨wd.toArray⟩,.slice ka kn kc] 25:=⟨_,rfl⟩
 have HOB:=zA ho;have HC:Hid (∀wr,Below (w.alloc o).heap.size (w.alloc o) wr->wr.cell? ⟨w.heap.size,0,none⟩=some (.int .i64 1)/\wr.cell? ⟨w.heap.size,1,none⟩=some (.string ⟨wd.toArray⟩)/\wr.cell? ⟨w.heap.size,2,none⟩=some (.slice ka kn kc)):=zA (fun wr hb=>by
  have h:=box_keptQ hb;rw[HOB.out]at h;simp[World.cell?,h])
 have HB0:Hid (Below (w.alloc o).heap.size (w.alloc o) (w.alloc (.cells #[.int .i64 1,.string ⟨wd.toArray⟩,.slice ka kn kc] 25))):=zA (by rw[HOB.out];exact zE _ _);clear ho;go_enter Tryz.func36,Tryz.ntmps36;go_wp2_with fail;refine(rNone_any n _ hlv).mono ?_;rintro e w1 ⟨v,rfl,⟨gs,hgl,hm⟩,hb1⟩;obtain⟨ma,mc,hv⟩:=own_slice hm.row;rw[hgl]at hv;subst hv;obtain⟨B,hB⟩:∃B,B=(w.alloc (.cells #[.int .i64 1,.string ⟨wd.toArray⟩,.slice ka kn kc] 25)).heap.size:=⟨_,rfl⟩
 rw[<- hB]at hm;have hBw:w.heap.size<B:=by rw[hB];simp
 have HB':Hid (B=(w.alloc o).heap.size):=zA (by rw[hB];simp);have HGL:=zA hgl;have HMO:=zA (hm.congr (m':=wordM (fs.take 0) V wd) hgl (fun i k _ _=>by simp[noneM,wordM]));have HB1:=zA (HB0.out.trans (hb1.mono (by rw[HOB.out];exact zD _)));clear hgl hm hb1 hB;go_wp2_with fail;go_loopw [9] (fun c wr=>∃i:Nat,i<=nf/\c=.int .i64 i/\MatO B wr (.slice ma n mc) n gs (wordM (fs.take i) V wd)/\Below (w.alloc o).heap.size (w.alloc o) wr) (fun c _=>nf-(intOf c).toNat)
 case atStart=>exact⟨0,zO _,rfl,HMO.out,HB1.out⟩
 case round=>
  obtain⟨i,hi,rfl,hm,hbq⟩:=hrel;have HM:=zA hm;have HBQ:=zA hbq;clear hm hbq;obtain⟨wx,hwx⟩:∃wx,wx=wr:=⟨_,rfl⟩
  subst hwx;by_cases hlt:i<nf
  . have hltI:(i:Int)<(nf:Int):=by omega
    obtain⟨⟨f1,f2,f3⟩,hx⟩:∃x,fs[i]?=some x:=⟨_,zB (by rw[<- HNF.out];exact hlt)⟩
    obtain⟨g,off,hla,_,hgl,hcell⟩:=HF.out.get hx;subst hla;obtain⟨q0,q1,q2⟩:=getF hcell;have KF:Hid (∀u,Below w.heap.size w u->u.cell? ⟨g,off+i*3,none⟩=some (.string ⟨f1.toArray⟩)/\u.cell? ⟨g,off+i*3+1,none⟩=some (.string ⟨f2.toArray⟩)/\u.cell? ⟨g,off+i*3+2,none⟩=some (.string ⟨f3.toArray⟩)):=zA (fun u hu=>⟨(hu.cell (p:=⟨g,off+i*3,none⟩) hgl).trans q0,(hu.cell (p:=⟨g,off+i*3+1,none⟩) hgl).trans q1,(hu.cell (p:=⟨g,off+i*3+2,none⟩) hgl).trans q2⟩);have HX:=zA hx;have HGX:Hid (g<w.heap.size):=zA hgl;clear hx hcell q0 q1 q2 hgl;obtain⟨q0,q1,q2⟩:=KF.out _ (below_boxQ HBQ.out);obtain⟨c0,c1,c2⟩:=HC.out _ HBQ.out;by_cases exs:f2=wd
    . obtain⟨pi,p1,p2,p3⟩:=place_vert HVR.out (HVM.out i f1 f2 f3 HX.out).1;obtain⟨pk,r1,r2,r3⟩:=place_vert HVR.out (HVM.out i f1 f2 f3 HX.out).2;rw[<- HN.out]at p2 r2;have CP1:Hid (∀u,Below (w.alloc o).heap.size (w.alloc o) u->Calls Tryz.prog 44 #[.slice la n lc,.string ⟨f1.toArray⟩] u fun e w'=>e=.returned (.int .i64 (pi:Int))/\w'=u):=zA (fun u hu=>by rw[<- p3];exact rPlace_any (HLs.out.below (below_boxQ hu)) (by rw[<- HN.out];omega) f1);have CP2:Hid (∀u,Below (w.alloc o).heap.size (w.alloc o) u->Calls Tryz.prog 44 #[.slice la n lc,.string ⟨f3.toArray⟩] u fun e w'=>e=.returned (.int .i64 (pk:Int))/\w'=u):=zA (fun u hu=>by rw[<- r3];exact rPlace_any (HLs.out.below (below_boxQ hu)) (by rw[<- HN.out];omega) f3);have HST:Hid (∀i' k',updM (wordM (fs.take i) V wd) pi pk true i' k'=wordM (fs.take (i+1)) V wd i' k'):=zA (word_step HVR.out (by rw[HX.out,exs]) p1 r1);have hpI:(pi:Int)<(n:Int):=by omega
      have hrI:(pk:Int)<(n:Int):=by omega
      clear p1 p3 r1 r3;subst exs;go_wp2_with fail;go_quiet (fail);obtain⟨wy,hwy⟩:∃wy,wy=wx.drewN nq:=⟨_,rfl⟩
      rw[<- hwy];have HBY:Hid (Below (w.alloc o).heap.size (w.alloc o) wy):=zA (by rw[hwy];exact below_drewN HBQ.out nq);have HMY:Hid (MatO B wy (.slice ma n mc) n gs (wordM (fs.take i) V f2)):=zA (by rw[hwy];exact HM.out.below (below_drewN (zE _ _) nq));clear hwy q0 q1 q2 c0 c1 c2;obtain⟨q0,q1,q2⟩:=KF.out _ (below_boxQ HBY.out);obtain⟨mb,mo,mg,hma,hmg,_,m0,_,mr⟩:=(HMY.out.read HGL.out).at_ p2;have hmlo:B<=mg:=HMY.out.lo mg (zC hmg);have hmbg:mb≠mg:=fun e=>own_neM HMY.out.row (HMY.out.ats pi mg hmg) (by decide) (by rw[hma,e];rfl)
      subst hma;obtain⟨m1,m2⟩:=mr pk r2;have HMG:=zA hmg;have HS:Hid ((wy.cell? ⟨mb,mo+pi,none⟩=some (.slice (some ⟨mg,0,none⟩) n n))/\(wy.cell? ⟨g,off+i*3,none⟩=some (.string ⟨f1.toArray⟩)/\wy.cell? ⟨g,off+i*3+2,none⟩=some (.string ⟨f3.toArray⟩))):=zA ⟨m0,q0,q2⟩;have HNS:Hid (∀v:Value,((wy.setCell ⟨mg,pk,none⟩ v).drew.cell? ⟨mb,mo+pi,none⟩=some (.slice (some ⟨mg,0,none⟩) n n))/\((wy.setCell ⟨mg,pk,none⟩ v).drew.cell? ⟨g,off+i*3,none⟩=some (.string ⟨f1.toArray⟩)/\(wy.setCell ⟨mg,pk,none⟩ v).drew.cell? ⟨g,off+i*3+2,none⟩=some (.string ⟨f3.toArray⟩))):=zA (fun v=>by
       obtain⟨s0,s1,s2⟩:=HS.out;have:=HGX.out;exact⟨(cellM_other hmbg).trans s0,(cellM_other (by omega)).trans s1,(cellM_other (by omega)).trans s2⟩)
      have HD:Hid (Below (w.alloc o).heap.size (w.alloc o) wy.drew):=zA HBY.out.drew;have HM9:Hid (MatO B (wy.setCell ⟨mg,pk,none⟩ (.bool true)).drew (.slice (some ⟨mb,mo,none⟩) n mc) n gs (wordM (fs.take (i+1)) V f2)):=zA (((HMY.out.set HMG.out true).below (zE _ _).drew).congr HGL.out (fun i' k' _ _=>HST.out i' k'));have HB9:Hid (Below (w.alloc o).heap.size (w.alloc o) (wy.setCell ⟨mg,pk,none⟩ (.bool true)).drew):=zA (HBY.out.setCell (p:=⟨mg,pk,none⟩) (by rw[<- HB'.out];exact hmlo) _).drew;clear mr hmg m0 q0 q1 q2;go_wp2_with fail;refine wp_region_held_drew (S:=fun u=>(u.cell? ⟨mb,mo+pi,none⟩=some (.slice (some ⟨mg,0,none⟩) n n))/\(u.cell? ⟨g,off+i*3,none⟩=some (.string ⟨f1.toArray⟩)/\u.cell? ⟨g,off+i*3+2,none⟩=some (.string ⟨f3.toArray⟩))) (by kernel_rfl) ?_ (fun hHeld=>?_)
      . exact HS.out
      refine tkH (i:=0) (oi:=⟨some 37,.move (.tmp 8),78, "ref.go:107",#[],none⟩) (v:=?_) rfl ?_ hHeld ?_;rotate_left 1
      . rintro W ⟨s0,s1,s2⟩;go_simp;try with_reducible rfl
      simp only[Act.put,zIB,zSZ,zSS];refine tkH (i:=1) (oi:=⟨some 38,.move (.tmp 1),34, "ref.go:107",#[],none⟩) (v:=?_) rfl ?_ hHeld ?_;rotate_left 1
      . rintro W ⟨s0,s1,s2⟩;go_simp;try with_reducible rfl
      simp only[Act.put,zIB,zSZ,zSS];refine tkH (i:=2) (oi:=⟨some 39,.move (.tmp 0),22, "ref.go:107",#[],none⟩) (v:=?_) rfl ?_ hHeld ?_;rotate_left 1
      . rintro W ⟨s0,s1,s2⟩;go_simp;try with_reducible rfl
      simp only[Act.put,zIB,zSZ,zSS];refine tkH (i:=3) (oi:=⟨some 40,.move (.tmp 9),3, "ref.go:107",#[],none⟩) (v:=?_) rfl ?_ hHeld ?_;rotate_left 1
      . rintro W ⟨s0,s1,s2⟩;go_simp;try with_reducible rfl
      simp only[Act.put,zIB,zSZ,zSS];refine tkH (i:=4) (oi:=⟨some 41,.indexAddr 22 (.tmp 39) (.tmp 40),0, "ref.go:107",#[⟨2,.data⟩,⟨3,.data⟩],none⟩) (v:=?_) rfl ?_ hHeld ?_;rotate_left 1
      . rintro W ⟨s0,s1,s2⟩;go_simp;try with_reducible rfl
      simp only[Act.put,zIB,zSZ,zSS];refine tkH (i:=5) (oi:=⟨some 42,.fieldAddr 48 (.tmp 41) 0,0, "ref.go:107",#[⟨4,.data⟩],none⟩) (v:=?_) rfl ?_ hHeld ?_;rotate_left 1
      . rintro W ⟨s0,s1,s2⟩;go_simp;try with_reducible rfl
      simp only[Act.put,zIB,zSZ,zSS];refine tkH (i:=6) (oi:=⟨some 43,.load 9 (.tmp 42),9, "ref.go:107",#[⟨5,.data⟩],none⟩) (v:=?_) rfl ?_ hHeld ?_;rotate_left 1
      . rintro W ⟨s0,s1,s2⟩;go_simp;try with_reducible rfl
      simp only[Act.put,zIB,zSZ,zSS];refine tkH (i:=10) (oi:=⟨some 47,.move (.tmp 1),34, "ref.go:107",#[],none⟩) (v:=?_) rfl ?_ hHeld ?_;rotate_left 1
      . rintro W ⟨s0,s1,s2⟩;go_simp;try with_reducible rfl
      simp only[Act.put,zIB,zSZ,zSS];refine tkH (i:=11) (oi:=⟨some 48,.move (.tmp 0),22, "ref.go:107",#[],none⟩) (v:=?_) rfl ?_ hHeld ?_;rotate_left 1
      . rintro W ⟨s0,s1,s2⟩;go_simp;try with_reducible rfl
      simp only[Act.put,zIB,zSZ,zSS];refine tkH (i:=12) (oi:=⟨some 49,.move (.tmp 9),3, "ref.go:107",#[],none⟩) (v:=?_) rfl ?_ hHeld ?_;rotate_left 1
      . rintro W ⟨s0,s1,s2⟩;go_simp;try with_reducible rfl
      simp only[Act.put,zIB,zSZ,zSS];refine tkH (i:=13) (oi:=⟨some 50,.indexAddr 22 (.tmp 48) (.tmp 49),0, "ref.go:107",#[⟨11,.data⟩,⟨12,.data⟩],none⟩) (v:=?_) rfl ?_ hHeld ?_;rotate_left 1
      . rintro W ⟨s0,s1,s2⟩;go_simp;try with_reducible rfl
      simp only[Act.put,zIB,zSZ,zSS];refine tkH (i:=14) (oi:=⟨some 51,.fieldAddr 48 (.tmp 50) 2,0, "ref.go:107",#[⟨13,.data⟩],none⟩) (v:=?_) rfl ?_ hHeld ?_;rotate_left 1
      . rintro W ⟨s0,s1,s2⟩;go_simp;try with_reducible rfl
      simp only[Act.put,zIB,zSZ,zSS];refine tkH (i:=15) (oi:=⟨some 52,.load 9 (.tmp 51),9, "ref.go:107",#[⟨14,.data⟩],none⟩) (v:=?_) rfl ?_ hHeld ?_;rotate_left 1
      . rintro W ⟨s0,s1,s2⟩;go_simp;try with_reducible rfl
      simp only[Act.put,zIB,zSZ,zSS];refine wpAnyH_ready (rs:=[7]) (by kernel_rfl) (by simp) ?_;refine AllReadyH.cons (o:=⟨some 44,.call { callee:=.value (.func 44),args:=#[.tmp 38,.tmp 43],argTypes:=#[34,9] },3, "ref.go:107",#[⟨1,.data⟩,⟨6,.data⟩],none⟩) rfl (fun K hK=>?_) AllReadyH.nil;go_simp;refine(CP1.out _ HD.out).mono ?_;rintro e w5 ⟨rfl,rfl⟩;go_wp2_with fail;refine hK.out _ _ HS.out (fun hHeld=>?_);clear hK K;refine tkH (i:=8) (oi:=⟨some 45,.indexAddr 78 (.tmp 37) (.tmp 44),0, "ref.go:107",#[⟨0,.data⟩,⟨7,.data⟩],none⟩) (v:=?_) rfl ?_ hHeld ?_;rotate_left 1
      . rintro W ⟨s0,s1,s2⟩;go_simp;try with_reducible rfl
      simp only[Act.put,zIB,zSZ,zSS];refine tkH (i:=9) (oi:=⟨some 46,.load 80 (.tmp 45),80, "ref.go:107",#[⟨8,.data⟩],none⟩) (v:=?_) rfl ?_ hHeld ?_;rotate_left 1
      . rintro W ⟨s0,s1,s2⟩;go_simp;try with_reducible rfl
      simp only[Act.put,zIB,zSZ,zSS];refine wpAnyH_ready (rs:=[16]) (by kernel_rfl) (by simp) ?_;refine AllReadyH.cons (o:=⟨some 53,.call { callee:=.value (.func 44),args:=#[.tmp 47,.tmp 52],argTypes:=#[34,9] },3, "ref.go:107",#[⟨10,.data⟩,⟨15,.data⟩,⟨7,.chain⟩],none⟩) rfl (fun K hK=>?_) AllReadyH.nil;go_simp;refine(CP2.out _ HD.out).mono ?_;rintro e w6 ⟨rfl,rfl⟩;go_wp2_with fail;refine hK.out _ _ HS.out (fun hHeld=>?_);clear hK K;refine tkH (i:=17) (oi:=⟨some 54,.indexAddr 80 (.tmp 46) (.tmp 53),0, "ref.go:107",#[⟨9,.data⟩,⟨16,.data⟩,⟨0,.phase⟩,⟨1,.phase⟩,⟨2,.phase⟩,⟨3,.phase⟩,⟨4,.phase⟩,⟨5,.phase⟩,⟨6,.phase⟩,⟨7,.phase⟩,⟨8,.phase⟩,⟨9,.phase⟩,⟨10,.phase⟩,⟨11,.phase⟩,⟨12,.phase⟩,⟨13,.phase⟩,⟨14,.phase⟩,⟨15,.phase⟩,⟨16,.phase⟩],none⟩) (v:=?_) rfl ?_ hHeld ?_;rotate_left 1
      . rintro W ⟨s0,s1,s2⟩;go_simp;try with_reducible rfl
      simp only[Act.put,zIB,zSZ,zSS];refine wpAnyH_ready (rs:=[18]) (by kernel_rfl) (by simp) ?_;refine AllReadyH.cons (o:=⟨none,.store 4 (.tmp 54) (.const (.bool true)),0, "ref.go:107",#[⟨17,.data⟩,⟨16,.chain⟩,⟨0,.phase⟩,⟨1,.phase⟩,⟨2,.phase⟩,⟨3,.phase⟩,⟨4,.phase⟩,⟨5,.phase⟩,⟨6,.phase⟩,⟨7,.phase⟩,⟨8,.phase⟩,⟨9,.phase⟩,⟨10,.phase⟩,⟨11,.phase⟩,⟨12,.phase⟩,⟨13,.phase⟩,⟨14,.phase⟩,⟨15,.phase⟩,⟨16,.phase⟩],none⟩) rfl (fun K hK=>?_) AllReadyH.nil;go_simp;refine hK.out _ _ (HNS.out _) (fun hHeld=>?_);clear hK K;refine wpAnyH_done (by kernel_rfl) ?_ _;go_wp2;go_roundw
      case rel=>exact⟨i+1,by omega,by go_num,HM9.out,HB9.out⟩
      case measure=>simp[intOf];omega
    . obtain⟨e1,e2⟩:=not_bothW exs;have HM9:Hid (MatO B wx (.slice ma n mc) n gs (wordM (fs.take (i+1)) V wd)):=zA (HM.out.congr HGL.out (fun i' k' _ _=>word_skip HX.out exs i' k'));clear exs;go_wp2_with fail;go_quiet (fail);have HB9:=zA (below_drewN HBQ.out nq);have HM8:=zA (HM9.out.below (below_drewN (zE _ _) nq));go_wp2;go_roundw
      case rel=>exact⟨i+1,by omega,by go_num,HM8.out,HB9.out⟩
      case measure=>simp[intOf];omega
  . have hltI:¬(i:Int)<(nf:Int):=by omega
    have HM9:Hid (IsM wx (.slice ma n mc) n R):=zA ⟨gs,by
     rw[HR.out];have h:=HM.out.read HGL.out;rw[zJ (by rw[<- HNF.out];omega)]at h;exact h⟩
    go_wp2;go_ret;exact⟨_,rfl,HM9.out,below_boxQ HBQ.out⟩
set_option maxHeartbeats 40000000 in
theorem rLead_seq{fs:List Fa}{V:List Wd}(hlv:V.length<=100000){wd:Wd}{v:Value}{l:List Vt}(hk:∀x∈l,LeadC fs V x):LeadC fs V ⟨2,wd,v,l⟩:=by
 intro w vf vl hf hl hok;obtain⟨R,hR⟩:∃R,R=leadsM fs V (Vt.pt ⟨2,wd,v,l⟩):=⟨_,rfl⟩
 rw[<- hR];have HR:Hid (R=(l.map fun x=>leadsM fs V x.pt).foldl (behindM V.length) sameM):=zA (by rw[hR,Vt.pt_mk,leadsM_mk];simp only[List.map_map];rfl);clear hR;have hok2:=hok.parts;obtain⟨ka,kc,hv⟩:=hok2.1.slice;dsimp only at hok2 hv;subst hv;have HK:=zA hok2;obtain⟨fa,fc,hvf⟩:=hf.slice;obtain⟨la,lc,hvl⟩:=hl.slice;subst hvf hvl;have HF:=zA hf;have HLs:=zA hl;obtain⟨nf,hnf⟩:∃n,n=fs.length:=⟨_,rfl⟩
 obtain⟨n,hn⟩:∃n,n=V.length:=⟨_,rfl⟩
 rw[<- hnf]at HF ⊢;rw[<- hn]at HLs hlv ⊢;try rw[<- hn]at HR
 have HNF:=zA hnf;have HN:=zA hn;clear hok hok2 hf hl hnf hn;have HKC:Hid (∀x∈l,∀u,Below w.heap.size w u->Calls Tryz.prog 36 #[.slice fa nf fc,.slice la n lc,encN x] u fun e w'=>∃v,e=.returned v/\IsM w' v n (leadsM fs V x.pt)/\Below u.heap.size u w'):=zA (fun x hx u hu=>by
  have h:=hk x hx u (.slice fa nf fc) (.slice la n lc) (HF.out.below hu) (HLs.out.below hu) ((HK.out.2.2.2 x hx).below hu);rw[<- HN.out]at h;exact h)
 obtain⟨kn,hkn⟩:∃n,n=l.length:=⟨_,rfl⟩
 have HKN:=zA hkn;have hklb:=HK.out.2.2.1;rw[<- hkn]at HK hklb ⊢;clear hkn hk;obtain⟨o,ho⟩:∃o,o=Obj.cells #[.int .i64 2,.string ⟨wd.toArray⟩,.slice ka kn kc] 25:=⟨_,rfl⟩
 have HOB:=zA ho;have HC:Hid (∀wr,Below (w.alloc o).heap.size (w.alloc o) wr->wr.cell? ⟨w.heap.size,0,none⟩=some (.int .i64 2)/\wr.cell? ⟨w.heap.size,1,none⟩=some (.string ⟨wd.toArray⟩)/\wr.cell? ⟨w.heap.size,2,none⟩=some (.slice ka kn kc)):=zA (fun wr hb=>by
  have h:=box_keptQ hb;rw[HOB.out]at h;simp[World.cell?,h])
 have HB0:Hid (Below (w.alloc o).heap.size (w.alloc o) (w.alloc (.cells #[.int .i64 2,.string ⟨wd.toArray⟩,.slice ka kn kc] 25))):=zA (by rw[HOB.out];exact zE _ _);clear ho;go_enter Tryz.func36,Tryz.ntmps36;go_wp2_with fail;refine(rSameM_any n _ hlv).mono ?_;rintro e w1 ⟨v,rfl,hm,hb1⟩;have HMO:=zA hm;have HB1:=zA (HB0.out.trans (hb1.mono (by rw[HOB.out];exact zD _)));clear hm hb1;obtain⟨c0,c1,c2⟩:=HC.out _ HB1.out;go_wp2_with fail;go_loopw [10,11] (fun vl c wr=>∃(i:Nat) (u:Value),u=vl/\i<=kn/\c=.int .i64 i/\IsM wr u n (((l.take i).map fun x=>leadsM fs V x.pt).foldl (behindM n) sameM)/\Below (w.alloc o).heap.size (w.alloc o) wr) (fun _ c _=>kn-(intOf c).toNat)
 case atStart=>exact⟨0,_,rfl,zO _,rfl,HMO.out,HB1.out⟩
 case round=>
  clear c0 c1 c2;obtain⟨i,u,rfl,hi,rfl,hm,hbq⟩:=hrel;have HM:=zA hm;have HBQ:=zA hbq;clear hm hbq;obtain⟨c0,c1,c2⟩:=HC.out _ HBQ.out;by_cases hlt:i<kn
  . have hltI:(i:Int)<(kn:Int):=by omega
    obtain⟨x,hx⟩:∃x,l[i]?=some x:=⟨_,zB (by rw[<- HKN.out];exact hlt)⟩
    have hxm:=zC hx;obtain⟨g,off,hka,_,hgl,hcell⟩:=(HK.out.1.below (below_boxQ HBQ.out)).get hx;subst hka;obtain⟨q0,q1,q2⟩:=getN hcell;have C1:=zA (HKC.out x hxm wr (below_boxQ HBQ.out));have HT:Hid (((l.take (i+1)).map fun x=>leadsM fs V x.pt).foldl (behindM n) sameM=behindM n (((l.take i).map fun x=>leadsM fs V x.pt).foldl (behindM n) sameM) (leadsM fs V x.pt)):=zA (by rw[zS,hx,yK,List.foldl_append];rfl);obtain⟨xa,xc,hxv⟩:=(HK.out.2.2.2 x hxm).parts.1.slice;obtain⟨xn,hxn⟩:∃n,n=x.kids.length:=⟨_,rfl⟩
    rw[<- hxn]at hxv;obtain⟨X,hX⟩:∃X,X=leadsM fs V x.pt:=⟨_,rfl⟩
    rw[<- hX]at C1 HT;obtain⟨xk,xw,xv,xl⟩:=x;dsimp only at q0 q1 q2 hxv;subst hxv;clear hx hxm hcell hxn hX;go_wp2_with fail;refine C1.out.mono ?_;rintro e w3 ⟨v3,rfl,hm3,hb3⟩;have HM3:=zA hm3;have HU3:=zA (HM.out.below hb3);have HB3:=zA (HBQ.out.trans (hb3.mono HBQ.out.size));clear hm3 hb3 c0 c1 c2 q0 q1 q2;go_wp2_with fail;refine(rBehind_any HU3.out HM3.out hlv).mono ?_;rintro e w4 ⟨v4,rfl,hm4,hb4⟩;have HM4:=zA hm4;have HB4:=zA (HB3.out.trans (hb4.mono HB3.out.size));clear hm4 hb4;go_wp2;go_roundw
    case rel=>exact⟨i+1,_,rfl,by omega,by go_num,by rw[HT.out];exact HM4.out,HB4.out⟩
    case measure=>simp[intOf];omega
  . have hltI:¬(i:Int)<(kn:Int):=by omega
    have HM9:Hid (IsM wr u n R):=zA (by
     rw[HR.out];have h:=HM.out;rw[zJ (by rw[<- HKN.out];omega)]at h;exact h)
    go_wp2;go_ret;exact⟨_,rfl,HM9.out,below_boxQ HBQ.out⟩
set_option maxHeartbeats 40000000 in
theorem rLead_alt{fs:List Fa}{V:List Wd}(hlv:V.length<=100000){wd:Wd}{v:Value}{l:List Vt}(hk:∀x∈l,LeadC fs V x):LeadC fs V ⟨3,wd,v,l⟩:=by
 intro w vf vl hf hl hok;obtain⟨R,hR⟩:∃R,R=leadsM fs V (Vt.pt ⟨3,wd,v,l⟩):=⟨_,rfl⟩
 rw[<- hR];have HR:Hid (R=(l.map fun x=>leadsM fs V x.pt).foldl eitherM noneM):=zA (by rw[hR,Vt.pt_mk,leadsM_mk];simp only[List.map_map];rfl);clear hR;have hok2:=hok.parts;obtain⟨ka,kc,hv⟩:=hok2.1.slice;dsimp only at hok2 hv;subst hv;have HK:=zA hok2;obtain⟨fa,fc,hvf⟩:=hf.slice;obtain⟨la,lc,hvl⟩:=hl.slice;subst hvf hvl;have HF:=zA hf;have HLs:=zA hl;obtain⟨nf,hnf⟩:∃n,n=fs.length:=⟨_,rfl⟩
 obtain⟨n,hn⟩:∃n,n=V.length:=⟨_,rfl⟩
 rw[<- hnf]at HF ⊢;rw[<- hn]at HLs hlv ⊢;try rw[<- hn]at HR
 have HNF:=zA hnf;have HN:=zA hn;clear hok hok2 hf hl hnf hn;have HKC:Hid (∀x∈l,∀u,Below w.heap.size w u->Calls Tryz.prog 36 #[.slice fa nf fc,.slice la n lc,encN x] u fun e w'=>∃v,e=.returned v/\IsM w' v n (leadsM fs V x.pt)/\Below u.heap.size u w'):=zA (fun x hx u hu=>by
  have h:=hk x hx u (.slice fa nf fc) (.slice la n lc) (HF.out.below hu) (HLs.out.below hu) ((HK.out.2.2.2 x hx).below hu);rw[<- HN.out]at h;exact h)
 obtain⟨kn,hkn⟩:∃n,n=l.length:=⟨_,rfl⟩
 have HKN:=zA hkn;have hklb:=HK.out.2.2.1;rw[<- hkn]at HK hklb ⊢;clear hkn hk;obtain⟨o,ho⟩:∃o,o=Obj.cells #[.int .i64 3,.string ⟨wd.toArray⟩,.slice ka kn kc] 25:=⟨_,rfl⟩
 have HOB:=zA ho;have HC:Hid (∀wr,Below (w.alloc o).heap.size (w.alloc o) wr->wr.cell? ⟨w.heap.size,0,none⟩=some (.int .i64 3)/\wr.cell? ⟨w.heap.size,1,none⟩=some (.string ⟨wd.toArray⟩)/\wr.cell? ⟨w.heap.size,2,none⟩=some (.slice ka kn kc)):=zA (fun wr hb=>by
  have h:=box_keptQ hb;rw[HOB.out]at h;simp[World.cell?,h])
 have HB0:Hid (Below (w.alloc o).heap.size (w.alloc o) (w.alloc (.cells #[.int .i64 3,.string ⟨wd.toArray⟩,.slice ka kn kc] 25))):=zA (by rw[HOB.out];exact zE _ _);clear ho;go_enter Tryz.func36,Tryz.ntmps36;go_wp2_with fail;refine(rNone_any n _ hlv).mono ?_;rintro e w1 ⟨v,rfl,hm,hb1⟩;have HMO:=zA hm;have HB1:=zA (HB0.out.trans (hb1.mono (by rw[HOB.out];exact zD _)));clear hm hb1;obtain⟨c0,c1,c2⟩:=HC.out _ HB1.out;go_wp2_with fail;go_loopw [12,13] (fun vl c wr=>∃(i:Nat) (u:Value),u=vl/\i<=kn/\c=.int .i64 i/\IsM wr u n (((l.take i).map fun x=>leadsM fs V x.pt).foldl eitherM noneM)/\Below (w.alloc o).heap.size (w.alloc o) wr) (fun _ c _=>kn-(intOf c).toNat)
 case atStart=>exact⟨0,_,rfl,zO _,rfl,HMO.out.read,HB1.out⟩
 case round=>
  clear c0 c1 c2;obtain⟨i,u,rfl,hi,rfl,hm,hbq⟩:=hrel;have HM:=zA hm;have HBQ:=zA hbq;clear hm hbq;obtain⟨c0,c1,c2⟩:=HC.out _ HBQ.out;by_cases hlt:i<kn
  . have hltI:(i:Int)<(kn:Int):=by omega
    obtain⟨x,hx⟩:∃x,l[i]?=some x:=⟨_,zB (by rw[<- HKN.out];exact hlt)⟩
    have hxm:=zC hx;obtain⟨g,off,hka,_,hgl,hcell⟩:=(HK.out.1.below (below_boxQ HBQ.out)).get hx;subst hka;obtain⟨q0,q1,q2⟩:=getN hcell;have C1:=zA (HKC.out x hxm wr (below_boxQ HBQ.out));have HT:Hid (((l.take (i+1)).map fun x=>leadsM fs V x.pt).foldl eitherM noneM=eitherM (((l.take i).map fun x=>leadsM fs V x.pt).foldl eitherM noneM) (leadsM fs V x.pt)):=zA (by rw[zS,hx,yK,List.foldl_append];rfl);obtain⟨xa,xc,hxv⟩:=(HK.out.2.2.2 x hxm).parts.1.slice;obtain⟨xn,hxn⟩:∃n,n=x.kids.length:=⟨_,rfl⟩
    rw[<- hxn]at hxv;obtain⟨X,hX⟩:∃X,X=leadsM fs V x.pt:=⟨_,rfl⟩
    rw[<- hX]at C1 HT;obtain⟨xk,xw,xv,xl⟩:=x;dsimp only at q0 q1 q2 hxv;subst hxv;clear hx hxm hcell hxn hX;go_wp2_with fail;refine C1.out.mono ?_;rintro e w3 ⟨v3,rfl,hm3,hb3⟩;have HM3:=zA hm3;have HU3:=zA (HM.out.below hb3);have HB3:=zA (HBQ.out.trans (hb3.mono HBQ.out.size));clear hm3 hb3 c0 c1 c2 q0 q1 q2;go_wp2_with fail;refine(rEither_any HU3.out HM3.out hlv).mono ?_;rintro e w4 ⟨v4,rfl,hm4,hb4⟩;have HM4:=zA hm4;have HB4:=zA (HB3.out.trans (hb4.mono HB3.out.size));clear hm4 hb4;go_wp2;go_roundw
    case rel=>exact⟨i+1,_,rfl,by omega,by go_num,by rw[HT.out];exact HM4.out,HB4.out⟩
    case measure=>simp[intOf];omega
  . have hltI:¬(i:Int)<(kn:Int):=by omega
    have HM9:Hid (IsM wr u n R):=zA (by
     rw[HR.out];have h:=HM.out;rw[zJ (by rw[<- HKN.out];omega)]at h;exact h)
    go_wp2;go_ret;exact⟨_,rfl,HM9.out,below_boxQ HBQ.out⟩
set_option maxHeartbeats 40000000 in
theorem rLead_one{fs:List Fa}{V:List Wd}(hlv:V.length<=100000){k:Int}(hk3:k=4\/k=5\/k=6){wd:Wd}{v:Value}{x:Vt}(hk:LeadC fs V x):LeadC fs V ⟨k,wd,v,[x]⟩:=by
 intro w vf vl hf hl hok;obtain⟨R,hR⟩:∃R,R=leadsM fs V (Vt.pt ⟨k,wd,v,[x]⟩):=⟨_,rfl⟩
 rw[<- hR];have HR:Hid (R=endM V.length k (leadsM fs V x.pt)):=zA (by rw[hR,Vt.pt_mk,leadsM_mk,if_neg (by omega),if_neg (by omega),if_neg (by omega)];rfl);clear hR;have hok2:=hok.parts;obtain⟨ka,kc,hv⟩:=hok2.1.slice;dsimp only at hok2 hv;subst hv;have HK:=zA hok2;obtain⟨fa,fc,hvf⟩:=hf.slice;obtain⟨la,lc,hvl⟩:=hl.slice;subst hvf hvl;have HF:=zA hf;have HLs:=zA hl;obtain⟨nf,hnf⟩:∃n,n=fs.length:=⟨_,rfl⟩
 obtain⟨n,hn⟩:∃n,n=V.length:=⟨_,rfl⟩
 rw[<- hnf]at HF ⊢;rw[<- hn]at HLs hlv ⊢;try rw[<- hn]at HR
 have HNF:=zA hnf;have HN:=zA hn;clear hok hok2 hf hl hnf hn;have C1:Hid (∀u,Below w.heap.size w u->Calls Tryz.prog 36 #[.slice fa nf fc,.slice la n lc,encN x] u fun e w'=>∃v,e=.returned v/\IsM w' v n (leadsM fs V x.pt)/\Below u.heap.size u w'):=zA (fun u hu=>by
  have h:=hk u (.slice fa nf fc) (.slice la n lc) (HF.out.below hu) (HLs.out.below hu) ((HK.out.2.2.2 x (by simp)).below hu);rw[<- HN.out]at h;exact h)
 have k1:¬k=1:=by omega
 have k2:¬k=2:=by omega
 have k3:¬k=3:=by omega
 obtain⟨a1,b1⟩:=not_both k1;obtain⟨a2,b2⟩:=not_both k2;obtain⟨a3,b3⟩:=not_both k3;have HK3:=zA hk3;clear hk k1 k2 k3 hk3;obtain⟨X,hX⟩:∃X,X=leadsM fs V x.pt:=⟨_,rfl⟩
 rw[<- hX]at C1 HR;obtain⟨g,off,hka,_,hgl,hcell⟩:=HK.out.1.get (j:=0) (x:=x) rfl;subst hka;obtain⟨q0,q1,q2⟩:=getN hcell;rw[Nat.zero_mul,yA]at q0 q1 q2;obtain⟨xa,xc,hxv⟩:=(HK.out.2.2.2 x (by simp)).parts.1.slice;obtain⟨xn,hxn⟩:∃n,n=x.kids.length:=⟨_,rfl⟩
 rw[<- hxn]at hxv;obtain⟨xk,xw,xv,xl⟩:=x;dsimp only at q0 q1 q2 hxv;subst hxv;have HKC:Hid (∀u,Below w.heap.size w u->u.cell? ⟨g,off,none⟩=some (.int .i64 xk)/\u.cell? ⟨g,off+1,none⟩=some (.string ⟨xw.toArray⟩)/\u.cell? ⟨g,off+2,none⟩=some (.slice xa xn xc)):=zA (fun u hu=>⟨(hu.cell (p:=⟨g,off,none⟩) hgl).trans q0,(hu.cell (p:=⟨g,off+1,none⟩) hgl).trans q1,(hu.cell (p:=⟨g,off+2,none⟩) hgl).trans q2⟩);clear hcell hxn hX HK;show Calls Tryz.prog _ #[_,_,.agg #[.int .i64 k,.string ⟨wd.toArray⟩,.slice (some ⟨g,off,none⟩) 1 kc]] w _;obtain⟨o,ho⟩:∃o,o=Obj.cells #[.int .i64 k,.string ⟨wd.toArray⟩,.slice (some ⟨g,off,none⟩) 1 kc] 25:=⟨_,rfl⟩
 have HOB:=zA ho;have HC:Hid (∀wr,Below (w.alloc o).heap.size (w.alloc o) wr->wr.cell? ⟨w.heap.size,0,none⟩=some (.int .i64 k)/\wr.cell? ⟨w.heap.size,1,none⟩=some (.string ⟨wd.toArray⟩)/\wr.cell? ⟨w.heap.size,2,none⟩=some (.slice (some ⟨g,off,none⟩) 1 kc)):=zA (fun wr hb=>by
  have h:=box_keptQ hb;rw[HOB.out]at h;simp[World.cell?,h])
 have HB0:Hid (Below (w.alloc o).heap.size (w.alloc o) (w.alloc (.cells #[.int .i64 k,.string ⟨wd.toArray⟩,.slice (some ⟨g,off,none⟩) 1 kc] 25))):=zA (by rw[HOB.out];exact zE _ _);clear ho;obtain⟨c0,c1,c2⟩:=HC.out _ HB0.out;obtain⟨r0,r1,r2⟩:=HKC.out _ (below_boxQ HB0.out);go_enter Tryz.func36,Tryz.ntmps36;go_wp2_with fail;refine(C1.out _ (below_boxQ HB0.out)).mono ?_;rintro e w3 ⟨v3,rfl,hm3,hb3⟩;have HM3:=zA hm3;have HB3:=zA (HB0.out.trans (hb3.mono HB0.out.size));clear hm3 hb3 c0 c1 c2 q0 q1 q2 r0 r1 r2;obtain⟨c0,c1,c2⟩:=HC.out _ HB3.out;rcases HK3.out with e4|e5|e6
 . subst e4;clear a1 b1 a2 b2 a3 b3;go_wp2_with fail;refine(rOften_any HM3.out hlv).mono ?_;rintro e w4 ⟨v4,rfl,hm4,hb4⟩;have HM4:=zA hm4;have HB4:=zA (HB3.out.trans (hb4.mono HB3.out.size));clear hm4 hb4 c0 c1 c2;obtain⟨c0,c1,c2⟩:=HC.out _ HB4.out;go_wp2_with fail;refine(rSameM_any n _ hlv).mono ?_;rintro e w5 ⟨v5,rfl,hm5,hb5⟩;have HM5:=zA hm5;have HU5:=zA (HM4.out.below hb5);have HB5:=zA (HB4.out.trans (hb5.mono HB4.out.size));clear hm5 hb5;go_wp2_with fail;refine(rEither_any HU5.out HM5.out hlv).mono ?_;rintro e w6 ⟨v6,rfl,hm6,hb6⟩;have HM6:=zA hm6;have HB6:=zA (HB5.out.trans (hb6.mono HB5.out.size));clear hm6 hb6;have HM9:Hid (R=eitherM (oftenM n X) sameM):=zA (by rw[HR.out];simp[endM]);go_wp2;go_ret;exact⟨_,rfl,by rw[HM9.out];exact HM6.out,below_boxQ HB6.out⟩
 . subst e5;clear a1 b1 a2 b2 a3 b3;go_wp2_with fail;refine(rOften_any HM3.out hlv).mono ?_;rintro e w4 ⟨v4,rfl,hm4,hb4⟩;have HM4:=zA hm4;have HB4:=zA (HB3.out.trans (hb4.mono HB3.out.size));clear hm4 hb4 c0 c1 c2;obtain⟨c0,c1,c2⟩:=HC.out _ HB4.out;have HM9:Hid (R=oftenM n X):=zA (by rw[HR.out];simp[endM]);go_wp2;go_ret;exact⟨_,rfl,by rw[HM9.out];exact HM4.out,below_boxQ HB4.out⟩
 . subst e6;clear a1 b1 a2 b2 a3 b3;go_wp2_with fail;refine(rSameM_any n _ hlv).mono ?_;rintro e w5 ⟨v5,rfl,hm5,hb5⟩;have HM5:=zA hm5;have HU5:=zA (HM3.out.below hb5);have HB5:=zA (HB3.out.trans (hb5.mono HB3.out.size));clear hm5 hb5;go_wp2_with fail;refine(rEither_any HU5.out HM5.out hlv).mono ?_;rintro e w6 ⟨v6,rfl,hm6,hb6⟩;have HM6:=zA hm6;have HB6:=zA (HB5.out.trans (hb6.mono HB5.out.size));clear hm6 hb6;have HM9:Hid (R=eitherM X sameM):=zA (by rw[HR.out];simp[endM]);go_wp2;go_ret;exact⟨_,rfl,by rw[HM9.out];exact HM6.out,below_boxQ HB6.out⟩
theorem rLead_any{fs:List Fa}{V:List Wd}(hV:V=vertsL fs)(hlf:fs.length<=100000)(hlv:V.length<=100000):∀(t:Vt) (d:Nat),shapedP d t.pt=true->LeadC fs V t:=by
 apply Vt.ind;intro k wd v l ih d hsh;cases d with
 |zero=>simp[shapedP]at hsh
 |succ d=>
  rw[Vt.pt_mk,shapedP,Bool.and_eq_true,Bool.and_eq_true,yI,decide_eq_true_eq,zH]at hsh;obtain⟨⟨hfo,h24⟩,hk⟩:=hsh;have hkids:∀x∈l,LeadC fs V x:=fun x hx=>ih x hx d (hk x.pt (zW hx))
  have one:∀k:Int,k=4\/k=5\/k=6->l.length=1->LeadC fs V ⟨k,wd,v,l⟩:=by
   intro k hk456 hn;obtain⟨x,rfl⟩:=List.length_eq_one_iff.1 hn;exact rLead_one hlv hk456 (hkids x (by simp))
  rcases formed_casesM hfo with⟨rfl,_,_⟩|⟨rfl,_⟩|⟨rfl,_⟩|⟨rfl,hn⟩|⟨rfl,hn⟩|⟨rfl,hn⟩
  . exact rLead_word hV hlf hlv
  . exact rLead_seq hlv hkids
  . exact rLead_alt hlv hkids
  . exact one 4 (.inl rfl) hn
  . exact one 5 (.inr (.inl rfl)) hn
  . exact one 6 (.inr (.inr rfl)) hn
end Go.Proofs.YtkbgmcmcpbegjaaGreatDoor
