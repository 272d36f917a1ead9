/- MPairs. -/
import Derived.Test.YtkbgmcmcpbegjaaGreatDoorMG36
import Derived.Test.YtkbgmcmcpbegjaaGreatDoorMG34
set_option maxRecDepth 100000
namespace Go.Proofs.YtkbgmcmcpbegjaaGreatDoor
open Go.RowKit Go.Shelf
theorem pairRow_succ(V:List Wd)(m:Mt)(i k:Nat):pairRow V m i (k+1)=pairRow V m i k++(if m i k=true then [[V.getD i [],V.getD k []]]else []):=by
 unfold pairRow;rw[List.range_succ,List.filter_append,yK];congr 1;by_cases h:m i k=true
 . simp[h]
 . simp[h]
theorem pairs_two{V:List Wd}{m:Mt}{i:Nat}:∀r∈pairsTo V m i,r.length=2:=by
 intro r hr;obtain⟨j,_,h⟩:=List.mem_flatMap.1 hr;obtain⟨k,_,rfl⟩:=zV.1 h;rfl
set_option maxHeartbeats 40000000 in
theorem rPairs_any{w:World}{vf:Value}{fs:List Fa}{t:Vt}(hf:FasS (fun _=>True) w vf fs)(hlf:fs.length<=10000)(hok:VOk (fun _=>True) w t):
 Calls Tryz.prog 12 #[vf,encN t] w fun e w'=>∃v,e=.returned (.tuple #[v,.int .i64 (if mayP t.pt=true then 0 else 1)])/\RowsM w' v (if mayP t.pt=true then pairsL fs t.pt else [])/\Below w.heap.size w w':=by
 obtain⟨i0,hi0,hz0,hz1,hz2⟩:=info_parts infoRw;obtain⟨P,hP⟩:∃P,P=t.pt:=⟨_,rfl⟩
 obtain⟨b,hb⟩:∃b,b=mayP P:=⟨_,rfl⟩
 obtain⟨V,hV⟩:∃V,V=vertsL fs:=⟨_,rfl⟩
 have hlv:V.length<=20000:=by rw[hV];have:=verts_len fs;omega
 obtain⟨m,hm⟩:∃m,m=leadsM fs V P:=⟨_,rfl⟩
 obtain⟨R,hR⟩:∃R,R=if mayP t.pt=true then pairsL fs t.pt else []:=⟨_,rfl⟩
 rw[<- hR];have HR:Hid (R=if b=true then pairsTo V m V.length else []):=zA (by rw[hR,hb,<- hP,hm,hV];rfl);obtain⟨ec,hec⟩:∃e:Int,e=if mayP t.pt=true then 0 else 1:=⟨_,rfl⟩
 rw[<- hec];have HEC:Hid (ec=if b=true then 0 else 1):=zA (by rw[hec,hb,<- hP]);have CM:Hid (∀u,Below w.heap.size w u->Calls Tryz.prog 21 #[encN t] u fun e w'=>e=.returned (.bool b)/\Below u.heap.size u w'):=zA (fun u hu=>by rw[hb,hP];exact rMayPath_any (hok.below hu));have CL:Hid (b=true->∀u vl,Below w.heap.size w u->TxtS (fun _=>True) u vl V->Calls Tryz.prog 36 #[vf,vl,encN t] u fun e w'=>∃v,e=.returned v/\IsM w' v V.length m/\Below u.heap.size u w'):=zA (fun h1 u vl hu hl=>by
  rw[hb,hP]at h1;simp only[mayP,Bool.and_eq_true,decide_eq_true_eq]at h1;have h2:=rLead_any hV (by omega) (by omega) t 12 h1.1 u vf vl (hf.below hu) hl (hok.below hu);rw[<- hP,<- hm]at h2;exact h2)
 have CV:Hid (∀u,Below w.heap.size w u->Calls Tryz.prog 16 #[vf] u fun e w'=>∃v',e=.returned v'/\SrcW w' v' V/\Below u.heap.size u w'):=zA (fun u hu=>by rw[hV];exact rVert_any (hf.below hu) (by omega));obtain⟨fa,fc,hvf⟩:=hf.slice;obtain⟨nf,hnf⟩:∃n,n=fs.length:=⟨_,rfl⟩
 rw[<- hnf]at hvf;subst hvf;obtain⟨ka,kc,hkv⟩:=hok.parts.1.slice;obtain⟨k,wd,v,l⟩:=t;dsimp only at hkv;subst hkv;obtain⟨kn,hkn⟩:∃n,n=l.length:=⟨_,rfl⟩
 rw[<- hkn]at CM CL ⊢;obtain⟨n,hn⟩:∃n,n=V.length:=⟨_,rfl⟩
 rw[<- hn]at CL hlv HR;have HN:=zA hn;clear hf hlf hok hP hb hV hm hR hec hnf hkn hn;show Calls Tryz.prog _ #[_,.agg #[.int .i64 k,.string ⟨wd.toArray⟩,.slice ka kn kc]] w _;obtain⟨o,ho⟩:∃o,o=Obj.cells #[.int .i64 k,.string ⟨wd.toArray⟩,.slice ka kn kc] 25:=⟨_,rfl⟩
 have HOB:=zA ho;have HC:Hid (∀wr,Below (w.alloc o).heap.size (w.alloc o) wr->wr.cell? ⟨w.heap.size,0,none⟩=some (.int .i64 k)/\wr.cell? ⟨w.heap.size,1,none⟩=some (.string ⟨wd.toArray⟩)/\wr.cell? ⟨w.heap.size,2,none⟩=some (.slice ka kn kc)):=zA (fun wr hb=>by
  have h:=box_keptQ hb;rw[HOB.out]at h;simp[World.cell?,h])
 have HB0:Hid (Below (w.alloc o).heap.size (w.alloc o) (w.alloc (.cells #[.int .i64 k,.string ⟨wd.toArray⟩,.slice ka kn kc] 25))):=zA (by rw[HOB.out];exact zE _ _);clear ho;go_enter Tryz.func12,Tryz.ntmps12;go_wp2_with fail;refine(CM.out _ (below_boxQ HB0.out)).mono ?_;rintro e w1 ⟨rfl,hb1⟩;have HB1:=zA (HB0.out.trans (hb1.mono HB0.out.size));clear hb1;cases b with
 |false=>
  go_wp2;go_ret2;exact⟨.slice none 0 0,by rw[HEC.out];rfl,by rw[HR.out];exact rowsM_nil _,below_boxQ HB1.out⟩
 |true=>
  have CL2:=zA (CL.out rfl);have HR2:Hid (R=pairsTo V m n):=zA (by rw[HR.out];rfl);have HEC2:Hid (ec=0):=zA (by rw[HEC.out];rfl);clear CL HR HEC;go_wp2_with fail;refine(CV.out _ (below_boxQ HB1.out)).mono ?_;rintro e w2 ⟨vl,rfl,hsl,hb2⟩;have HB2:=zA (HB1.out.trans (hb2.mono HB1.out.size));obtain⟨hs1,la,lc,hvl,hlc⟩:=hsl;rw[<- HN.out]at hvl;subst hvl;have HLs:=zA hs1.sl;clear hb2 hs1 hlc;obtain⟨c0,c1,c2⟩:=HC.out _ HB2.out;go_wp2_with fail;refine(CL2.out _ _ (below_boxQ HB2.out) HLs.out).mono ?_;rintro e w3 ⟨vm,rfl,⟨gm,hgm⟩,hb3⟩;have HB3:=zA (HB2.out.trans (hb3.mono HB2.out.size));have HL3:=zA (HLs.out.below hb3);obtain⟨ma,mc,hvm⟩:=hgm.sl.slice;rw[hgm.len]at hvm;subst hvm;have HGM:=zA hgm;clear hb3 hgm c0 c1 c2;go_wp2_with fail;go_loopw [8,9] (fun vl c wr=>∃(i:Nat) (u:Value) (gs:List (Nat×Rw)),u=vl/\i<=n/\c=.int .i64 i/\gs.map (·.2)=pairsTo V m i/\RowO w3.heap.size wr u gs/\Below w3.heap.size w3 wr) (fun _ c _=>n-(intOf c).toNat)
  case atStart=>exact⟨0,.slice none 0 0,[],rfl,zO _,rfl,rfl,⟨World.ownsRow_nil _ _ _ _,by simp⟩,zE _ _⟩
  case round=>
   obtain⟨i,u,gs,rfl,hi,rfl,hgs,ho,hbq⟩:=hrel;have HO:=zA ho;have HGS:=zA hgs;have HBQ:=zA hbq;clear ho hgs hbq;obtain⟨wx,hwx⟩:∃wx,wx=wr:=⟨_,rfl⟩
   subst hwx;by_cases hlt:i<n
   . have hltI:(i:Int)<(n:Int):=by omega
     obtain⟨x,hx⟩:∃x,V[i]?=some x:=⟨_,zB (by rw[<- HN.out];exact hlt)⟩
     obtain⟨lb,lo,hla,_,lbl,hci⟩:=HL3.out.get hx;subst hla;have l0:=hci 0 _ rfl;rw[yD,yA]at l0;have HX:Hid (V.getD i []=x):=zA (by rw[List.getD,hx];rfl);clear hx hci;go_wp2_with fail;go_loopw [8,10] (fun vl c wr=>∃(k:Nat) (u:Value) (gs:List (Nat×Rw)),u=vl/\k<=n/\c=.int .i64 k/\gs.map (·.2)=pairsTo V m i++pairRow V m i k/\RowO w3.heap.size wr u gs/\Below w3.heap.size w3 wr) (fun _ c _=>n-(intOf c).toNat)
     case atStart=>exact⟨0,u,gs,rfl,zO _,rfl,by rw[HGS.out];simp[pairRow],HO.out,HBQ.out⟩
     case round=>
      obtain⟨k,u2,gs2,rfl,hk,rfl,hgs2,ho2,hby⟩:=hrel;obtain⟨wy,hwy⟩:∃wy,wy=wr:=⟨_,rfl⟩
      subst hwy;obtain⟨ua,uc,hu⟩:=own_slice ho2.row;obtain⟨nu,hnu⟩:∃n,n=gs2.length:=⟨_,rfl⟩
      rw[<- hnu]at hu;subst hu;have hub:nu<=400020000:=by
       have h1:gs2.length=(pairsTo V m i++pairRow V m i k).length:=by rw[<- hgs2,zH]
       have h2:=pairsTo_len V m i;have h3:=pairRow_len V m i k;have h4:i*V.length<=20000*20000:=Nat.mul_le_mul (by omega) (by rw[<- HN.out];omega);rw[hnu,h1,zG];omega
      obtain⟨X,hX⟩:∃l,l=gs2.flatMap csGr:=⟨_,rfl⟩
      have HXL:=zA hX;have HROW:Hid (wy.ownsRow w3.heap.size 34 1 (.slice ua nu uc) nu X):=zA (by
       have h:=ho2.row;rw[<- hnu,<- hX]at h;exact h)
      have HO2:=zA ho2;have HGS2:=zA hgs2;have HBY:=zA hby;have HNU:=zA hnu;have hsy:w3.heap.size<=wy.heap.size:=hby.size;clear ho2 hgs2 hby hnu hX;by_cases hlk:k<n
      . have hlkI:(k:Int)<(n:Int):=by omega
        obtain⟨y,hy⟩:∃y,V[k]?=some y:=⟨_,zB (by rw[<- HN.out];exact hlk)⟩
        obtain⟨lb2,lo2,hla2,_,_,hck⟩:=HL3.out.get hy;injection hla2 with hla2;injection hla2 with hla2 hlo2;subst hla2 hlo2;have l1:=hck 0 _ rfl;rw[yD,yA]at l1;have HY:Hid (V.getD k []=y):=zA (by rw[List.getD,hy];rfl);obtain⟨mb,mo,mg,hma,_,mbl,m0,mgl,mr⟩:=HGM.out.at_ hlt;subst hma;obtain⟨m1,_⟩:=mr k hlk;have KS:Hid (∀u,Below w3.heap.size w3 u->u.cell? ⟨lb,lo+i,none⟩=some (.string ⟨x.toArray⟩)/\u.cell? ⟨lb,lo+k,none⟩=some (.string ⟨y.toArray⟩)):=zA (fun u hu=>⟨(hu.cell (p:=⟨lb,lo+i,none⟩) lbl).trans l0,(hu.cell (p:=⟨lb,lo+k,none⟩) lbl).trans l1⟩);have q0:=(HBY.out.cell (p:=⟨mb,mo+i,none⟩) mbl).trans m0;have q1:=(HBY.out.cell (p:=⟨mg,k,none⟩) mgl).trans m1;obtain⟨z,hz⟩:∃z,z=m i k:=⟨_,rfl⟩
        rw[<- hz]at q1;have HZ:=zA hz;clear hy hck mr m0 m1 hz;cases z with
        |true=>
         have HNP:Hid (pairRow V m i (k+1)=pairRow V m i k++[[x,y]]):=zA (by rw[pairRow_succ,if_pos HZ.out.symm,HX.out,HY.out]);have hA1:Below wy.heap.size wy (wy.alloc (.cells #[.string ⟨x.toArray⟩,.string ⟨y.toArray⟩] 9)).drew:=((zE _ _).alloc (zD _) _).drew;have hA2:Below wy.heap.size wy ((wy.alloc (.cells #[.string ⟨x.toArray⟩,.string ⟨y.toArray⟩] 9)).alloc (.cells #[.slice (some ⟨wy.heap.size,0,none⟩) 2 2] 34)).drew:=(((zE _ _).alloc (zD _) _).alloc (by simp) _).drew;have HA1:Hid (Below w3.heap.size w3 (wy.alloc (.cells #[.string ⟨x.toArray⟩,.string ⟨y.toArray⟩] 9)).drew):=zA (HBY.out.trans (hA1.mono HBY.out.size));have HA2:Hid (Below w3.heap.size w3 ((wy.alloc (.cells #[.string ⟨x.toArray⟩,.string ⟨y.toArray⟩] 9)).alloc (.cells #[.slice (some ⟨wy.heap.size,0,none⟩) 2 2] 34)).drew):=zA (HBY.out.trans (hA2.mono HBY.out.size));have HR3:Hid (((wy.alloc (.cells #[.string ⟨x.toArray⟩,.string ⟨y.toArray⟩] 9)).alloc (.cells #[.slice (some ⟨wy.heap.size,0,none⟩) 2 2] 34)).drew.ownsRow w3.heap.size 34 1 (.slice ua nu uc) nu X):=zA (owns_below HROW.out hA2);have hblk:((wy.alloc (.cells #[.string ⟨x.toArray⟩,.string ⟨y.toArray⟩] 9)).alloc (.cells #[.slice (some ⟨wy.heap.size,0,none⟩) 2 2] 34)).drew.heap[wy.heap.size+1]?=some (.cells #[.slice (some ⟨wy.heap.size,0,none⟩) 2 2] 34 (0,0)):=by
          have h:=heap_alloc_new (wy.alloc (.cells #[.string ⟨x.toArray⟩,.string ⟨y.toArray⟩] 9)) (.cells #[.slice (some ⟨wy.heap.size,0,none⟩) 2 2] 34);have e:(wy.alloc (.cells #[.string ⟨x.toArray⟩,.string ⟨y.toArray⟩] 9)).heap.size=wy.heap.size+1:=by simp
          rw[e]at h;exact h
         have HNW:Hid (∀(j:Nat) (u:Value),[Value.slice (some ⟨wy.heap.size,0,none⟩) 2 2][j]?=some u->((wy.alloc (.cells #[.string ⟨x.toArray⟩,.string ⟨y.toArray⟩] 9)).alloc (.cells #[.slice (some ⟨wy.heap.size,0,none⟩) 2 2] 34)).drew.cell? ((⟨wy.heap.size+1,0,none⟩:Addr).add j)=some u):=zA (World.news_of_block (cs:=#[.slice (some ⟨wy.heap.size,0,none⟩) 2 2]) hblk);have HKG:Hid (∀w9,((wy.alloc (.cells #[.string ⟨x.toArray⟩,.string ⟨y.toArray⟩] 9)).alloc (.cells #[.slice (some ⟨wy.heap.size,0,none⟩) 2 2] 34)).drew.grownBy w9 (Value.slice ua nu uc).ownBlock->Below w3.heap.size w3 w9):=zA (fun w9 hg=>HA2.out.grown hg HA2.out.size (fun k e=>(HROW.out.lt k e).1));have HA2s:Hid (Below wy.heap.size wy ((wy.alloc (.cells #[.string ⟨x.toArray⟩,.string ⟨y.toArray⟩] 9)).alloc (.cells #[.slice (some ⟨wy.heap.size,0,none⟩) 2 2] 34)).drew):=zA hA2;have HNB:Hid (RBlk ((wy.alloc (.cells #[.string ⟨x.toArray⟩,.string ⟨y.toArray⟩] 9)).alloc (.cells #[.slice (some ⟨wy.heap.size,0,none⟩) 2 2] 34)).drew (wy.heap.size,[x,y])):=zA (by
          show (World.alloc _ _).heap[wy.heap.size]?=_;rw[heap_alloc_old _ _ (by simp),heap_alloc_new];rfl)
         clear hA1 hA2 hblk;go_wp2_with fail;refine wp_region_held_drew (S:=fun u=>u.cell? ⟨lb,lo+i,none⟩=some (.string ⟨x.toArray⟩)/\u.cell? ⟨lb,lo+k,none⟩=some (.string ⟨y.toArray⟩)) (by kernel_rfl) ?_ (fun hHeld=>?_)
         . exact KS.out _ HBY.out.drew
         refine tkH (i:=0) (oi:=⟨some 39,.move (.tmp 8),28, "ref.go:145",#[],none⟩) (v:=?_) rfl ?_ hHeld ?_;rotate_left 1
         . rintro W ⟨s0,s1⟩;go_simp;try with_reducible rfl
         simp only[Act.put,zIB,zSZ,zSS];refine tkH (i:=1) (oi:=⟨some 40,.move (.tmp 6),34, "ref.go:145",#[],none⟩) (v:=?_) rfl ?_ hHeld ?_;rotate_left 1
         . rintro W ⟨s0,s1⟩;go_simp;try with_reducible rfl
         simp only[Act.put,zIB,zSZ,zSS];refine tkH (i:=2) (oi:=⟨some 41,.move (.tmp 9),3, "ref.go:145",#[],none⟩) (v:=?_) rfl ?_ hHeld ?_;rotate_left 1
         . rintro W ⟨s0,s1⟩;go_simp;try with_reducible rfl
         simp only[Act.put,zIB,zSZ,zSS];refine tkH (i:=3) (oi:=⟨some 42,.indexAddr 34 (.tmp 40) (.tmp 41),0, "ref.go:145",#[⟨1,.data⟩,⟨2,.data⟩],none⟩) (v:=?_) rfl ?_ hHeld ?_;rotate_left 1
         . rintro W ⟨s0,s1⟩;go_simp;try with_reducible rfl
         simp only[Act.put,zIB,zSZ,zSS];refine tkH (i:=4) (oi:=⟨some 43,.load 9 (.tmp 42),9, "ref.go:145",#[⟨3,.data⟩],none⟩) (v:=?_) rfl ?_ hHeld ?_;rotate_left 1
         . rintro W ⟨s0,s1⟩;go_simp;try with_reducible rfl
         simp only[Act.put,zIB,zSZ,zSS];refine tkH (i:=5) (oi:=⟨some 44,.move (.tmp 6),34, "ref.go:145",#[],none⟩) (v:=?_) rfl ?_ hHeld ?_;rotate_left 1
         . rintro W ⟨s0,s1⟩;go_simp;try with_reducible rfl
         simp only[Act.put,zIB,zSZ,zSS];refine tkH (i:=6) (oi:=⟨some 45,.move (.tmp 10),3, "ref.go:145",#[],none⟩) (v:=?_) rfl ?_ hHeld ?_;rotate_left 1
         . rintro W ⟨s0,s1⟩;go_simp;try with_reducible rfl
         simp only[Act.put,zIB,zSZ,zSS];refine tkH (i:=7) (oi:=⟨some 46,.indexAddr 34 (.tmp 44) (.tmp 45),0, "ref.go:145",#[⟨5,.data⟩,⟨6,.data⟩],none⟩) (v:=?_) rfl ?_ hHeld ?_;rotate_left 1
         . rintro W ⟨s0,s1⟩;go_simp;try with_reducible rfl
         simp only[Act.put,zIB,zSZ,zSS];refine tkH (i:=8) (oi:=⟨some 47,.load 9 (.tmp 46),9, "ref.go:145",#[⟨7,.data⟩],none⟩) (v:=?_) rfl ?_ hHeld ?_;rotate_left 1
         . rintro W ⟨s0,s1⟩;go_simp;try with_reducible rfl
         simp only[Act.put,zIB,zSZ,zSS];refine wpAnyH_ready (rs:=[9]) (by kernel_rfl) (by simp) ?_;refine AllReadyH.cons (o:=⟨some 48,.buildSlice 34 2 #[(0,.tmp 43),(1,.tmp 47)],34, "ref.go:145",#[⟨4,.data⟩,⟨8,.data⟩],none⟩) rfl (fun K hK=>?_) AllReadyH.nil;go_simp;refine hK.out _ _ (KS.out _ HA1.out) (fun hHeld=>?_);clear hK K;refine wpAnyH_ready (rs:=[10]) (by kernel_rfl) (by simp) ?_;refine AllReadyH.cons (o:=⟨some 49,.buildSlice 28 1 #[(0,.tmp 48)],28, "ref.go:145",#[⟨9,.data⟩],none⟩) rfl (fun K hK=>?_) AllReadyH.nil;go_simp;refine hK.out _ _ (KS.out _ HA2.out) (fun hHeld=>?_);clear hK K;refine wpAnyH_ready (rs:=[11]) (by kernel_rfl) (by simp) ?_;refine AllReadyH.cons (o:=⟨some 50,.call { callee:=.builtin .append,args:=#[.tmp 39,.tmp 49],argTypes:=#[28,28] },28, "ref.go:145",#[⟨0,.data⟩,⟨10,.data⟩],none⟩) rfl (fun K hK=>?_) AllReadyH.nil;refine step_append_lies _ (by rfl) _ _ _ (by rfl) w3.heap.size 34 i0 _ 1 24 Tryz.underlying28 hi0 hz0 hz1 hz2 rfl (by decide) (.slice ua nu uc) _ _ (by rfl) HR3.out ⟨wy.heap.size+1,0,none⟩ 1 1 [.slice (some ⟨wy.heap.size,0,none⟩) 2 2] (by rfl) (by rfl) HNW.out (by simp[Value.oneCell']) (by decide) (by unfold maxLen;omega) (by omega) (by simp;omega) (wy.heap.size+2) (by simp) ?_;intro gg cap2 w9 hown9 hgrow9 hat9 hlt9;have hp9:=HKG.out w9 hgrow9;refine hK.out _ _ (KS.out _ hp9) (fun hHeld=>?_);clear hK K;refine tkH (i:=12) (oi:=⟨some 8,.assign (.tmp 50),28, "ref.go:145",#[⟨11,.data⟩,⟨11,.chain⟩,⟨0,.phase⟩,⟨1,.phase⟩,⟨2,.phase⟩,⟨3,.phase⟩,⟨4,.phase⟩,⟨5,.phase⟩,⟨6,.phase⟩,⟨7,.phase⟩,⟨8,.phase⟩,⟨9,.phase⟩,⟨10,.phase⟩,⟨11,.phase⟩],none⟩) (v:=?_) rfl ?_ hHeld ?_;rotate_left 1
         . rintro W ⟨s0,s1⟩;go_simp;try with_reducible rfl
         simp only[Act.put,zIB,zSZ,zSS];refine wpAnyH_done (by kernel_rfl) ?_ _;have HP9:=zA hp9;have HO9:Hid (RowO w3.heap.size w9 (.slice (some ⟨gg,0,none⟩) (nu+1) cap2) (gs2++[(wy.heap.size,[x,y])])):=zA (by
          refine⟨?_,fun p hp=>?_⟩
          . rw[zG,<- HNU.out,zR,<- HXL.out];exact hown9
          . have key:RBlk ((wy.alloc (.cells #[.string ⟨x.toArray⟩,.string ⟨y.toArray⟩] 9)).alloc (.cells #[.slice (some ⟨wy.heap.size,0,none⟩) 2 2] 34)).drew p->RBlk w9 p:=fun h=>(hgrow9.block p.1 (lt_of_block h) (fun e=>own_neM HR3.out h (by decide) e.symm)).trans h
            rcases zM.1 hp with hp|hp
            . exact key ((HA2s.out.block p.1 (lt_of_block (HO2.out.blk p hp))).trans (HO2.out.blk p hp))
            . simp at hp;subst hp;exact key HNB.out)
         have HG9:Hid ((gs2++[(wy.heap.size,[x,y])]).map (·.2)=pairsTo V m i++pairRow V m i (k+1)):=zA (by
          rw[yK,HGS2.out,HNP.out,List.append_assoc];rfl)
         clear hown9 hgrow9 hat9 hlt9 hp9;go_wp2;go_roundw
         case rel=>exact⟨k+1,_,_,rfl,by omega,by go_num,HG9.out,HO9.out,HP9.out⟩
         case measure=>simp[intOf];omega
        |false=>
         have HG9:Hid (gs2.map (·.2)=pairsTo V m i++pairRow V m i (k+1)):=zA (by
          rw[pairRow_succ,if_neg (by rw[<- HZ.out];simp),List.append_nil];exact HGS2.out)
         go_wp2;go_roundw
         case rel=>exact⟨k+1,_,gs2,rfl,by omega,by go_num,HG9.out,HO2.out,HBY.out⟩
         case measure=>simp[intOf];omega
      . have hlkI:¬(k:Int)<(n:Int):=by omega
        have HG9:Hid (gs2.map (·.2)=pairsTo V m (i+1)):=zA (by
         rw[pairsTo_succ,HGS2.out,<- HN.out,show k=n by omega])
        go_wp2;go_roundw
        case rel=>exact⟨i+1,_,gs2,rfl,by omega,by go_num,HG9.out,HO2.out,HBY.out⟩
        case measure=>simp[intOf];omega
   . have hltI:¬(i:Int)<(n:Int):=by omega
     have HM9:Hid (RowsM wx u R):=zA (by
      have hin:i=n:=by omega
      have h:=HO.out.rows (fun p hp=>by
       have h1:p.2∈gs.map (·.2):=zW hp;rw[HGS.out]at h1;rw[pairs_two _ h1];omega)
      rw[HGS.out,hin,<- HR2.out]at h;exact h)
     go_wp2;go_ret2;exact⟨_,by rw[HEC2.out];rfl,HM9.out,below_boxQ (HB3.out.trans (HBQ.out.mono HB3.out.size))⟩
end Go.Proofs.YtkbgmcmcpbegjaaGreatDoor
