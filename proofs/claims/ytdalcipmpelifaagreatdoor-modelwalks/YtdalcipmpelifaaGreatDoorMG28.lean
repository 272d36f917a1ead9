/- GPairs. -/
import Derived.Test.YtdalcipmpelifaaGreatDoorMG27
import Derived.Test.YtdalcipmpelifaaGreatDoorMG16
set_option maxRecDepth 100000
namespace Go.Proofs.YtdalcipmpelifaaGreatDoor
open Go.RowKit Go.Shelf
theorem eg_bound{fs:List Fa}(hw:∀f∈fs,f.1.length<=140737488351232/\f.2.1.length<=140737488351232/\f.2.2.length<=140737488351232):∀e∈fs.map (egOf (vertsL fs)),e.1<(vertsL fs).length/\e.2.2<(vertsL fs).length/\e.2.1.length<=140737488351232:=fun e he=>by
 obtain⟨h1,h2⟩:=edge_in fs e he;obtain⟨f,hf,rfl⟩:=zR.1 he;exact⟨h1,h2,(hw f hf).2.1⟩
noncomputable def leadB (fs:List Fa) (p:Pt):Mt:=fun i j=>@decide (leadP fs p ((vertsL fs).getD i []) ((vertsL fs).getD j [])) (Classical.propDecidable _)
theorem leadB_spec(fs:List Fa)(p:Pt):SpecM (vertsL fs) (leadB fs p) (leadP fs p):=fun i j x y hx hy=>by
 have e1:(vertsL fs).getD i []=x:=by rw[List.getD,hx];rfl
 have e2:(vertsL fs).getD j []=y:=by rw[List.getD,hy];rfl
 unfold leadB;rw[e1,e2];exact @decide_eq_true_iff _ (Classical.propDecidable _)
theorem leadB_rows(fs:List Fa){p:Pt}(h:mayP p=true):pairsTo (vertsL fs) (leadB fs p) (vertsL fs).length=pairsL fs p:=by
 obtain⟨h1,h2⟩:=pairs_spec (verts_rise fs) (leadB_spec fs p);obtain⟨h3,h4⟩:=pairsL_spec fs h;refine riseL_ext ordR h1 h3 (fun r=>?_);rw[h2,h4];constructor
 . rintro⟨x,y,e,_,_,h⟩;exact⟨x,y,e,h⟩
 . rintro⟨x,y,e,h⟩;exact⟨x,y,e,h.1,lead_vert h,h⟩
set_option maxHeartbeats 8000000 in
theorem vertM_any{S0:Nat->Prop}{w:World}{v:Value}{fs:List Fa}(h:FasS S0 w v fs)(hl:fs.length<=5000)(hw:∀f∈fs,f.1.length<=140737488351232/\f.2.1.length<=140737488351232/\f.2.2.length<=140737488351232):
 Calls Tryz.prog 17 #[v] w fun e w'=>∃v',e=.returned v'/\TxtS (fun _=>True) w' v' (vertsL fs)/\Below w.heap.size w w':=by
 have C:=zA (newGraph_any h (by omega) hw);obtain⟨ao,cap,rfl⟩:=h.slice;clear h hw;go_enter Tryz.func17,Tryz.ntmps17;go_wp2_with fail;refine C.out.mono ?_;rintro e w1 ⟨gb,mb,nv,ev,DD,c,rfl,hg,hb⟩;obtain⟨⟨g0,_,_⟩,_⟩:=cells3G hg.blk;have HT:Hid (TxtS (fun _=>True) w1 nv (vertsL fs)):=zA (hg.names.sub (fun _ _ _=>trivial));have HB:=zA hb;obtain⟨na,ncap,hnv⟩:=hg.names.slice;rw[hnv]at g0 HT;clear hg hb hnv;go_wp2;go_ret;exact⟨_,rfl,HT.out,HB.out⟩
set_option maxHeartbeats 32000000 in
theorem pairsM_any{S0:Nat->Prop}{w:World}{vf:Value}{fs:List Fa}{t:Vt}(hf:FasS S0 w vf fs)(hl:fs.length<=1000)(hw:∀f∈fs,f.1.length<=140737488351232/\f.2.1.length<=140737488351232/\f.2.2.length<=140737488351232)(hok:VOk S0 w t)(hT:TabG w):
 Calls Tryz.prog 9 #[vf,encN t] w fun e w'=>∃v,e=.returned (.tuple #[v,.int .i64 (if mayP t.pt=true then 0 else 1)])/\RowsM w' v (if mayP t.pt=true then pairsL fs t.pt else [])/\Below w.heap.size w w':=by
 obtain⟨P,hP⟩:∃P,P=t.pt:=⟨_,rfl⟩
 rw[<- hP];have HP:=zA hP;have HF:=zA hf;have HW:=zA hw;have HOK:=zA hok;have HT:=zA hT;have hz0:0<w.heap.size:=World.block_lt_of_cell? _ _ (hT 0 (by decide));obtain⟨fa,fc,hvf⟩:=hf.slice;obtain⟨nf,hnf⟩:∃n,n=fs.length:=⟨_,rfl⟩
 rw[<- hnf]at hvf;subst hvf;have CO:Hid (∀u,Below w.heap.size w u->Calls Tryz.prog 18 #[encN t] u fun e w'=>∃m:Mu,e=.returned (.tuple #[encU m,.int .i64 (if mayP P=true then 0 else 1)])/\UOk (fun g=>u.heap.size<=g) w' m/\m.au=ofA P/\Below u.heap.size u w'):=zA (fun u hu=>by rw[hP];exact of_any (hok.below hu));obtain⟨ka,kc,hkv⟩:=hok.parts.1.slice;obtain⟨k,wd,v,l⟩:=t;dsimp only at hkv;subst hkv;obtain⟨kn,hkn⟩:∃n,n=l.length:=⟨_,rfl⟩
 rw[<- hkn]at CO ⊢;have HNF:=zA hnf;clear hf hw hok hT hP hnf hkn;show Calls Tryz.prog _ #[_,.agg #[.int .i64 k,.string ⟨wd.toArray⟩,.slice ka kn kc]] w _;obtain⟨o,ho⟩:∃o,o=Obj.cells #[.int .i64 k,.string ⟨wd.toArray⟩,.slice ka kn kc] 25 (0,0):=⟨_,rfl⟩
 have HBA:Hid (Below w.heap.size w (w.alloc o)):=zA ((zF _ _).alloc (zD _) _);have C1:=zA (CO.out (w.alloc o) HBA.out);have C1b:Hid (Calls Tryz.prog 18 #[.agg #[.int .i64 k,.string ⟨wd.toArray⟩,.slice ka kn kc]] (w.alloc o) fun e w'=>∃m:Mu,e=.returned (.tuple #[encU m,.int .i64 (if mayP P=true then 0 else 1)])/\UOk (fun g=>(w.alloc o).heap.size<=g) w' m/\m.au=ofA P/\Below (w.alloc o).heap.size (w.alloc o) w'):=C1;subst ho;clear C1 CO;obtain⟨b,hb⟩:∃b,b=mayP P:=⟨_,rfl⟩
 rw[<- hb]at C1b ⊢;have HB:=zA hb;clear hb;go_enter Tryz.func9,Tryz.ntmps9;go_wp2_with fail;refine C1b.out.mono ?_;rintro e w1 ⟨m,rfl,hu,hau,hb1⟩;have HU:=zA hu;have HAU:=zA hau;have HB1:=zA (HBA.out.trans (hb1.mono HBA.out.size));obtain⟨wa,wcc,fa2,fc2,la,lc,oa,oc,e1,e2,e3,e4⟩:=hu.slices;obtain⟨wv,ws,fv,fs2,lv,ls,ov,os,em⟩:=m;dsimp only at e1 e2 e3 e4;subst e1 e2 e3 e4;clear hu hau hb1 C1b;obtain⟨nw,hnw⟩:∃n,n=ws.length:=⟨_,rfl⟩
 obtain⟨no,hno⟩:∃n,n=os.length:=⟨_,rfl⟩
 obtain⟨nf2,hnf2⟩:∃n,n=fs2.length:=⟨_,rfl⟩
 obtain⟨nl,hnl⟩:∃n,n=ls.length:=⟨_,rfl⟩
 obtain⟨mu0,hmu⟩:∃m:Mu,m=⟨.slice wa ws.length wcc,ws,.slice fa2 fs2.length fc2,fs2,.slice la ls.length lc,ls,.slice oa os.length oc,os,em⟩:=⟨_,rfl⟩
 rw[<- hmu]at HU HAU;have HEN:Hid (encU mu0=.agg #[.slice wa nw wcc,.slice fa2 nf2 fc2,.slice la nl lc,.slice oa no oc,.bool em]):=zA (by rw[hmu,hnw,hno,hnf2,hnl]);rw[<- hmu,HEN.out];clear hmu hnw hno hnf2 hnl;cases b with
 |false=>
  go_wp2;go_ret2;exact⟨.slice none 0 0,rfl,rowsM_nil _,HB1.out.alloc HB1.out.size _⟩
 |true=>
  obtain⟨o2,ho2⟩:∃o,o=Obj.cells #[.slice wa nw wcc,.slice fa2 nf2 fc2,.slice la nl lc,.slice oa no oc,.bool em] 59 (0,0):=⟨_,rfl⟩
  obtain⟨w2,hw2⟩:∃W,W=w1.alloc o2:=⟨_,rfl⟩
  obtain⟨ab,hab⟩:∃b,b=w1.heap.size:=⟨_,rfl⟩
  have hb12:Below w1.heap.size w1 w2:=by rw[hw2];exact(zF _ _).alloc (zD _) _
  have HB2:=zA (HB1.out.trans (hb12.mono HB1.out.size));have HU2:=zA (HU.out.below hb12);have HAB:Hid (w2.heap[ab]?=some o2):=zA (by rw[hw2,hab];exact heap_alloc_new _ _);have HO2:=zA ho2;have CG:=zA (newGraph_any (HF.out.below HB2.out) (by rw[<- HNF.out]at hl;have:=HNF.out;omega) HW.out);rw[<- HNF.out]at hl;have hsz12:w.heap.size<w2.heap.size:=by have:=HB1.out.size;rw[hw2];simp;omega
  go_wp2_with fail;rw[<- ho2,<- hw2,<- hab];clear ho2 hw2 hab hb12;refine CG.out.mono ?_;rintro e w3 ⟨gb,mb,nv,ev,DD,c,rfl,hg,hb3⟩;have HG3:=zA hg;have HB23:=zA hb3;obtain⟨o3,ho3⟩:∃o,o=Obj.cells #[.pointer (some ⟨gb,0,none⟩)] 62 (0,0):=⟨_,rfl⟩
  obtain⟨w4,hw4⟩:∃W,W=w3.alloc o3:=⟨_,rfl⟩
  obtain⟨vg,hvg⟩:∃b,b=w3.heap.size:=⟨_,rfl⟩
  have hb34:Below w3.heap.size w3 w4:=by rw[hw4];exact(zF _ _).alloc (zD _) _
  have HG4:=zA (HG3.out.keep (T:=fun k=>w2.heap.size<=k/\k<w3.heap.size) hb34.size (fun b hs hlb=>⟨⟨hs,hlb⟩,hb34.block b hlb⟩));have HB24:Hid (Below w2.heap.size w2 w4):=zA (hb3.trans (hb34.mono hb3.size));have HU4:=zA (HU2.out.below HB24.out);have HAB4:Hid (w4.heap[ab]?=some o2):=zA ((HB24.out.block ab (lt_of_block HAB.out)).trans HAB.out);have HVG:Hid (w4.heap[vg]?=some o3):=zA (by rw[hw4,hvg];exact heap_alloc_new _ _);have HVGe:=zA hvg;have hs34:w4.heap.size=w3.heap.size+1:=by rw[hw4];simp
  have HS34:=zA hs34;have HO3:=zA ho3;have HAUP:Hid (mu0.au=autoOf P):=zA (by rw[HAU.out,ofA,if_pos HB.out.symm]);have HMAY:Hid (mayA mu0.au=true):=zA (by rw[HAUP.out];exact(auto_will HB.out.symm).1);have hvl2:=verts_len fs;have CS:=zA (newSearch_any HG4.out HU4.out HMAY.out (by have:=HNF.out;omega) (by rw[zH];have:=HNF.out;omega) (eg_bound HW.out));rw[HEN.out]at CS;have⟨z0,z1,z2,z3,z4⟩:w4.cell? ⟨ab,0,none⟩=some (.slice wa nw wcc)/\w4.cell? ⟨ab,1,none⟩=some (.slice fa2 nf2 fc2)/\w4.cell? ⟨ab,2,none⟩=some (.slice la nl lc)/\w4.cell? ⟨ab,3,none⟩=some (.slice oa no oc)/\w4.cell? ⟨ab,4,none⟩=some (.bool em):=by
   have h1:=HAB4.out;rw[HO2.out]at h1;exact cells5 h1
  have z5:w4.cell? ⟨vg,0,none⟩=some (.pointer (some ⟨gb,0,none⟩)):=by
   have h1:=HVG.out;rw[HO3.out]at h1;simp[World.cell?,h1]
  rw[hw4,ho3]at z0 z1 z2 z3 z4 z5;rw[hvg]at z5;clear hg hb3 hb34 hs34 hvl2;go_wp2_with fail;rw[<- ho3,<- hw4,<- hvg];clear ho3 hw4 hvg z0 z1 z2 z3 z4 z5;refine CS.out.mono ?_;rintro e w5 ⟨sb,m2,kp,rfl,hsr,hown,hkp,hb5⟩;have HSR:=zA hsr;have HOWN:=zA hown;have HKP:=zA hkp;have HB45:=zA hb5;obtain⟨o5,ho5⟩:∃o,o=Obj.cells #[.pointer (some ⟨sb,0,none⟩)] 64 (0,0):=⟨_,rfl⟩
  obtain⟨o6,ho6⟩:∃o,o=Obj.cells #[.slice none 0 0] 33 (0,0):=⟨_,rfl⟩
  obtain⟨w7,hw7⟩:∃W,W=(w5.alloc o5).alloc o6:=⟨_,rfl⟩
  obtain⟨vs,hvs⟩:∃b,b=w5.heap.size:=⟨_,rfl⟩
  obtain⟨vl,hvl⟩:∃b,b=w5.heap.size+1:=⟨_,rfl⟩
  have HVSe:=zA hvs;have HVLe:=zA hvl;have hb57:Below w5.heap.size w5 w7:=by rw[hw7];exact((zF _ _).alloc (zD _) _).alloc (by simp) _
  have HB57:=zA hb57;have hs57:w7.heap.size=w5.heap.size+2:=by rw[hw7];simp
  have HS57:=zA hs57;have HVS:Hid (w7.heap[vs]?=some o5):=zA (by rw[hw7,hvs];exact get_atG [o5,o6] w5 0 (by simp));have HVL:Hid (w7.heap[vl]?=some o6):=zA (by rw[hw7,hvl];exact get_atG [o5,o6] w5 1 (by simp));have HO5:=zA ho5;have HO6:=zA ho6;have HB47:Hid (Below w4.heap.size w4 w7):=zA (hb5.trans (hb57.mono hb5.size));obtain⟨V,hV⟩:∃V,V=vertsL fs:=⟨_,rfl⟩
  have HV:=zA hV;obtain⟨nV,hnV⟩:∃n,n=V.length:=⟨_,rfl⟩
  have HNV:=zA hnV;have hnVl:nV<=2000:=by rw[hnV,hV];have:=verts_len fs;have:=HNF.out;omega
  have HG7:Hid (GrS (fun k=>w2.heap.size<=k/\k<w3.heap.size) w7 gb V (fs.map (egOf V)) mb nv ev DD c):=zA (by rw[hV];exact HG4.out.keep HB47.out.size (fun b hs hlb=>⟨hs,HB47.out.block b hlb⟩));have CV:Hid (Calls Tryz.prog 23 #[.pointer (some ⟨gb,0,none⟩)] w7.drew fun e w'=>e=.returned (.slice (some ⟨w7.heap.size,0,none⟩) nV nV)/\VRow w' w7.heap.size 3 ((List.range nV).flatMap csI)/\Below w7.heap.size w7.drew w'):=zA (by
   have h1:=vertices_any (HG7.out.keep (w':=w7.drew) (T:=fun _=>True) (zD _) (fun b _ _=>⟨trivial,rfl⟩)) (by rw[<- hnV];omega);rw[<- hnV]at h1;exact h1)
  have KS:Hid (∀u:World,Below w7.heap.size w7 u->(u.cell? ⟨vs,0,none⟩=some (.pointer (some ⟨sb,0,none⟩))/\u.cell? ⟨vg,0,none⟩=some (.pointer (some ⟨gb,0,none⟩)))):=zA (fun u hu=>by
   have h1:=(hu.block vs (lt_of_block HVS.out)).trans HVS.out;have hvg7:=(HB47.out.block vg (lt_of_block HVG.out)).trans HVG.out;have h2:=(hu.block vg (lt_of_block hvg7)).trans hvg7;rw[HO5.out]at h1;rw[HO3.out]at h2;exact⟨by simp[World.cell?,h1],by simp[World.cell?,h2]⟩)
  have HA0:Hid (Below w7.heap.size w7 w7.drew):=zA (zF _ _).drew;clear hsr hown hkp hb5 hb57 hs57 hV hnV;go_wp2_with fail;rw[<- ho5,<- ho6,<- hw7,<- hvl,<- hvs];clear ho5 ho6 hw7 hvs hvl;refine wp_region_held_drew (S:=fun u=>u.cell? ⟨vs,0,none⟩=some (.pointer (some ⟨sb,0,none⟩))/\u.cell? ⟨vg,0,none⟩=some (.pointer (some ⟨gb,0,none⟩))) (by kernel_rfl) ?_ (fun hHeld=>?_)
  . exact KS.out _ HA0.out
  refine tkH (i:=0) (oi:=⟨some 23,.load 64 (.tmp 9),64, "model.go:27",#[],none⟩) (v:=?_) rfl ?_ hHeld ?_;rotate_left 1
  . rintro W ⟨l1,l2⟩;go_simp;try with_reducible rfl
  simp only[Act.put,zIB,zSZ,zSS];refine tkH (i:=1) (oi:=⟨some 24,.load 62 (.tmp 8),62, "model.go:27",#[],none⟩) (v:=?_) rfl ?_ hHeld ?_;rotate_left 1
  . rintro W ⟨l1,l2⟩;go_simp;try with_reducible rfl
  simp only[Act.put,zIB,zSZ,zSS];refine tkH (i:=4) (oi:=⟨some 27,.makeFunc (.func 24) #[] #[.tmp 9,.tmp 10,.tmp 8],73, "model.go:27",#[],none⟩) (v:=?_) rfl ?_ hHeld ?_;rotate_left 1
  . rintro W ⟨l1,l2⟩;go_simp;try with_reducible rfl
  simp only[Act.put,zIB,zSZ,zSS];refine wpAnyH_ready (rs:=[2]) (by kernel_rfl) (by simp) ?_;refine AllReadyH.cons (o:=⟨some 25,.call { callee:=.value (.func 23),args:=#[.tmp 24],argTypes:=#[62] },56, "model.go:27",#[⟨1,.data⟩],none⟩) rfl (fun K hK=>?_) AllReadyH.nil;go_simp;refine CV.out.mono ?_;rintro e w8 ⟨rfl,hrow8,hb78⟩;have HB78:Hid (Below w7.heap.size w7 w8):=zA (HA0.out.trans hb78);have HROW8:=zA hrow8;have hs78:w7.heap.size<w8.heap.size:=lt_of_block hrow8;have CO2:=zA (oneByOne_any (S:=fun k=>k=w7.heap.size) (l:=List.range nV) (v:=.slice (some ⟨w7.heap.size,0,none⟩) nV nV) (w:=w8) ⟨hrow8.sl csI_len (by simp),some ⟨w7.heap.size,0,none⟩,nV,by simp,by simp⟩ (by simp;omega));clear hrow8 hb78;refine hK.out _ _ (KS.out _ HB78.out) (fun hHeld=>?_);clear hK K;refine wpAnyH_ready (rs:=[3]) (by kernel_rfl) (by simp) ?_;refine AllReadyH.cons (o:=⟨some 26,.call { callee:=.value (.func 22),args:=#[.tmp 25],argTypes:=#[56] },57, "model.go:27",#[⟨2,.data⟩,⟨2,.chain⟩],none⟩) rfl (fun K hK=>?_) AllReadyH.nil;go_simp;refine CO2.out.mono ?_;rintro e w9 ⟨L,rfl,hrow9,hLm,hLr,hb89⟩;have HB79:Hid (Below w7.heap.size w7 w9):=zA (HB78.out.trans (hb89.mono HB78.out.size));have hs89:w8.heap.size<w9.heap.size:=lt_of_block hrow9;have hLl:L.length=nV:=by
   have:=congrArg List.length hLm;simpa using this
  rw[List.length_range];obtain⟨S9,hS9⟩:∃S:Nat->Prop,S=fun k=>k<w9.heap.size/\¬OwnB sb m2 k:=⟨_,rfl⟩
  obtain⟨S8,hS8⟩:∃S:Nat->Prop,S=fun k=>k<w9.heap.size/\¬OwnB sb m2 k/\k≠vl:=⟨_,rfl⟩
  have HS9:Hid (∀k,S9 k↔(k<w9.heap.size/\¬OwnB sb m2 k)):=zA (fun k=>by rw[hS9]);have HS8:Hid (∀k,S8 k↔(k<w9.heap.size/\¬OwnB sb m2 k/\k≠vl)):=zA (fun k=>by rw[hS8]);have hownlt:∀k,OwnB sb m2 k->w4.heap.size<=k/\k<w5.heap.size:=fun k hk=>⟨HOWN.out k hk,HSR.out.own_lt hk⟩
  have hsz45:=HB45.out.size;have hsz57:=HS57.out;have hout:∀k,k<w9.heap.size->(k<w4.heap.size\/w5.heap.size<=k)->k≠vl->S8 k:=fun k h1 h2 h3=>(HS8.out k).2 ⟨h1,fun ho=>by have:=hownlt k ho;omega,h3⟩
  have hvle:=HVLe.out;have hvse:=HVSe.out;have hvge:=HVGe.out;have h34:=HS34.out;have h23:=HB23.out.size;have HB59:Hid (Below w5.heap.size w5 w9):=zA (HB57.out.trans (HB79.out.mono HB57.out.size));have HSR9:Hid (SrS S9 w9 sb (sdOf kp V.length (fs.map (egOf V)) (autoOf P)) ⟨List.replicate V.length 0,List.replicate V.length 0,[],[]⟩ m2):=zA (by
   have h1:=HSR.out;rw[HAUP.out,<- HV.out]at h1;exact h1.keep HB59.out.size (fun k hk ho=>⟨fun h2=>((HS9.out k).1 h2).2 ho,HB59.out.block k hk⟩) (fun k hk _=>HB59.out.block k hk) (fun k hk=>by
    have h2:=h1.kS k hk;exact(HS9.out k).2 ⟨zO h2.1 HB59.out.size,h2.2⟩))
  have hdOk:=HSR9.out.ok;have hLS:LstS S8 w9 (.slice (some ⟨w8.heap.size,0,none⟩) nV nV) L:=⟨(hrow9.sl csRow_len hLl.symm).sub (fun b hb _=>by subst hb;exact hout _ hs89 (by omega) (by omega)),fun r hr=>(hLr r hr).sub (fun b hb _=>by subst hb;exact hout _ (by omega) (by omega) (by omega))⟩
  have hT9:TabG w9:=HT.out.below (B:=w.heap.size) hz0 (HB2.out.trans ((HB24.out.trans ((HB47.out.trans (HB79.out.mono (HB47.out.size))).mono HB24.out.size)).mono HB2.out.size));have h08:S8 0:=hout 0 (by omega) (.inl (by omega)) (by omega);have hvg9:w9.heap[vg]?=some (.cells #[.pointer (some ⟨gb,0,none⟩)] 62 (0,0)):=by
   have h1:=(HB79.out.block vg (by omega)).trans ((HB47.out.block vg (lt_of_block HVG.out)).trans HVG.out);rw[HO3.out]at h1;exact h1
  have hvs9:w9.heap[vs]?=some (.cells #[.pointer (some ⟨sb,0,none⟩)] 64 (0,0)):=by
   have h1:=(HB79.out.block vs (lt_of_block HVS.out)).trans HVS.out;rw[HO5.out]at h1;exact h1
  have hvl9:w9.heap[vl]?=some (.cells #[.slice none 0 0] 33 (0,0)):=by
   have h1:=(HB79.out.block vl (lt_of_block HVL.out)).trans HVL.out;rw[HO6.out]at h1;exact h1
  have hG9:GrS S8 w9 gb V (fs.map (egOf V)) mb nv ev DD c:=HG7.out.keep HB79.out.size (fun b hs hlb=>⟨hout b (by have:=HB79.out.size;omega) (.inl (by omega)) (by omega),HB79.out.block b hlb⟩);have hfound:=pairs1_any (w0:=w9) (S0:=S8) (vs:=vs) (vl:=vl) (vg:=vg) (mt:=leadB fs P) (d:=sdOf kp V.length (fs.map (egOf V)) (autoOf P)) (L:=L) (fun k hk=>((HS8.out k).1 hk).1) (fun h=>((HS8.out vl).1 h).2.2 rfl) hvs9 (hout vs (by omega) (by omega) (by omega)) hvg9 (hout vg (by omega) (by omega) (by omega)) hG9 rfl (by rw[<- HNV.out];omega) (by rw[hLm,HNV.out]) (fun i j hi hj=>by
   have hi:i<V.length:=hi;have hj:j<V.length:=hj;have e1:V[i]?=some (V.getD i []):=by rw[List.getD,zB hi];rfl
   have e2:V[j]?=some (V.getD j []):=by rw[List.getD,zB hj];rfl
   have h1:=leadB_spec fs P i j _ _ (by rw[<- HV.out];exact e1) (by rw[<- HV.out];exact e2);rw[h1,HV.out];exact(search_lead (kp:=kp) HB.out.symm (by rw[<- HV.out];exact e1) (by rw[<- HV.out];exact e2)).symm) (fun k hk=>(HS8.out k).2 ⟨by have:=HKP.out k hk;have:=HB59.out.size;omega,((HS9.out k).1 (HSR9.out.kS k hk)).2,by have:=HKP.out k hk;omega⟩)
  have CE:=zA (each_any (fn:=24) (enters_of Tryz.func24 (by kernel_rfl) rfl) HSR9.out (fun k hk=>((HS9.out k).1 hk).1) (rest_new _) (by show V.length<=10000;rw[<- HNV.out];omega) (fun u=>by
   have h1:(sdOf kp V.length (fs.map (egOf V)) (autoOf P)).out u=((List.range V.length).map (stepsOf (autoOf P) (fs.map (egOf V)))).getD u []:=rfl;rw[h1,List.getD,zI];cases hu:(List.range V.length)[u]? with
   |none=>simp
   |some x=>
    show (stepsOf (autoOf P) (fs.map (egOf V)) x).length<=_;unfold stepsOf;have h2:=List.length_filterMap_le (fun e:Eg=>if e.1=x/\atW (autoOf P) e.2.1≠0 then some (e.2.2,atW (autoOf P) e.2.1)else none) (fs.map (egOf V));rw[zH]at h2;have:=HNF.out;omega) (by rw[hLl];omega) (fun r hr=>by
   have h1:r.2∈L.map (·.2):=zU hr;rw[hLm]at h1;obtain⟨x,hx,e⟩:=zR.1 h1;rw[<- e];have hx:=yA.1 hx;exact⟨fun u hu=>by rw[zJ.1 hu];show x<V.length;rw[<- HNV.out];exact hx,by simp⟩) (fun i T a b hi hf=>hi.keep hf) (fun i T a hi=>⟨(hLS.fr hi.fr).sub (fun b hb _=>hi.sub b hb),hT9.fr h08 hi.fr,hi.sub 0 h08⟩) hfound ⟨fun k hk=>(HS9.out k).2 ⟨((HS8.out k).1 hk).1,((HS8.out k).1 hk).2.1⟩,Fr.refl _ _,(HS9.out vl).2 ⟨by omega,fun ho=>by have:=hownlt vl ho;omega⟩,.slice none 0 0,[],hvl9,⟨World.ownsRow_nil _ _ _ _,by simp⟩,by intro g hg;simp[Value.ownBlock]at hg,by simp,rfl⟩)
  have HLW:Hid (Low S8 w9):=zA (fun k hk=>((HS8.out k).1 hk).1);have HBW9:Hid (Below w.heap.size w w9):=zA (HB2.out.trans ((HB24.out.trans ((HB47.out.trans (HB79.out.mono (HB47.out.size))).mono HB24.out.size)).mono HB2.out.size));have HS8w:Hid (∀k,k<w.heap.size->S8 k):=zA (fun k hk=>hout k (by omega) (.inl (by omega)) (by omega));have hS8vs:=hout vs (by omega) (by omega) (by omega);have hS8vg:=hout vg (by omega) (by omega) (by omega);have KE:Hid (∀u:World,Fr S8 w9 u->(u.cell? ⟨vs,0,none⟩=some (.pointer (some ⟨sb,0,none⟩))/\u.cell? ⟨vg,0,none⟩=some (.pointer (some ⟨gb,0,none⟩)))):=zA (fun u hu=>by
   have h1:=(hu.block vs hS8vs).trans hvs9;have h2:=(hu.block vg hS8vg).trans hvg9;exact⟨by simp[World.cell?,h1],by simp[World.cell?,h2]⟩)
  refine hK.out _ _ (KS.out _ HB79.out) (fun hHeld=>?_);have HLL:=zA hLl;clear hK K hrow9 hLm hLr hb89 hS9 hS8 hownlt hout hfound hLS hT9 h08 hvg9 hvs9 hvl9 hG9 hdOk hvle hvse hvge h34 hsz57 hLl h23 hsz45 hS8vs hS8vg;refine wpAnyH_ready (rs:=[5]) (by kernel_rfl) (by simp) ?_;refine AllReadyH.cons (o:=⟨some 28,.call { callee:=.value (.func 21),args:=#[.tmp 23,.tmp 26,.tmp 27],argTypes:=#[64,57,73] },0, "model.go:27",#[⟨0,.data⟩,⟨3,.data⟩,⟨4,.data⟩,⟨3,.chain⟩],none⟩) rfl (fun K hK=>?_) AllReadyH.nil;go_simp;refine CE.out.mono ?_;rintro e wE ⟨rfl,T,sE,mE,hTs,hTl,hTsr,hTre,hTi⟩;obtain⟨lvE,gsE,x1,x2,_,_,x5⟩:=hTi.ex;have HFRE:=zA hTi.fr;have HVE:=zA x1;have HRE:=zA x2;have HME:Hid (gsE.map (·.2)=pairsL fs P):=zA (by
   rw[x5,HLL.out,HNV.out,HV.out];exact leadB_rows fs HB.out.symm)
  refine hK.out _ _ (KE.out _ hTi.fr) (fun hHeld=>?_);clear hK K hTs hTl hTsr hTre hTi x1 x2 x5;refine wpAnyH_done (by kernel_rfl) ?_ _;obtain⟨ua,uc,hlv⟩:=own_slice HRE.out.row;subst hlv;have hcl:wE.cell? ⟨vl,0,none⟩=some (.slice ua gsE.length uc):=by
   have:=HVE.out;simp[World.cell?,this]
  have HROWS:Hid (RowsM wE (.slice ua gsE.length uc) (pairsL fs P)):=zA (by
   rw[<- HME.out];refine HRE.out.rows (fun p hp=>?_);have h1:p.2∈pairsL fs P:=by rw[<- HME.out];exact zU hp
   obtain⟨x,y,e,_⟩:=((pairsL_spec fs HB.out.symm).2 _).1 h1;rw[e];simp)
  have HBE:Hid (Below w.heap.size w wE):=zA (HBW9.out.trans (HFRE.out.below (fun k hk=>HS8w.out k hk)));go_wp2;go_ret2;exact⟨_,rfl,HROWS.out,HBE.out⟩
end Go.Proofs.YtdalcipmpelifaaGreatDoor
