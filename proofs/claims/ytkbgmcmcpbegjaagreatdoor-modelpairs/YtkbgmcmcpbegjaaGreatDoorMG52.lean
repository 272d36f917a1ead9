/- NPairs. -/
import Derived.Test.YtkbgmcmcpbegjaaGreatDoorMG51
import Derived.Test.YtkbgmcmcpbegjaaGreatDoorMG37
set_option maxRecDepth 100000
namespace Go.Proofs.YtkbgmcmcpbegjaaGreatDoor
open Go.RowKit Go.Shelf
theorem flatMap_le{α β:Type}(f:α->List β)(k:Nat):∀(l:List α),(∀x∈l,(f x).length<=k)->(l.flatMap f).length<=l.length*k
 |[],_=>by simp
 |x::l,h=>by
  have h1:=flatMap_le f k l (fun y hy=>h y (by simp[hy]));have h2:=h x (by simp);rw[yT,zG,yG,Nat.succ_mul];omega
theorem pairs_len(fs:List Fa)(p:Pt):(pairsL fs p).length<=(vertsL fs).length*(vertsL fs).length:=by
 have h:=flatMap_le (fun i'=>pairRow (vertsL fs) (leadsM fs (vertsL fs) p) i' (vertsL fs).length) (vertsL fs).length (List.range (vertsL fs).length) (fun i _=>by
  unfold pairRow;rw[zH];exact zT (yF _ _) (by simp))
 rw[List.length_range]at h;exact h
set_option maxHeartbeats 8000000 in
theorem modelPairs_walk(vf:Value)(fs:List Fa)(t:Vt)(w:World)(hf:FasS (fun _=>True) w vf fs)(hs:FinF vf fs)(hok:VOk (fun _=>True) w t)(hT:TabG w):
 Calls Tryz.prog 3 #[vf,encN t] w fun e w'=>e=.returned (.bool true)/\Below w.heap.size w w':=by
 obtain⟨hlf,hw,_⟩:=hs;obtain⟨fa,fc,rfl⟩:=hf.slice;have hz0:0<w.heap.size:=World.block_lt_of_cell? _ _ (hT 0 (by decide));obtain⟨P,hP⟩:∃P,P=t.pt:=⟨_,rfl⟩
 obtain⟨n,hn⟩:∃n,n=fs.length:=⟨_,rfl⟩
 have HV:Hid (∀u,Below w.heap.size w u->VOk (fun _=>True) u t):=zA (fun u hu=>hok.below hu);have HF:Hid (∀u,Below w.heap.size w u->FasS (fun _=>True) u (.slice fa n fc) fs):=zA (fun u hu=>hn▸hf.below hu);have HT:Hid (∀u,Below w.heap.size w u->TabG u):=zA (fun u hu=>hT.below hz0 hu);obtain⟨E,hE⟩:∃E:Int,E=(if mayP P=true then 0 else 1):=⟨_,rfl⟩
 obtain⟨L,hL⟩:∃L:List Rw,L=(if mayP P=true then pairsL fs P else []):=⟨_,rfl⟩
 obtain⟨V,hV⟩:∃V:List Wd,V=vertsL fs:=⟨_,rfl⟩
 have CF:Hid (∀u,Below w.heap.size w u->Calls Tryz.prog 9 #[.slice fa n fc,encN t] u fun e w'=>FlatF n e/\Below u.heap.size u w'):=zA (fun u hu=>by
  have:=flat_any (HF.out u hu) hlf (HV.out u hu);rw[<- hn]at this;exact this)
 have CM:Hid (∀u,Below w.heap.size w u->n<=40->Calls Tryz.prog 11 #[.slice fa n fc,encN t] u fun e w'=>∃v,e=.returned (.tuple #[v,.int .i64 E])/\RowsM w' v L/\Below u.heap.size u w'):=zA (fun u hu hl=>by
  have:=pairsM_any (HF.out u hu) (by omega) hw (HV.out u hu) (HT.out u hu);rw[<- hP,<- hE,<- hL]at this;exact this)
 have CR:Hid (∀u,Below w.heap.size w u->n<=40->Calls Tryz.prog 12 #[.slice fa n fc,encN t] u fun e w'=>∃v,e=.returned (.tuple #[v,.int .i64 E])/\RowsM w' v L/\Below u.heap.size u w'):=zA (fun u hu hl=>by
  have:=rPairs_any (HF.out u hu) (by omega) (HV.out u hu);rw[<- hP,<- hE,<- hL]at this;exact this)
 have CV:Hid (∀u,Below w.heap.size w u->n<=40->Calls Tryz.prog 15 #[.slice fa n fc] u fun e w'=>∃v,e=.returned v/\TxtS (fun _=>True) w' v V/\Below u.heap.size u w'):=zA (fun u hu hl=>by
  have:=vertM_any (HF.out u hu) (by omega) hw;rw[<- hV]at this;exact this)
 have CW:Hid (∀u,Below w.heap.size w u->n<=40->Calls Tryz.prog 16 #[.slice fa n fc] u fun e w'=>∃v,e=.returned v/\SrcW w' v V/\Below u.heap.size u w'):=zA (fun u hu hl=>by
  have:=rVert_any (HF.out u hu) (by omega);rw[<- hV]at this;exact this)
 have HLL:Hid (n<=40->L.length<=1000000000/\V.length<=100000000):=zA (fun hl=>by
  have h1:=verts_len fs;have h2:=pairs_len fs P;have h3:(vertsL fs).length<=80:=by omega
  have h4:(vertsL fs).length*(vertsL fs).length<=80*80:=Nat.mul_le_mul h3 h3;rw[hL,hV];refine⟨?_,by omega⟩;split
  . omega
  . simp)
 have CA:Hid (∀u,Below w.heap.size w u->Calls Tryz.prog 10 #[] u fun e w'=>e=.returned (.bool true)/\Below u.heap.size u w'):=zA (fun u hu=>awake_any (HT.out u hu));rw[<- hn];clear hP hn hL hE hV HV HF HT hT hok hf hlf hw hz0;obtain⟨kind,word,val,kids⟩:=t;obtain⟨o,ho⟩:∃o,o=Obj.cells #[.int .i64 kind,.string ⟨word.toArray⟩,val] 25 (0,0):=⟨_,rfl⟩
 have HO:=zA ho;have HK:Hid (∀u,Below (w.alloc o).heap.size (w.alloc o) u->Below w.heap.size w u/\u.cell? ⟨w.heap.size,0,none⟩=some (.int .i64 kind)/\u.cell? ⟨w.heap.size,1,none⟩=some (.string ⟨word.toArray⟩)/\u.cell? ⟨w.heap.size,2,none⟩=some val):=zA (fun u hu=>by
  have h:=box_keptQ hu;rw[HO.out]at h;exact⟨below_boxQ hu,(cells3G h).1⟩)
 clear ho;go_enter Tryz.func3,Tryz.ntmps3;go_wp2_with fail;refine(CF.out _ ((zE _ _).alloc (zD _) _)).mono ?_;rintro e w1 ⟨⟨b,rfl,hbn⟩,hb1⟩;rw[<- HO.out]at hb1;obtain⟨hB,c0,c1,c2⟩:=HK.out _ hb1;have HB1:=zA hb1;have HW1:=zA hB;clear hb1 hB;cases b with
 |false=>
  clear hbn;go_wp2_with fail;refine(CA.out _ HW1.out).mono ?_;rintro e w2 ⟨rfl,hb2⟩;have HW2:=zA (HW1.out.trans (hb2.mono HW1.out.size));clear hb2;go_wp2_with fail;refine bodyPost_ret (v:=.bool true) ?_ rfl ⟨rfl,HW2.out⟩;simp[results,Tryz.results3,go_sem]
 |true=>
  have hn:=hbn rfl;clear hbn;go_wp2_with fail;refine(CM.out _ HW1.out hn).mono ?_;rintro e w2 ⟨v2,rfl,hr2,hb2⟩;have hb2':=HB1.out.trans (hb2.mono HB1.out.size);obtain⟨ra,rn,rc,rfl⟩:=hr2.slice;have HR2:=zA hr2;clear hb2 hr2 HB1 HW1 c0 c1 c2;obtain⟨hB,c0,c1,c2⟩:=HK.out _ hb2';have HB2:=zA hb2';have HW2:=zA hB;clear hb2' hB;go_wp2_with fail;refine(CR.out _ HW2.out hn).mono ?_;rintro e w3 ⟨v3,rfl,hr3,hb3⟩;have HW3:=zA (HW2.out.trans (hb3.mono HW2.out.size));have HR3:=zA (HR2.out.below hb3);obtain⟨qa,qn,qc,rfl⟩:=hr3.slice;have HQ3:=zA hr3;clear hb3 hr3 HB2 HW2 c0 c1 c2;go_wp2_with fail;refine(rSameRows_any HR3.out HQ3.out (HLL.out hn).1).mono ?_;rintro e w4 ⟨rfl,hb4⟩;rw[zU rfl];have HW4:=zA (HW3.out.trans (hb4.mono HW3.out.size));clear hb4 HW3 HR3 HQ3 HR2;go_wp2_with fail;refine(CV.out _ HW4.out hn).mono ?_;rintro e w5 ⟨v5,rfl,hr5,hb5⟩;have HW5:=zA (HW4.out.trans (hb5.mono HW4.out.size));obtain⟨va,vc,rfl⟩:=hr5.slice;have HV5:=zA hr5;clear hb5 HW4 hr5;go_wp2_with fail;refine(CW.out _ HW5.out hn).mono ?_;rintro e w6 ⟨v6,rfl,hr6,hb6⟩;have HW6:=zA (HW5.out.trans (hb6.mono HW5.out.size));have HV6:=zA (HV5.out.below hb6);obtain⟨ua,uc,rfl⟩:=hr6.slice;have HU6:=zA hr6;clear hb6 HW5 hr6 HV5;go_wp2_with fail;refine(rSameW_any HV6.out HU6.out.1.1 (HLL.out hn).2).mono ?_;rintro e w7 ⟨rfl,hb7⟩;rw[zU rfl];have HW7:=zA (HW6.out.trans (hb7.mono HW6.out.size));clear hb7 HW6 HV6 HU6;go_wp2_with fail;refine(CA.out _ HW7.out).mono ?_;rintro e w8 ⟨rfl,hb8⟩;have HW8:=zA (HW7.out.trans (hb8.mono HW7.out.size));clear hb8;go_wp2_with fail;refine bodyPost_ret (v:=.bool true) ?_ rfl ⟨rfl,HW8.out⟩;simp[results,Tryz.results3,go_sem]
end Go.Proofs.YtkbgmcmcpbegjaaGreatDoor
