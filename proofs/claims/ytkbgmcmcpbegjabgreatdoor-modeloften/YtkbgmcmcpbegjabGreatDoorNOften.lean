/- ModelOften. (Written by a program.) -/
import Derived.Test.YtkbgmcmcpbegjabGreatDoorNPutW
import Derived.Test.YtkbgmcmcpbegjabGreatDoorMH0
set_option maxRecDepth 100000
namespace Go.Proofs.YtkbgmcmcpbegjabGreatDoor
open Go.RowKit Go.Shelf
theorem pairs_two2{fs:List Fa}{p:Pt}(h:mayP p=true){i:Nat}{r:Rw}(hi:(pairsL fs p)[i]?=some r):∃x y,r=[x,y]:=by
 obtain⟨x,y,e,_⟩:=((pairsL_spec fs h).2 r).1 (List.mem_of_getElem? hi);exact⟨x,y,e⟩
theorem rs_at{rs:List (Value×Rw)}{L:List Rw}(h:rs.map (·.2)=L){i:Nat}{v:Value}{r:Rw}(hi:rs[i]?=some (v,r)):L[i]?=some r:=by rw[<- h,List.getElem?_map,hi];rfl
set_option maxHeartbeats 16000000 in
theorem modelOften_walk(vf:Value)(fs:List Fa)(t:Vt)(w:World)(hf:FasS (fun _=>True) w vf fs)(hs:FinF vf fs)(hok:VOk (fun _=>True) w t)(hT:TabG w):
 Calls Tryz.prog 5 #[vf,encN t] w fun e w'=>e=.returned (.bool true)/\Below w.heap.size w w':=by
 obtain⟨hlf,hw,_⟩:=hs;obtain⟨fa,fc,rfl⟩:=hf.slice;have hz0:0<w.heap.size:=World.block_lt_of_cell? _ _ (hT 0 (by decide));obtain⟨n,hn⟩:∃n,n=fs.length:=⟨_,rfl⟩
 obtain⟨P,hP⟩:∃P,P=t.pt:=⟨_,rfl⟩
 obtain⟨M,hM⟩:∃M,M=mayP P:=⟨_,rfl⟩
 obtain⟨lv,hlv⟩:∃n,n=leaves P:=⟨_,rfl⟩
 obtain⟨hg,hhg⟩:∃n,n=high P:=⟨_,rfl⟩
 have HV:Hid (∀u,Below w.heap.size w u->VOk (fun _=>True) u t):=zA (fun u hu=>hok.below hu);have HF:Hid (∀u,Below w.heap.size w u->FasS (fun _=>True) u (.slice fa n fc) fs):=zA (fun u hu=>hn▸hf.below hu);have HT:Hid (∀u,Below w.heap.size w u->TabG u):=zA (fun u hu=>hT.below hz0 hu);obtain⟨V,hV⟩:∃V:List Wd,V=vertsL fs:=⟨_,rfl⟩
 obtain⟨O,hO⟩:∃L:List Rw,L=pairsL fs P:=⟨_,rfl⟩
 obtain⟨PL,hPL⟩:∃L:List Rw,L=pairsL fs ⟨5,[],[P]⟩:=⟨_,rfl⟩
 obtain⟨ST,hST⟩:∃L:List Rw,L=pairsL fs ⟨4,[],[P]⟩:=⟨_,rfl⟩
 have CF:Hid (∀u,Below w.heap.size w u->Calls Tryz.prog 10 #[.slice fa n fc,encN t] u fun e w'=>FlatF n e/\Below u.heap.size u w'):=zA (fun u hu=>by
  have:=flat_any (HF.out u hu) hlf (HV.out u hu);rw[<- hn]at this;exact this)
 have CY:Hid (∀u,Below w.heap.size w u->Calls Tryz.prog 11 #[encN t] u fun e w'=>e=.returned (.bool M)/\Below u.heap.size u w'):=zA (fun u hu=>by rw[hM,hP];exact rMayPath_any (HV.out u hu));have CPL:Hid (∀u,Below w.heap.size w u->M=true->Calls Tryz.prog 12 #[encN t] u fun e w'=>e=.returned (.int .i64 (lv:Int))/\Below u.heap.size u w'):=zA (fun u hu hm=>by
  rw[hlv,hP];exact rPlaces_any t u (by have:=may_leavesN (t:=P) (by rw[<- hM];exact hm);rw[<- hP];omega) (HV.out u hu))
 have CDP:Hid (∀u,Below w.heap.size w u->M=true->Calls Tryz.prog 13 #[encN t] u fun e w'=>e=.returned (.int .i64 (hg:Int))/\Below u.heap.size u w'):=zA (fun u hu hm=>by
  rw[hhg,hP];exact rDeep_any t u (by have:=may_highN (t:=P) (by rw[<- hM];exact hm);rw[<- hP];omega) (HV.out u hu))
 have HLB:Hid (M=true->lv<=24/\hg<=12):=zA (fun hm=>⟨by rw[hlv];exact may_leavesN (by rw[<- hM];exact hm),by rw[hhg];exact may_highN (by rw[<- hM];exact hm)⟩);have CP:Hid (∀u,Below w.heap.size w u->n<=20->M=true->Calls Tryz.prog 14 #[.slice fa n fc,encN t] u fun e w'=>∃v,e=.returned (.tuple #[v,.int .i64 0])/\RowsM w' v O/\Below u.heap.size u w'):=zA (fun u hu hl hm=>by
  have:=pairsM_any (HF.out u hu) (by omega) hw (HV.out u hu) (HT.out u hu);rw[<- hP,<- hM,if_pos hm,if_pos hm,<- hO]at this;exact this)
 have key:∀(c:Int) (u:World) (kv:Value),(c=4\/c=5)->Below w.heap.size w u->n<=20->M=true->hg<=10->SlS csN 3 (fun _=>True) u kv [t]->Calls Tryz.prog 14 #[.slice fa n fc,.agg #[.int .i64 c,.string ⟨#[]⟩,kv]] u fun e w'=>∃v,e=.returned (.tuple #[v,.int .i64 0])/\RowsM w' v (pairsL fs ⟨c,[],[P]⟩)/\Below u.heap.size u w':=fun c u kv hc hu hl hm hh hkv=>by
  have hvk:VOk (fun _=>True) u ⟨c,[],kv,[t]⟩:=vok_mk.2 ⟨hkv,by simp,by simp,fun x hx=>by simp at hx;subst hx;exact HV.out u hu⟩;have:=pairsM_any (HF.out u hu) (by omega) hw hvk (HT.out u hu);have e1:(⟨c,[],kv,[t]⟩:Vt).pt=⟨c,[],[P]⟩:=by simp[Vt.pt,hP]
  rw[e1,if_pos (may_oneN (by omega) (by rw[<- hM];exact hm) (by omega)),if_pos (may_oneN (by omega) (by rw[<- hM];exact hm) (by omega))]at this;exact this
 have CP5:Hid (∀u kv,Below w.heap.size w u->n<=20->M=true->hg<=10->SlS csN 3 (fun _=>True) u kv [t]->Calls Tryz.prog 14 #[.slice fa n fc,.agg #[.int .i64 5,.string ⟨#[]⟩,kv]] u fun e w'=>∃v,e=.returned (.tuple #[v,.int .i64 0])/\RowsM w' v PL/\Below u.heap.size u w'):=zA (fun u kv hu hl hm hh hk=>by rw[hPL];exact key 5 u kv (.inr rfl) hu hl hm hh hk);have CP4:Hid (∀u kv,Below w.heap.size w u->n<=20->M=true->hg<=10->SlS csN 3 (fun _=>True) u kv [t]->Calls Tryz.prog 14 #[.slice fa n fc,.agg #[.int .i64 4,.string ⟨#[]⟩,kv]] u fun e w'=>∃v,e=.returned (.tuple #[v,.int .i64 0])/\RowsM w' v ST/\Below u.heap.size u w'):=zA (fun u kv hu hl hm hh hk=>by rw[hST];exact key 4 u kv (.inl rfl) hu hl hm hh hk);have CV:Hid (∀u,Below w.heap.size w u->n<=20->Calls Tryz.prog 17 #[.slice fa n fc] u fun e w'=>∃v,e=.returned v/\TxtS (fun _=>True) w' v V/\Below u.heap.size u w'):=zA (fun u hu hl=>by
  have:=vertM_any (HF.out u hu) (by omega) hw;rw[<- hV]at this;exact this)
 have HMT:Hid (n<=20->M=true->hg<=10->ST=putAll PL (V.map fun v=>[v,v])/\putAll O (cndAll PL O)=PL/\RiseL lessR PL/\RiseL lessR O/\V.length<=40/\PL.length<=1600/\O.length<=1600/\ST.length<=1600):=zA (fun hl hm hh=>by
  have hmP:mayP P=true:=by rw[<- hM];exact hm
  have h5:mayP ⟨5,[],[P]⟩=true:=may_oneN (by omega) hmP (by omega);have h4:mayP ⟨4,[],[P]⟩=true:=may_oneN (by omega) hmP (by omega);have hvl:(vertsL fs).length<=40:=by have:=verts_len fs;omega
  have hsq:(vertsL fs).length*(vertsL fs).length<=40*40:=Nat.mul_le_mul hvl hvl;refine⟨by rw[hST,hPL,hV];exact pairs_star h5 h4,by rw[hO,hPL];exact pairs_again hmP h5,by rw[hPL];exact(pairsL_spec fs h5).1,by rw[hO];exact(pairsL_spec fs hmP).1,by rw[hV];exact hvl,?_,?_,?_⟩
  . rw[hPL];have:=pairs_lenN fs ⟨5,[],[P]⟩;omega
  . rw[hO];have:=pairs_lenN fs P;omega
  . rw[hST];have:=pairs_lenN fs ⟨4,[],[P]⟩;omega)
 have HTW:Hid (M=true->hg<=10->(∀(i:Nat) r,PL[i]?=some r->∃x y,r=[x,y])/\∀(i:Nat) r,O[i]?=some r->∃x y,r=[x,y]):=zA (fun hm hh=>by
  have hmP:mayP P=true:=by rw[<- hM];exact hm
  exact⟨fun i r h=>pairs_two2 (may_oneN (k:=5) (by omega) hmP (by omega)) (by rw[<- hPL];exact h),fun i r h=>pairs_two2 hmP (by rw[<- hO];exact h)⟩)
 have CQ:Hid (∀u,Below w.heap.size w u->∀(K:Ending->World->Prop),(∀w',Below w.heap.size w w'->K (.returned (.bool true)) w')->Calls Tryz.prog 9 #[] u K):=zA (fun u hu K hK=>by
  refine(awake_any (HT.out u hu)).mono ?_;rintro e w' ⟨rfl,hb⟩;exact hK w' (hu.trans (hb.mono hu.size)))
 rw[<- hn]at hlf;rw[<- hn];clear key hP hM hlv hhg hV hO hPL hST HV HF HT hT hok hf hw hz0 hn;obtain⟨kind,word,val,kids⟩:=t;obtain⟨o,ho⟩:∃o,o=Obj.cells #[.int .i64 kind,.string ⟨word.toArray⟩,val] 28 (0,0):=⟨_,rfl⟩
 have HO:=zA ho;have HK:Hid (∀u,Below (w.alloc o).heap.size (w.alloc o) u->Below w.heap.size w u/\u.cell? ⟨w.heap.size,0,none⟩=some (.int .i64 kind)/\u.cell? ⟨w.heap.size,1,none⟩=some (.string ⟨word.toArray⟩)/\u.cell? ⟨w.heap.size,2,none⟩=some val):=zA (fun u hu=>by
  rw[HO.out]at hu;exact box_pathN hu)
 have HB0:Hid (Below (w.alloc o).heap.size (w.alloc o) (w.alloc (.cells #[.int .i64 kind,.string ⟨word.toArray⟩,val] 28))):=zA (by rw[HO.out];exact Below.refl _ _);clear ho;have HW0:=zA (HK.out _ HB0.out).1;by_cases hn20:n<=20
 rotate_left 1
 . have hnI:(20:Int)<(n:Int):=by omega
   go_enter Tryz.func5,Tryz.ntmps5;go_wp2_with fail;refine CQ.out _ HW0.out _ (fun wz hbz=>?_);have HWZ:=zA hbz;clear hbz;go_wp2_with fail;refine bodyPost_ret (v:=.bool true) ?_ rfl ⟨rfl,HWZ.out⟩;simp[results,Tryz.results5,go_sem]
 have hnI:¬(20:Int)<(n:Int):=by omega
 go_enter Tryz.func5,Tryz.ntmps5;go_wp2_with fail;refine(CF.out _ HW0.out).mono ?_;rintro e w1 ⟨⟨b,rfl,_⟩,hb1⟩;have HB1:=zA (HB0.out.trans (hb1.mono HB0.out.size));obtain⟨hB,d0,d1,d2⟩:=HK.out _ HB1.out;have HW1:=zA hB;clear hb1 hB HW0 HB0 CF;cases b with
 |false=>
  go_wp2_with fail;refine CQ.out _ HW1.out _ (fun wz hbz=>?_);have HWZ:=zA hbz;clear hbz;go_wp2_with fail;refine bodyPost_ret (v:=.bool true) ?_ rfl ⟨rfl,HWZ.out⟩;simp[results,Tryz.results5,go_sem]
 |true=>
  go_wp2_with fail;refine(CY.out _ HW1.out).mono ?_;rintro e w2 ⟨rfl,hb2⟩;have HB2:=zA (HB1.out.trans (hb2.mono HB1.out.size));clear d0 d1 d2;obtain⟨hB,d0,d1,d2⟩:=HK.out _ HB2.out;have HW2:=zA hB;clear hb2 hB HW1 HB1 CY;cases M with
  |false=>
   go_wp2_with fail;refine CQ.out _ HW2.out _ (fun wz hbz=>?_);have HWZ:=zA hbz;clear hbz;go_wp2_with fail;refine bodyPost_ret (v:=.bool true) ?_ rfl ⟨rfl,HWZ.out⟩;simp[results,Tryz.results5,go_sem]
  |true=>
   obtain⟨hlv24,hhg12⟩:=HLB.out rfl;go_wp2_with fail;refine(CPL.out _ HW2.out (by trivial)).mono ?_;rintro e w3 ⟨rfl,hb3⟩;have HB3:=zA (HB2.out.trans (hb3.mono HB2.out.size));clear d0 d1 d2;obtain⟨hB,d0,d1,d2⟩:=HK.out _ HB3.out;have HW3:=zA hB;clear hb3 hB HW2 HB2 CPL;by_cases hlv10:lv<=10
   rotate_left 1
   . have hlI:(10:Int)<(lv:Int):=by omega
     go_wp2_with fail;refine CQ.out _ HW3.out _ (fun wz hbz=>?_);have HWZ:=zA hbz;clear hbz;go_wp2_with fail;refine bodyPost_ret (v:=.bool true) ?_ rfl ⟨rfl,HWZ.out⟩;simp[results,Tryz.results5,go_sem]
   have hlI:¬(10:Int)<(lv:Int):=by omega
   go_wp2_with fail;refine(CDP.out _ HW3.out (by trivial)).mono ?_;rintro e w4 ⟨rfl,hb4⟩;have HB4:=zA (HB3.out.trans (hb4.mono HB3.out.size));clear d0 d1 d2;obtain⟨hB,d0,d1,d2⟩:=HK.out _ HB4.out;have HW4:=zA hB;clear hb4 hB HW3 HB3 CDP;by_cases hg10:hg<=10
   rotate_left 1
   . have hgI:(10:Int)<(hg:Int):=by omega
     go_wp2_with fail;refine CQ.out _ HW4.out _ (fun wz hbz=>?_);have HWZ:=zA hbz;clear hbz;go_wp2_with fail;refine bodyPost_ret (v:=.bool true) ?_ rfl ⟨rfl,HWZ.out⟩;simp[results,Tryz.results5,go_sem]
   have hgI:¬(10:Int)<(hg:Int):=by omega
   obtain⟨HMST,HMAG,hrPL,hrO,hV40,hPL16,hO16,hST16⟩:=HMT.out hn20 (by trivial) hg10;obtain⟨HT1,HT2⟩:=HTW.out (by trivial) hg10;have HRPL:=zA hrPL;have HRO:=zA hrO;have HEQ1:=zA HMST;have HEQ2:=zA HMAG;have HTA:=zA HT1;have HTB:=zA HT2;clear HMST HMAG hrPL hrO HT1 HT2 HMT HTW;have C1:=zA (fun u hu=>CP.out u hu hn20 (by trivial));have C5:=zA (fun u kv hu=>CP5.out u kv hu hn20 (by trivial) hg10);have C4:=zA (fun u kv hu=>CP4.out u kv hu hn20 (by trivial) hg10);have CVV:=zA (fun u hu=>CV.out u hu hn20);clear CP CP5 CP4 CV;obtain⟨w5,hw5⟩:∃W,W=w4.alloc (.cells #[.int .i64 kind,.string ⟨word.toArray⟩,val] 28):=⟨_,rfl⟩
   obtain⟨kb,hkb⟩:∃b,b=w4.heap.size:=⟨_,rfl⟩
   have hb45:Below w4.heap.size w4 w5:=by rw[hw5];exact(Below.refl _ _).alloc (Nat.le_refl _) _
   have HKID:Hid (∀u,Below w5.heap.size w5 u->SlS csN 3 (fun _=>True) u (.slice (some ⟨kb,0,none⟩) 1 1) [⟨kind,word,val,kids⟩]):=zA (fun u hu=>SlS.below (sl_litN csN_len (by rw[hw5,hkb];exact heap_alloc_new w4 _) (by simp[csN]) rfl) hu);have HB5:=zA (HB4.out.trans (hb45.mono HB4.out.size));clear hb45;obtain⟨hB,e0,e1,e2⟩:=HK.out _ HB5.out;have HW5:=zA hB;rw[hw5]at e0 e1 e2;clear hB HW4 HB4;go_wp2_with fail;rw[<- hw5,<- hkb];clear hw5 hkb d0 d1 d2 e0 e1 e2;refine(C1.out _ HW5.out).mono ?_;rintro e w6 ⟨v6,rfl,hr6,hb6⟩;have HW6:=zA (HW5.out.trans (hb6.mono HW5.out.size));obtain⟨rs1,hs6,hm6⟩:=hr6;obtain⟨p1,c6,hv6⟩:=hs6.src.sl.slice;obtain⟨n1,hn1⟩:∃n,n=rs1.length:=⟨_,rfl⟩
   rw[<- hn1]at hv6;subst hv6;have HS6:=zA hs6;have HM1:Hid (rs1.map (·.2)=O/\n1=rs1.length):=zA ⟨hm6,hn1⟩;have HKI6:=zA (HKID.out _ hb6);clear hs6 hm6 hn1 hb6 HKID HB5 HW5;go_wp2_with fail;refine(C5.out _ _ HW6.out HKI6.out).mono ?_;rintro e w7 ⟨v7,rfl,hr7,hb7⟩;have HW7:=zA (HW6.out.trans (hb7.mono HW6.out.size));have HS7:=zA (HS6.out.below hb7);have HKI7:=zA (HKI6.out.below hb7);obtain⟨rs2,hs7,hm7⟩:=hr7;obtain⟨p2,c7,hv7⟩:=hs7.src.sl.slice;obtain⟨n2,hn2⟩:∃n,n=rs2.length:=⟨_,rfl⟩
   rw[<- hn2]at hv7;subst hv7;have HP7:=zA hs7;have HM2:Hid (rs2.map (·.2)=PL/\n2=rs2.length):=zA ⟨hm7,hn2⟩;clear hs7 hm7 hn2 hb7 HKI6 HW6 HS6;go_wp2_with fail;refine(C4.out _ _ HW7.out HKI7.out).mono ?_;rintro e w8 ⟨v8,rfl,hr8,hb8⟩;have HW8:=zA (HW7.out.trans (hb8.mono HW7.out.size));have HS8:=zA (HS7.out.below hb8);have HP8:=zA (HP7.out.below hb8);obtain⟨p3,n3,c8,rfl⟩:=hr8.slice;have HST8:=zA hr8;clear hb8 hr8 HKI7 HW7 HS7 HP7;go_wp2_with fail;refine(CVV.out _ HW8.out).mono ?_;rintro e w9 ⟨v9,rfl,hr9,hb9⟩;have HW9:=zA (HW8.out.trans (hb9.mono HW8.out.size));have HS9:=zA (HS8.out.below hb9);have HP9:=zA (HP8.out.below hb9);have HST9:=zA (HST8.out.below hb9);obtain⟨va,vc,hv9⟩:=hr9.slice;obtain⟨nv,hnv⟩:∃n,n=V.length:=⟨_,rfl⟩
   rw[<- hnv]at hv9;subst hv9;have HV9:=zA hr9;have HNV:=zA hnv;rw[<- hnv]at hV40;clear hb9 hr9 hnv HW8 HS8 HP8 HST8;obtain⟨W,hW⟩:∃W,W=w9:=⟨_,rfl⟩
   subst hW;go_wp2_with fail;go_loopw [12,14] (fun s12 s14 wr=>∃(i:Nat),s14=.int .i64 i/\i<=nv/\Hid (RowsM wr s12 (putAll PL ((V.take i).map fun v=>[v,v])))/\Hid (Below W.heap.size W wr)) (fun _ s14 _=>nv-(intOf s14).toNat)
   case atStart=>exact⟨0,rfl,Nat.zero_le _,zA ⟨rs2,HP9.out,HM2.out.1⟩,zA (Below.refl _ _)⟩
   case round=>
    obtain⟨i,rfl,hi,HRW,HBW⟩:=hrel;obtain⟨wx,hwx⟩:∃wx,wx=wr:=⟨_,rfl⟩
    subst hwx;have HWX:Hid (Below w.heap.size w wx):=zA (HW9.out.trans (HBW.out.mono HW9.out.size));obtain⟨qa,qn,qc,hqv⟩:=HRW.out.slice;subst hqv;by_cases hlt:i<nv
    . have hltI:(i:Int)<(nv:Int):=by omega
      obtain⟨x,hx⟩:∃x,V[i]?=some x:=⟨_,List.getElem?_eq_getElem (by rw[<- HNV.out];exact hlt)⟩
      obtain⟨vg,vo,hva,_,hvg,hcs⟩:=SlS.get HV9.out hx;subst hva;have hc0:=hcs 0 _ rfl;rw[Nat.mul_one,Nat.add_zero]at hc0;have KS:Hid (∀u,Below W.heap.size W u->u.cell? ⟨vg,vo+i,none⟩=some (.string ⟨x.toArray⟩)):=zA (fun u hu=>(hu.cell (p:=⟨vg,vo+i,none⟩) hvg).trans hc0);have HTK:Hid (putAll PL ((V.take (i+1)).map fun v=>[v,v])=putL lessR (putAll PL ((V.take i).map fun v=>[v,v])) [x,x]):=zA (by rw[List.take_add_one,hx,Option.toList_some,List.map_append,List.map_singleton,putAll_snoc]);have HA1:Hid (Below W.heap.size W wx.drew):=zA HBW.out.drew;have HA2:Hid (Below W.heap.size W (wx.drew.alloc (.cells #[.string ⟨x.toArray⟩,.string ⟨x.toArray⟩] 9))):=zA (HBW.out.drew.alloc HBW.out.size _);have HBA:=HA2;have CPR:=zA (put_two x x HRW.out (by have h1:=putAll_len ((V.take i).map fun v=>[v,v]) PL;rw[List.length_map,List.length_take]at h1;omega) (putAll_spec _ _ HRPL.out).1);rw[<- HTK.out]at CPR;clear hx hcs hc0;go_wp2_with fail;refine wp_region_held_drew (S:=fun u=>u.cell? ⟨vg,vo+i,none⟩=some (.string ⟨x.toArray⟩)) (by kernel_rfl) ?_ (fun hHeld=>?_)
      . exact KS.out _ HA1.out
      refine tkH (i:=0) (oi:=⟨some 84,.move (.tmp 12),38, "law.go:217",#[],none⟩) (v:=?_) rfl ?_ hHeld ?_;rotate_left 1
      . intro W hSw;have l1:=hSw;go_simp;try with_reducible rfl
      simp only[Act.put,zIB,zSZ,zSS];refine tkH (i:=1) (oi:=⟨some 85,.move (.tmp 13),30, "law.go:217",#[],none⟩) (v:=?_) rfl ?_ hHeld ?_;rotate_left 1
      . intro W hSw;have l1:=hSw;go_simp;try with_reducible rfl
      simp only[Act.put,zIB,zSZ,zSS];refine tkH (i:=2) (oi:=⟨some 86,.move (.tmp 14),3, "law.go:217",#[],none⟩) (v:=?_) rfl ?_ hHeld ?_;rotate_left 1
      . intro W hSw;have l1:=hSw;go_simp;try with_reducible rfl
      simp only[Act.put,zIB,zSZ,zSS];refine tkH (i:=3) (oi:=⟨some 87,.indexAddr 30 (.tmp 85) (.tmp 86),0, "law.go:217",#[⟨1,.data⟩,⟨2,.data⟩],none⟩) (v:=?_) rfl ?_ hHeld ?_;rotate_left 1
      . intro W hSw;have l1:=hSw;go_simp;try with_reducible rfl
      simp only[Act.put,zIB,zSZ,zSS];refine tkH (i:=4) (oi:=⟨some 88,.load 9 (.tmp 87),9, "law.go:217",#[⟨3,.data⟩],none⟩) (v:=?_) rfl ?_ hHeld ?_;rotate_left 1
      . intro W hSw;have l1:=hSw;go_simp;try with_reducible rfl
      simp only[Act.put,zIB,zSZ,zSS];refine tkH (i:=5) (oi:=⟨some 89,.move (.tmp 13),30, "law.go:217",#[],none⟩) (v:=?_) rfl ?_ hHeld ?_;rotate_left 1
      . intro W hSw;have l1:=hSw;go_simp;try with_reducible rfl
      simp only[Act.put,zIB,zSZ,zSS];refine tkH (i:=6) (oi:=⟨some 90,.move (.tmp 14),3, "law.go:217",#[],none⟩) (v:=?_) rfl ?_ hHeld ?_;rotate_left 1
      . intro W hSw;have l1:=hSw;go_simp;try with_reducible rfl
      simp only[Act.put,zIB,zSZ,zSS];refine tkH (i:=7) (oi:=⟨some 91,.indexAddr 30 (.tmp 89) (.tmp 90),0, "law.go:217",#[⟨5,.data⟩,⟨6,.data⟩],none⟩) (v:=?_) rfl ?_ hHeld ?_;rotate_left 1
      . intro W hSw;have l1:=hSw;go_simp;try with_reducible rfl
      simp only[Act.put,zIB,zSZ,zSS];refine tkH (i:=8) (oi:=⟨some 92,.load 9 (.tmp 91),9, "law.go:217",#[⟨7,.data⟩],none⟩) (v:=?_) rfl ?_ hHeld ?_;rotate_left 1
      . intro W hSw;have l1:=hSw;go_simp;try with_reducible rfl
      simp only[Act.put,zIB,zSZ,zSS];refine wpAnyH_ready (rs:=[9]) (by kernel_rfl) (by simp) ?_;refine AllReadyH.cons (o:=⟨some 93,.buildSlice 30 2 #[(0,.tmp 88),(1,.tmp 92)],30, "law.go:217",#[⟨4,.data⟩,⟨8,.data⟩],none⟩) rfl (fun K hK=>?_) AllReadyH.nil;go_simp;refine hK.out _ _ (KS.out _ HA2.out) (fun hHeld=>?_);clear hK K;refine wpAnyH_ready (rs:=[10]) (by kernel_rfl) (by simp) ?_;refine AllReadyH.cons (o:=⟨some 94,.call { callee:=.value (.func 15),args:=#[.tmp 84,.tmp 93],argTypes:=#[38,30] },38, "law.go:217",#[⟨0,.data⟩,⟨9,.data⟩],none⟩) rfl (fun K hK=>?_) AllReadyH.nil;go_simp;refine CPR.out.mono ?_;rintro e w9 ⟨v9,rfl,hr9,hb9⟩;obtain⟨pa,pn,pc,rfl⟩:=hr9.slice;have HR9:=zA hr9;have HB9:=zA (HBA.out.trans (hb9.mono HBA.out.size));have HW9:=zA (HA2.out.trans (hb9.mono HA2.out.size));clear hr9 hb9;go_wp2_with fail;refine hK.out _ _ (KS.out _ HW9.out) (fun hHeld=>?_);clear hK K;refine tkH (i:=11) (oi:=⟨some 12,.assign (.tmp 94),38, "law.go:217",#[⟨10,.data⟩,⟨10,.chain⟩,⟨0,.phase⟩,⟨1,.phase⟩,⟨2,.phase⟩,⟨3,.phase⟩,⟨4,.phase⟩,⟨5,.phase⟩,⟨6,.phase⟩,⟨7,.phase⟩,⟨8,.phase⟩,⟨9,.phase⟩,⟨10,.phase⟩],none⟩) (v:=?_) rfl ?_ hHeld ?_;rotate_left 1
      . intro W hSw;have l1:=hSw;go_simp;try with_reducible rfl
      simp only[Act.put,zIB,zSZ,zSS];refine wpAnyH_done (by kernel_rfl) ?_ _;go_wp2;go_roundw
      case rel=>exact⟨i+1,by go_num,by omega,HR9,HB9⟩
      case measure=>simp[intOf];omega
    . have hltI:¬(i:Int)<(nv:Int):=by omega
      have HQ:Hid (RowsM wx (.slice qa qn qc) ST):=zA (by
       have:=HRW.out;rw[List.take_of_length_le (by rw[<- HNV.out];omega),<- HEQ1.out]at this;exact this)
      have HSX:=zA (HST9.out.below HBW.out);have HLL:Hid (ST.length<=1000000000):=zA (by omega);go_wp2_with fail;refine(rSameRows_any HSX.out HQ.out HLL.out).mono ?_;rintro e wq ⟨rfl,hbq⟩;rw[decide_eq_true rfl];have HWQ:=zA (HWX.out.trans (hbq.mono HWX.out.size));have HBQ:=zA (HBW.out.trans (hbq.mono HBW.out.size));have HOQ:=zA (HS9.out.below HBQ.out);have HPQ:=zA (HP9.out.below HBQ.out);clear hbq HSX HQ HRW HWX HBW HW9 HV9 HLL HS9 HP9 HST9 HBQ hlt hi;have hn1l:n1<=1600:=by have h:=HM1.out;rw[h.2,<- List.length_map (·.2),h.1];exact hO16
      have hn2l:n2<=1600:=by have h:=HM2.out;rw[h.2,<- List.length_map (·.2),h.1];exact hPL16
      obtain⟨U,hU⟩:∃U,U=wq:=⟨_,rfl⟩
      subst hU;go_wp2_with fail;go_loopw [15,16] (fun s15 s16 wr=>∃(i:Nat),s16=.int .i64 i/\i<=n2/\Hid (RowsM wr s15 (putAll O (cndAll (PL.take i) O)))/\Hid (Below U.heap.size U wr)) (fun _ s16 _=>n2-(intOf s16).toNat)
      case atStart=>exact⟨0,rfl,Nat.zero_le _,zA ⟨rs1,HOQ.out,HM1.out.1⟩,zA (Below.refl _ _)⟩
      case round=>
       obtain⟨i,rfl,hi,HRW,HBW⟩:=hrel;obtain⟨wx,hwx⟩:∃wx,wx=wr:=⟨_,rfl⟩
       subst hwx;obtain⟨qa,qn,qc,hqv⟩:=HRW.out.slice;subst hqv;by_cases hlt:i<n2
       . have hltI:(i:Int)<(n2:Int):=by omega
         obtain⟨⟨xv,r⟩,hr⟩:∃r,rs2[i]?=some r:=⟨_,List.getElem?_eq_getElem (by rw[<- HM2.out.2];exact hlt)⟩
         obtain⟨x0,x1,rfl⟩:=HTA.out i r (rs_at HM2.out.1 hr);have HPI:Hid (PL[i]?=some [x0,x1]):=zA (rs_at HM2.out.1 hr);obtain⟨g1,o1,a1,b1,c1,hp2,hg1,hb1,_,k1,k2,k3⟩:=HPQ.out.pair hr;subst hp2;have HX1:=zA k1;have HX2:=zA k2;have HX3:=zA k3;have HG1:=zA hg1;have HB1':=zA hb1;clear hr k1 k2 k3 hg1 hb1;go_wp2_with fail;go_loopw [15,17] (fun s15 s17 wr=>∃(k:Nat),s17=.int .i64 k/\k<=n1/\Hid (RowsM wr s15 (putAll O (cndAll (PL.take i) O++cndR [x0,x1] (O.take k))))/\Hid (Below U.heap.size U wr)) (fun _ s17 _=>n1-(intOf s17).toNat)
         case atStart=>exact⟨0,rfl,Nat.zero_le _,zA (by rw[List.take_zero,cnd_nil,List.append_nil];exact HRW.out),HBW⟩
         case round=>
          clear HRW HBW;obtain⟨k,rfl,hk,HRW,HBW⟩:=hrel;obtain⟨wx,hwx⟩:∃wx,wx=wr:=⟨_,rfl⟩
          subst hwx;obtain⟨qa,qn,qc,hqv⟩:=HRW.out.slice;subst hqv;by_cases hkl:k<n1
          . have hkI:(k:Int)<(n1:Int):=by omega
            obtain⟨⟨yv,s⟩,hs⟩:∃r,rs1[k]?=some r:=⟨_,List.getElem?_eq_getElem (by rw[<- HM1.out.2];exact hkl)⟩
            obtain⟨y0,y1,rfl⟩:=HTB.out k s (rs_at HM1.out.1 hs);have HOK:Hid (O[k]?=some [y0,y1]):=zA (rs_at HM1.out.1 hs);obtain⟨g2,o2,a2,b2,c2,hp1,hg2,hb2,_,m1,m2,m3⟩:=HOQ.out.pair hs;subst hp1;have KS:Hid (∀u,Below U.heap.size U u->u.cell? ⟨g1,o1+i,none⟩=some (.slice (some ⟨b1,a1,none⟩) 2 c1)/\u.cell? ⟨b1,a1,none⟩=some (.string ⟨x0.toArray⟩)/\u.cell? ⟨b1,a1+1,none⟩=some (.string ⟨x1.toArray⟩)/\u.cell? ⟨g2,o2+k,none⟩=some (.slice (some ⟨b2,a2,none⟩) 2 c2)/\u.cell? ⟨b2,a2,none⟩=some (.string ⟨y0.toArray⟩)/\u.cell? ⟨b2,a2+1,none⟩=some (.string ⟨y1.toArray⟩)):=zA (fun u hu=>⟨(hu.cell (p:=⟨g1,o1+i,none⟩) HG1.out).trans HX1.out,(hu.cell (p:=⟨b1,a1,none⟩) HB1'.out).trans HX2.out,(hu.cell (p:=⟨b1,a1+1,none⟩) HB1'.out).trans HX3.out,(hu.cell (p:=⟨g2,o2+k,none⟩) hg2).trans m1,(hu.cell (p:=⟨b2,a2,none⟩) hb2).trans m2,(hu.cell (p:=⟨b2,a2+1,none⟩) hb2).trans m3⟩);have HTK:Hid (cndR [x0,x1] (O.take (k+1))=cndR [x0,x1] (O.take k)++(if x1=y0 then [[x0,y1]]else [])):=zA (by rw[List.take_add_one,HOK.out,Option.toList_some,cnd_snoc];rfl);have HA1:Hid (Below U.heap.size U wx.drew):=zA HBW.out.drew;clear hs m1 m2 m3 hg2 hb2;by_cases he:x1=y0
            . subst he;have hbe:(x1==x1)=true:=by simp
              have HTE:Hid (putAll O (cndAll (PL.take i) O++cndR [x0,x1] (O.take (k+1)))=putL lessR (putAll O (cndAll (PL.take i) O++cndR [x0,x1] (O.take k))) [x0,y1]):=zA (by rw[HTK.out,if_pos rfl,<- List.append_assoc,putAll_snoc]);obtain⟨we,hwe⟩:∃W,W=wx.drew:=⟨_,rfl⟩
              have HA2:Hid (Below U.heap.size U (wx.drew.drew.alloc (.cells #[.string ⟨x0.toArray⟩,.string ⟨y1.toArray⟩] 9))):=zA (HBW.out.drew.drew.alloc HBW.out.size _);have HBA:=HA2;have CPR:=zA (put_two x0 y1 (w:=wx.drew) (HRW.out.below (Below.refl _ _).drew) (by have h1:=putAll_len (cndAll (PL.take i) O++cndR [x0,x1] (O.take k)) O;have h2:=cndAll_len (PL.take i) O;have h3:=cnd_len [x0,x1] (O.take k);rw[List.length_append]at h1;rw[List.length_take]at h2 h3;have h4:min i PL.length*O.length<=1600*1600:=Nat.mul_le_mul (by omega) hO16;omega) (putAll_spec _ _ HRO.out).1);rw[<- HTE.out]at CPR;clear hwe we;go_wp2_with fail;refine wp_region_held_drew (S:=fun u=>u.cell? ⟨g1,o1+i,none⟩=some (.slice (some ⟨b1,a1,none⟩) 2 c1)/\u.cell? ⟨b1,a1,none⟩=some (.string ⟨x0.toArray⟩)/\u.cell? ⟨b1,a1+1,none⟩=some (.string ⟨x1.toArray⟩)/\u.cell? ⟨g2,o2+k,none⟩=some (.slice (some ⟨b2,a2,none⟩) 2 c2)/\u.cell? ⟨b2,a2,none⟩=some (.string ⟨x1.toArray⟩)/\u.cell? ⟨b2,a2+1,none⟩=some (.string ⟨y1.toArray⟩)) (by kernel_rfl) ?_ (fun hHeld=>?_)
              . exact KS.out _ HA1.out
              refine tkH (i:=0) (oi:=⟨some 112,.move (.tmp 8),38, "law.go:225",#[],none⟩) (v:=?_) rfl ?_ hHeld ?_;rotate_left 1
              . rintro W ⟨l1,l2,l3,l4,l5,l6⟩;go_simp;try with_reducible rfl
              simp only[Act.put,zIB,zSZ,zSS];refine tkH (i:=1) (oi:=⟨some 113,.move (.tmp 16),3, "law.go:225",#[],none⟩) (v:=?_) rfl ?_ hHeld ?_;rotate_left 1
              . rintro W ⟨l1,l2,l3,l4,l5,l6⟩;go_simp;try with_reducible rfl
              simp only[Act.put,zIB,zSZ,zSS];refine tkH (i:=2) (oi:=⟨some 114,.indexAddr 38 (.tmp 112) (.tmp 113),0, "law.go:225",#[⟨0,.data⟩,⟨1,.data⟩],none⟩) (v:=?_) rfl ?_ hHeld ?_;rotate_left 1
              . rintro W ⟨l1,l2,l3,l4,l5,l6⟩;go_simp;try with_reducible rfl
              simp only[Act.put,zIB,zSZ,zSS];refine tkH (i:=3) (oi:=⟨some 115,.load 30 (.tmp 114),30, "law.go:225",#[⟨2,.data⟩],none⟩) (v:=?_) rfl ?_ hHeld ?_;rotate_left 1
              . rintro W ⟨l1,l2,l3,l4,l5,l6⟩;go_simp;try with_reducible rfl
              simp only[Act.put,zIB,zSZ,zSS];refine tkH (i:=4) (oi:=⟨some 116,.indexAddr 30 (.tmp 115) (.const (.int .i64 1)),0, "law.go:225",#[⟨3,.data⟩],none⟩) (v:=?_) rfl ?_ hHeld ?_;rotate_left 1
              . rintro W ⟨l1,l2,l3,l4,l5,l6⟩;go_simp;try with_reducible rfl
              simp only[Act.put,zIB,zSZ,zSS];refine tkH (i:=5) (oi:=⟨some 117,.load 9 (.tmp 116),9, "law.go:225",#[⟨4,.data⟩],none⟩) (v:=?_) rfl ?_ hHeld ?_;rotate_left 1
              . rintro W ⟨l1,l2,l3,l4,l5,l6⟩;go_simp;try with_reducible rfl
              simp only[Act.put,zIB,zSZ,zSS];refine tkH (i:=6) (oi:=⟨some 118,.move (.tmp 6),38, "law.go:225",#[],none⟩) (v:=?_) rfl ?_ hHeld ?_;rotate_left 1
              . rintro W ⟨l1,l2,l3,l4,l5,l6⟩;go_simp;try with_reducible rfl
              simp only[Act.put,zIB,zSZ,zSS];refine tkH (i:=7) (oi:=⟨some 119,.move (.tmp 17),3, "law.go:225",#[],none⟩) (v:=?_) rfl ?_ hHeld ?_;rotate_left 1
              . rintro W ⟨l1,l2,l3,l4,l5,l6⟩;go_simp;try with_reducible rfl
              simp only[Act.put,zIB,zSZ,zSS];refine tkH (i:=8) (oi:=⟨some 120,.indexAddr 38 (.tmp 118) (.tmp 119),0, "law.go:225",#[⟨6,.data⟩,⟨7,.data⟩],none⟩) (v:=?_) rfl ?_ hHeld ?_;rotate_left 1
              . rintro W ⟨l1,l2,l3,l4,l5,l6⟩;go_simp;try with_reducible rfl
              simp only[Act.put,zIB,zSZ,zSS];refine tkH (i:=9) (oi:=⟨some 121,.load 30 (.tmp 120),30, "law.go:225",#[⟨8,.data⟩],none⟩) (v:=?_) rfl ?_ hHeld ?_;rotate_left 1
              . rintro W ⟨l1,l2,l3,l4,l5,l6⟩;go_simp;try with_reducible rfl
              simp only[Act.put,zIB,zSZ,zSS];refine tkH (i:=10) (oi:=⟨some 122,.indexAddr 30 (.tmp 121) (.const (.int .i64 0)),0, "law.go:225",#[⟨9,.data⟩],none⟩) (v:=?_) rfl ?_ hHeld ?_;rotate_left 1
              . rintro W ⟨l1,l2,l3,l4,l5,l6⟩;go_simp;try with_reducible rfl
              simp only[Act.put,zIB,zSZ,zSS];refine tkH (i:=11) (oi:=⟨some 123,.load 9 (.tmp 122),9, "law.go:225",#[⟨10,.data⟩],none⟩) (v:=?_) rfl ?_ hHeld ?_;rotate_left 1
              . rintro W ⟨l1,l2,l3,l4,l5,l6⟩;go_simp;try with_reducible rfl
              simp only[Act.put,zIB,zSZ,zSS];refine tkH (i:=12) (oi:=⟨some 124,.binOp .eql 9 (.tmp 117) (.tmp 123) 9,4, "law.go:225",#[⟨5,.data⟩,⟨11,.data⟩],none⟩) (v:=?_) rfl ?_ hHeld ?_;rotate_left 1
              . rintro W ⟨l1,l2,l3,l4,l5,l6⟩;go_simp;try with_reducible rfl
              simp only[Act.put,zIB,zSZ,zSS];refine wpAnyH_done (by kernel_rfl) ?_ _;go_wp2_with fail;refine wp_region_held_drew (S:=fun u=>u.cell? ⟨g1,o1+i,none⟩=some (.slice (some ⟨b1,a1,none⟩) 2 c1)/\u.cell? ⟨b1,a1,none⟩=some (.string ⟨x0.toArray⟩)/\u.cell? ⟨b1,a1+1,none⟩=some (.string ⟨x1.toArray⟩)/\u.cell? ⟨g2,o2+k,none⟩=some (.slice (some ⟨b2,a2,none⟩) 2 c2)/\u.cell? ⟨b2,a2,none⟩=some (.string ⟨x1.toArray⟩)/\u.cell? ⟨b2,a2+1,none⟩=some (.string ⟨y1.toArray⟩)) (by kernel_rfl) ?_ (fun hHeld=>?_)
              . exact KS.out _ HA1.out.drew
              refine tkH (i:=0) (oi:=⟨some 125,.move (.tmp 15),38, "law.go:226",#[],none⟩) (v:=?_) rfl ?_ hHeld ?_;rotate_left 1
              . rintro W ⟨l1,l2,l3,l4,l5,l6⟩;go_simp;try with_reducible rfl
              simp only[Act.put,zIB,zSZ,zSS];refine tkH (i:=1) (oi:=⟨some 126,.move (.tmp 8),38, "law.go:226",#[],none⟩) (v:=?_) rfl ?_ hHeld ?_;rotate_left 1
              . rintro W ⟨l1,l2,l3,l4,l5,l6⟩;go_simp;try with_reducible rfl
              simp only[Act.put,zIB,zSZ,zSS];refine tkH (i:=2) (oi:=⟨some 127,.move (.tmp 16),3, "law.go:226",#[],none⟩) (v:=?_) rfl ?_ hHeld ?_;rotate_left 1
              . rintro W ⟨l1,l2,l3,l4,l5,l6⟩;go_simp;try with_reducible rfl
              simp only[Act.put,zIB,zSZ,zSS];refine tkH (i:=3) (oi:=⟨some 128,.indexAddr 38 (.tmp 126) (.tmp 127),0, "law.go:226",#[⟨1,.data⟩,⟨2,.data⟩],none⟩) (v:=?_) rfl ?_ hHeld ?_;rotate_left 1
              . rintro W ⟨l1,l2,l3,l4,l5,l6⟩;go_simp;try with_reducible rfl
              simp only[Act.put,zIB,zSZ,zSS];refine tkH (i:=4) (oi:=⟨some 129,.load 30 (.tmp 128),30, "law.go:226",#[⟨3,.data⟩],none⟩) (v:=?_) rfl ?_ hHeld ?_;rotate_left 1
              . rintro W ⟨l1,l2,l3,l4,l5,l6⟩;go_simp;try with_reducible rfl
              simp only[Act.put,zIB,zSZ,zSS];refine tkH (i:=5) (oi:=⟨some 130,.indexAddr 30 (.tmp 129) (.const (.int .i64 0)),0, "law.go:226",#[⟨4,.data⟩],none⟩) (v:=?_) rfl ?_ hHeld ?_;rotate_left 1
              . rintro W ⟨l1,l2,l3,l4,l5,l6⟩;go_simp;try with_reducible rfl
              simp only[Act.put,zIB,zSZ,zSS];refine tkH (i:=6) (oi:=⟨some 131,.load 9 (.tmp 130),9, "law.go:226",#[⟨5,.data⟩],none⟩) (v:=?_) rfl ?_ hHeld ?_;rotate_left 1
              . rintro W ⟨l1,l2,l3,l4,l5,l6⟩;go_simp;try with_reducible rfl
              simp only[Act.put,zIB,zSZ,zSS];refine tkH (i:=7) (oi:=⟨some 132,.move (.tmp 6),38, "law.go:226",#[],none⟩) (v:=?_) rfl ?_ hHeld ?_;rotate_left 1
              . rintro W ⟨l1,l2,l3,l4,l5,l6⟩;go_simp;try with_reducible rfl
              simp only[Act.put,zIB,zSZ,zSS];refine tkH (i:=8) (oi:=⟨some 133,.move (.tmp 17),3, "law.go:226",#[],none⟩) (v:=?_) rfl ?_ hHeld ?_;rotate_left 1
              . rintro W ⟨l1,l2,l3,l4,l5,l6⟩;go_simp;try with_reducible rfl
              simp only[Act.put,zIB,zSZ,zSS];refine tkH (i:=9) (oi:=⟨some 134,.indexAddr 38 (.tmp 132) (.tmp 133),0, "law.go:226",#[⟨7,.data⟩,⟨8,.data⟩],none⟩) (v:=?_) rfl ?_ hHeld ?_;rotate_left 1
              . rintro W ⟨l1,l2,l3,l4,l5,l6⟩;go_simp;try with_reducible rfl
              simp only[Act.put,zIB,zSZ,zSS];refine tkH (i:=10) (oi:=⟨some 135,.load 30 (.tmp 134),30, "law.go:226",#[⟨9,.data⟩],none⟩) (v:=?_) rfl ?_ hHeld ?_;rotate_left 1
              . rintro W ⟨l1,l2,l3,l4,l5,l6⟩;go_simp;try with_reducible rfl
              simp only[Act.put,zIB,zSZ,zSS];refine tkH (i:=11) (oi:=⟨some 136,.indexAddr 30 (.tmp 135) (.const (.int .i64 1)),0, "law.go:226",#[⟨10,.data⟩],none⟩) (v:=?_) rfl ?_ hHeld ?_;rotate_left 1
              . rintro W ⟨l1,l2,l3,l4,l5,l6⟩;go_simp;try with_reducible rfl
              simp only[Act.put,zIB,zSZ,zSS];refine tkH (i:=12) (oi:=⟨some 137,.load 9 (.tmp 136),9, "law.go:226",#[⟨11,.data⟩],none⟩) (v:=?_) rfl ?_ hHeld ?_;rotate_left 1
              . rintro W ⟨l1,l2,l3,l4,l5,l6⟩;go_simp;try with_reducible rfl
              simp only[Act.put,zIB,zSZ,zSS];refine wpAnyH_ready (rs:=[13]) (by kernel_rfl) (by simp) ?_;refine AllReadyH.cons (o:=⟨some 138,.buildSlice 30 2 #[(0,.tmp 131),(1,.tmp 137)],30, "law.go:226",#[⟨6,.data⟩,⟨12,.data⟩],none⟩) rfl (fun K hK=>?_) AllReadyH.nil;go_simp;refine hK.out _ _ (KS.out _ HA2.out) (fun hHeld=>?_);clear hK K;refine wpAnyH_ready (rs:=[14]) (by kernel_rfl) (by simp) ?_;refine AllReadyH.cons (o:=⟨some 139,.call { callee:=.value (.func 15),args:=#[.tmp 125,.tmp 138],argTypes:=#[38,30] },38, "law.go:226",#[⟨0,.data⟩,⟨13,.data⟩],none⟩) rfl (fun K hK=>?_) AllReadyH.nil;go_simp;refine CPR.out.mono ?_;rintro e w9 ⟨v9,rfl,hr9,hb9⟩;obtain⟨pa,pn,pc,rfl⟩:=hr9.slice;have HR9:=zA hr9;have HB9:=zA (HBA.out.trans (hb9.mono HBA.out.size));have HW9:=zA (HA2.out.trans (hb9.mono HA2.out.size));clear hr9 hb9;go_wp2_with fail;refine hK.out _ _ (KS.out _ HW9.out) (fun hHeld=>?_);clear hK K;refine tkH (i:=15) (oi:=⟨some 15,.assign (.tmp 139),38, "law.go:226",#[⟨14,.data⟩,⟨14,.chain⟩,⟨0,.phase⟩,⟨1,.phase⟩,⟨2,.phase⟩,⟨3,.phase⟩,⟨4,.phase⟩,⟨5,.phase⟩,⟨6,.phase⟩,⟨7,.phase⟩,⟨8,.phase⟩,⟨9,.phase⟩,⟨10,.phase⟩,⟨11,.phase⟩,⟨12,.phase⟩,⟨13,.phase⟩,⟨14,.phase⟩],none⟩) (v:=?_) rfl ?_ hHeld ?_;rotate_left 1
              . rintro W ⟨l1,l2,l3,l4,l5,l6⟩;go_simp;try with_reducible rfl
              simp only[Act.put,zIB,zSZ,zSS];refine wpAnyH_done (by kernel_rfl) ?_ _;go_wp2;go_roundw
              case rel=>exact⟨k+1,by go_num,by omega,HR9,HB9⟩
              case measure=>simp[intOf];omega
            . have hbe:(x1==y0)=false:=beq_eq_false_iff_ne.2 he;have HR9:Hid (RowsM wx.drew (.slice qa qn qc) (putAll O (cndAll (PL.take i) O++cndR [x0,x1] (O.take (k+1))))):=zA (by
               rw[HTK.out,if_neg he,List.append_nil];exact HRW.out.below (Below.refl _ _).drew)
              go_wp2_with fail;refine wp_region_held_drew (S:=fun u=>u.cell? ⟨g1,o1+i,none⟩=some (.slice (some ⟨b1,a1,none⟩) 2 c1)/\u.cell? ⟨b1,a1,none⟩=some (.string ⟨x0.toArray⟩)/\u.cell? ⟨b1,a1+1,none⟩=some (.string ⟨x1.toArray⟩)/\u.cell? ⟨g2,o2+k,none⟩=some (.slice (some ⟨b2,a2,none⟩) 2 c2)/\u.cell? ⟨b2,a2,none⟩=some (.string ⟨y0.toArray⟩)/\u.cell? ⟨b2,a2+1,none⟩=some (.string ⟨y1.toArray⟩)) (by kernel_rfl) ?_ (fun hHeld=>?_)
              . exact KS.out _ HA1.out
              refine tkH (i:=0) (oi:=⟨some 112,.move (.tmp 8),38, "law.go:225",#[],none⟩) (v:=?_) rfl ?_ hHeld ?_;rotate_left 1
              . rintro W ⟨l1,l2,l3,l4,l5,l6⟩;go_simp;try with_reducible rfl
              simp only[Act.put,zIB,zSZ,zSS];refine tkH (i:=1) (oi:=⟨some 113,.move (.tmp 16),3, "law.go:225",#[],none⟩) (v:=?_) rfl ?_ hHeld ?_;rotate_left 1
              . rintro W ⟨l1,l2,l3,l4,l5,l6⟩;go_simp;try with_reducible rfl
              simp only[Act.put,zIB,zSZ,zSS];refine tkH (i:=2) (oi:=⟨some 114,.indexAddr 38 (.tmp 112) (.tmp 113),0, "law.go:225",#[⟨0,.data⟩,⟨1,.data⟩],none⟩) (v:=?_) rfl ?_ hHeld ?_;rotate_left 1
              . rintro W ⟨l1,l2,l3,l4,l5,l6⟩;go_simp;try with_reducible rfl
              simp only[Act.put,zIB,zSZ,zSS];refine tkH (i:=3) (oi:=⟨some 115,.load 30 (.tmp 114),30, "law.go:225",#[⟨2,.data⟩],none⟩) (v:=?_) rfl ?_ hHeld ?_;rotate_left 1
              . rintro W ⟨l1,l2,l3,l4,l5,l6⟩;go_simp;try with_reducible rfl
              simp only[Act.put,zIB,zSZ,zSS];refine tkH (i:=4) (oi:=⟨some 116,.indexAddr 30 (.tmp 115) (.const (.int .i64 1)),0, "law.go:225",#[⟨3,.data⟩],none⟩) (v:=?_) rfl ?_ hHeld ?_;rotate_left 1
              . rintro W ⟨l1,l2,l3,l4,l5,l6⟩;go_simp;try with_reducible rfl
              simp only[Act.put,zIB,zSZ,zSS];refine tkH (i:=5) (oi:=⟨some 117,.load 9 (.tmp 116),9, "law.go:225",#[⟨4,.data⟩],none⟩) (v:=?_) rfl ?_ hHeld ?_;rotate_left 1
              . rintro W ⟨l1,l2,l3,l4,l5,l6⟩;go_simp;try with_reducible rfl
              simp only[Act.put,zIB,zSZ,zSS];refine tkH (i:=6) (oi:=⟨some 118,.move (.tmp 6),38, "law.go:225",#[],none⟩) (v:=?_) rfl ?_ hHeld ?_;rotate_left 1
              . rintro W ⟨l1,l2,l3,l4,l5,l6⟩;go_simp;try with_reducible rfl
              simp only[Act.put,zIB,zSZ,zSS];refine tkH (i:=7) (oi:=⟨some 119,.move (.tmp 17),3, "law.go:225",#[],none⟩) (v:=?_) rfl ?_ hHeld ?_;rotate_left 1
              . rintro W ⟨l1,l2,l3,l4,l5,l6⟩;go_simp;try with_reducible rfl
              simp only[Act.put,zIB,zSZ,zSS];refine tkH (i:=8) (oi:=⟨some 120,.indexAddr 38 (.tmp 118) (.tmp 119),0, "law.go:225",#[⟨6,.data⟩,⟨7,.data⟩],none⟩) (v:=?_) rfl ?_ hHeld ?_;rotate_left 1
              . rintro W ⟨l1,l2,l3,l4,l5,l6⟩;go_simp;try with_reducible rfl
              simp only[Act.put,zIB,zSZ,zSS];refine tkH (i:=9) (oi:=⟨some 121,.load 30 (.tmp 120),30, "law.go:225",#[⟨8,.data⟩],none⟩) (v:=?_) rfl ?_ hHeld ?_;rotate_left 1
              . rintro W ⟨l1,l2,l3,l4,l5,l6⟩;go_simp;try with_reducible rfl
              simp only[Act.put,zIB,zSZ,zSS];refine tkH (i:=10) (oi:=⟨some 122,.indexAddr 30 (.tmp 121) (.const (.int .i64 0)),0, "law.go:225",#[⟨9,.data⟩],none⟩) (v:=?_) rfl ?_ hHeld ?_;rotate_left 1
              . rintro W ⟨l1,l2,l3,l4,l5,l6⟩;go_simp;try with_reducible rfl
              simp only[Act.put,zIB,zSZ,zSS];refine tkH (i:=11) (oi:=⟨some 123,.load 9 (.tmp 122),9, "law.go:225",#[⟨10,.data⟩],none⟩) (v:=?_) rfl ?_ hHeld ?_;rotate_left 1
              . rintro W ⟨l1,l2,l3,l4,l5,l6⟩;go_simp;try with_reducible rfl
              simp only[Act.put,zIB,zSZ,zSS];refine tkH (i:=12) (oi:=⟨some 124,.binOp .eql 9 (.tmp 117) (.tmp 123) 9,4, "law.go:225",#[⟨5,.data⟩,⟨11,.data⟩],none⟩) (v:=?_) rfl ?_ hHeld ?_;rotate_left 1
              . rintro W ⟨l1,l2,l3,l4,l5,l6⟩;go_simp;try with_reducible rfl
              simp only[Act.put,zIB,zSZ,zSS];refine wpAnyH_done (by kernel_rfl) ?_ _;go_wp2;go_roundw
              case rel=>exact⟨k+1,by go_num,by omega,HR9,HA1⟩
              case measure=>simp[intOf];omega
          . have hkI:¬(k:Int)<(n1:Int):=by omega
            have HR9:Hid (RowsM wx (.slice qa qn qc) (putAll O (cndAll (PL.take (i+1)) O))):=zA (by
             have:=HRW.out;rw[List.take_of_length_le (l:=O) (by have h:=HM1.out;rw[<- h.1,List.length_map,<- h.2];omega),<- cndAll_snoc]at this;rw[List.take_add_one,HPI.out];exact this)
            go_wp2;go_roundw
            case rel=>exact⟨i+1,by go_num,by omega,HR9,HBW⟩
            case measure=>simp[intOf];omega
       . have hltI:¬(i:Int)<(n2:Int):=by omega
         have HQ:Hid (RowsM wx (.slice qa qn qc) PL):=zA (by
          have:=HRW.out;rw[List.take_of_length_le (by have h:=HM2.out;rw[<- h.1,List.length_map,<- h.2];omega),HEQ2.out]at this;exact this)
         have HPX:Hid (RowsM wx (.slice p2 n2 c7) PL):=zA ⟨rs2,HPQ.out.below HBW.out,HM2.out.1⟩;have HWX:=zA (HWQ.out.trans (HBW.out.mono HWQ.out.size));have HLL:Hid (PL.length<=1000000000):=zA (by omega);go_wp2_with fail;refine(rSameRows_any HQ.out HPX.out HLL.out).mono ?_;rintro e wz ⟨rfl,hbz⟩;rw[decide_eq_true rfl];have HWY:=zA (HWX.out.trans (hbz.mono HWX.out.size));clear hbz HQ HPX HRW;go_wp2_with fail;refine CQ.out _ HWY.out _ (fun wz hbz=>?_);have HWZ:=zA hbz;clear hbz;go_wp2_with fail;refine bodyPost_ret (v:=.bool true) ?_ rfl ⟨rfl,HWZ.out⟩;simp[results,Tryz.results5,go_sem]
end Go.Proofs.YtkbgmcmcpbegjabGreatDoor
