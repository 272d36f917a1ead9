/- ModelWords. (Written by a program.) -/
import Derived.Test.YtkbgmcmcpbegjabGreatDoorMH45
import Derived.Test.YtkbgmcmcpbegjabGreatDoorMH39
import Derived.Test.YtkbgmcmcpbegjabGreatDoorMH27
import Derived.Test.YtkbgmcmcpbegjabGreatDoorMH14
import Derived.Test.YtkbgmcmcpbegjabGreatDoorMH28
import Derived.Test.YtkbgmcmcpbegjabGreatDoorMH5
import Derived.Test.YtkbgmcmcpbegjabGreatDoorMH0
set_option maxRecDepth 100000
namespace Go.Proofs.YtkbgmcmcpbegjabGreatDoor
open Go.RowKit Go.Shelf
def wantW(s:Wd)(fs:List Fa):List Rw:=fs.foldl (fun L f=>if f.2.1=s then putL lessR L [f.1,f.2.2]else L) []
theorem wantW_snoc(s:Wd)(fs:List Fa)(f:Fa):wantW s (fs++[f])=if f.2.1=s then putL lessR (wantW s fs) [f.1,f.2.2]else wantW s fs:=by simp[wantW]
theorem wantW_fold(s:Wd):∀(fs:List Fa) (L:List Rw),RiseL lessR L->RiseL lessR (fs.foldl (fun L f=>if f.2.1=s then putL lessR L [f.1,f.2.2]else L) L)/\∀r,r∈fs.foldl (fun L f=>if f.2.1=s then putL lessR L [f.1,f.2.2]else L) L↔r∈L\/∃f∈fs,f.2.1=s/\r=[f.1,f.2.2]
 |[],L,h=>⟨h,fun r=>by simp⟩
 |f::fs,L,h=>by
  rw[List.foldl_cons];by_cases hf:f.2.1=s
  . rw[if_pos hf];obtain⟨h1,h2⟩:=wantW_fold s fs _ (h.put ordR (t:=[f.1,f.2.2]));refine⟨h1,fun r=>?_⟩;rw[h2,mem_putL];constructor
    . rintro ((h|h)|⟨x,hx,h⟩)
      . exact .inr ⟨f,by simp,hf,h⟩
      . exact .inl h
      . exact .inr ⟨x,by simp[hx],h⟩
    . rintro (h|⟨x,hx,h⟩)
      . exact .inl (.inr h)
      . rcases List.mem_cons.1 hx with rfl|hx
        . exact .inl (.inl h.2)
        . exact .inr ⟨x,hx,h⟩
  . rw[if_neg hf];obtain⟨h1,h2⟩:=wantW_fold s fs L h;refine⟨h1,fun r=>?_⟩;rw[h2];constructor
    . rintro (h|⟨x,hx,h⟩)
      . exact .inl h
      . exact .inr ⟨x,by simp[hx],h⟩
    . rintro (h|⟨x,hx,h⟩)
      . exact .inl h
      . rcases List.mem_cons.1 hx with rfl|hx
        . exact absurd h.1 hf
        . exact .inr ⟨x,hx,h⟩
theorem wantW_rise(s:Wd)(fs:List Fa):RiseL lessR (wantW s fs):=(wantW_fold s fs [] List.Pairwise.nil).1
theorem wantW_len(s:Wd):∀(fs:List Fa) (L:List Rw),(fs.foldl (fun L f=>if f.2.1=s then putL lessR L [f.1,f.2.2]else L) L).length<=L.length+fs.length
 |[],L=>by simp
 |f::fs,L=>by
  rw[List.foldl_cons];refine Nat.le_trans (wantW_len s fs _) ?_;split
  . have:=putL_len (lt:=lessR) L [f.1,f.2.2];simp only[List.length_cons]at this ⊢;omega
  . simp only[List.length_cons];omega
theorem pairs_word(fs:List Fa){s:Wd}(h:mayP (vtN s).pt=true):pairsL fs (vtN s).pt=wantW s fs:=by
 obtain⟨h1,h2⟩:=pairsL_spec fs h;refine riseL_ext ordR h1 (wantW_rise s fs) (fun r=>?_);rw[h2,wantW,(wantW_fold s fs [] List.Pairwise.nil).2];have hl:∀x y,leadP fs (vtN s).pt x y↔(x,s,y)∈fs:=fun x y=>by
  have e:(vtN s).pt=⟨1,s,[]⟩:=by simp[vtN,Vt.pt]
  unfold leadP;rw[e,willL_mk];have e2:kindL 1 s (List.map willL [])=fun l=>l=[s]:=by
   funext l;simp[kindL]
  rw[e2];exact lead_word fs s x y
 constructor
 . rintro⟨x,y,rfl,hxy⟩;exact .inr ⟨(x,s,y),(hl x y).1 hxy,rfl,rfl⟩
 . rintro (h|⟨⟨x,p,y⟩,hf,rfl,rfl⟩)
   . simp at h
   . exact⟨x,y,rfl,(hl x y).2 hf⟩
theorem RowsM.len{w:World}{v:Value}{L:List Rw}(h:RowsM w v L):∃a c,v=.slice a L.length c:=by
 obtain⟨rs,h1,rfl⟩:=h;obtain⟨a,c,e⟩:=h1.src.sl.slice;exact⟨a,c,by rw[e,List.length_map]⟩
set_option maxHeartbeats 16000000 in
theorem modelWords_walk(vf:Value)(fs:List Fa)(s:ByteArray)(w:World)(hf:FasS (fun _=>True) w vf fs)(hs:FinF vf fs)(hsz:s.size<=140737488351232)(hT:TabG w):
 Calls Tryz.prog 6 #[vf,.string s] w fun e w'=>e=.returned (.bool true)/\Below w.heap.size w w':=by
 obtain⟨p,rfl⟩:∃p:List UInt8,s=⟨p.toArray⟩:=⟨s.data.toList,by cases s;simp⟩
 have hpl:p.length<=140737488351232:=by simpa[ByteArray.size]using hsz
 obtain⟨hlf,hw,_⟩:=hs;obtain⟨fa,fc,rfl⟩:=hf.slice;have hz0:0<w.heap.size:=World.block_lt_of_cell? _ _ (hT 0 (by decide));obtain⟨n,hn⟩:∃n,n=fs.length:=⟨_,rfl⟩
 have HT:Hid (∀u,Below w.heap.size w u->TabG u):=zA (fun u hu=>hT.below hz0 hu);have HF:Hid (∀u,Below w.heap.size w u->FasS (fun _=>True) u (.slice fa n fc) fs):=zA (fun u hu=>hn▸hf.below hu);obtain⟨M,hM⟩:∃M,M=mayP (vtN p).pt:=⟨_,rfl⟩
 obtain⟨E,hE⟩:∃E:Int,E=(if M=true then 0 else 1):=⟨_,rfl⟩
 obtain⟨L,hL⟩:∃L:List Rw,L=(if M=true then wantW p fs else []):=⟨_,rfl⟩
 have CM:Hid (∀u,Below w.heap.size w u->n<=40->Calls Tryz.prog 14 #[.slice fa n fc,.agg #[.int .i64 1,.string ⟨p.toArray⟩,.slice none 0 0]] u fun e w'=>∃v,e=.returned (.tuple #[v,.int .i64 E])/\RowsM w' v L/\Below u.heap.size u w'):=zA (fun u hu hl=>by
  have:=pairsM_any (t:=vtN p) (HF.out u hu) (by omega) hw (vok_wordN _ _ (by omega)) (HT.out u hu);rw[<- hM]at this;have e:(if M=true then pairsL fs (vtN p).pt else [])=if M=true then wantW p fs else []:=by
   split
   . rename_i h;rw[pairs_word fs (by rw[<- hM];exact h)]
   . rfl
  rw[e,<- hE,<- hL]at this;exact this)
 have HEL:Hid (E=(if M=true then 0 else 1)/\L=(if M=true then wantW p fs else [])):=zA ⟨hE,hL⟩;have CP:Hid (∀u,Calls Tryz.prog 11 #[.agg #[.int .i64 1,.string ⟨p.toArray⟩,.slice none 0 0]] u fun e w'=>e=.returned (.bool M)/\Below u.heap.size u w'):=zA (fun u=>by
  have:=rMayPath_any (S:=fun _=>True) (t:=vtN p) (vok_wordN _ u (by omega));rw[<- hM]at this;exact this)
 have CA:Hid (∀u,Below w.heap.size w u->∀(K:Ending->World->Prop),(∀w',Below w.heap.size w w'->K (.returned (.bool true)) w')->Calls Tryz.prog 9 #[] u K):=zA (fun u hu K hK=>by
  refine(awake_any (HT.out u hu)).mono ?_;rintro e w' ⟨rfl,hb⟩;exact hK w' (hu.trans (hb.mono hu.size)))
 have HFW:Hid (FasS (fun _=>True) w (.slice fa n fc) fs/\n=fs.length):=zA ⟨HF.out w (Below.refl _ _),hn⟩;rw[<- hn]at hlf;rw[<- hn];clear hT hf hw hz0 HT HF hM hn hsz hE hL;by_cases hn40:n<=40
 rotate_left 1
 . have hnI:(40:Int)<(n:Int):=by omega
   go_enter Tryz.func6,Tryz.ntmps6;go_wp2_with fail;refine CA.out _ (Below.refl _ _) _ (fun w2 hb2=>?_);have HW2:=zA hb2;clear hb2;go_wp2_with fail;refine bodyPost_ret (v:=.bool true) ?_ rfl ⟨rfl,HW2.out⟩;simp[results,Tryz.results6,go_sem]
 have hnI:¬(40:Int)<(n:Int):=by omega
 go_enter Tryz.func6,Tryz.ntmps6;go_wp2_with fail;refine(wordN_any p _).mono ?_;rintro e w1 ⟨rfl,hb1⟩;have HW1:=zA hb1;clear hb1;go_wp2_with fail;refine(CM.out _ HW1.out hn40).mono ?_;rintro e w2 ⟨v2,rfl,hr2,hb2⟩;have HW2:=zA (HW1.out.trans (hb2.mono HW1.out.size));obtain⟨ra,rc,hv2⟩:=hr2.len;obtain⟨rn,hrn⟩:∃n,n=L.length:=⟨_,rfl⟩
 rw[<- hrn]at hv2;subst hv2;have HR2:=zA hr2;have HRN:=zA hrn;clear hb2 HW1 hr2 hrn;go_wp2_with fail;refine(wordN_any p _).mono ?_;rintro e w3 ⟨rfl,hb3⟩;have HW3:=zA (HW2.out.trans (hb3.mono HW2.out.size));have HR3:=zA (HR2.out.below hb3);clear hb3 HW2 HR2;go_wp2_with fail;refine(CP.out _).mono ?_;rintro e w4 ⟨rfl,hb4⟩;have HW4:=zA (HW3.out.trans (hb4.mono HW3.out.size));have HR4:=zA (HR3.out.below hb4);clear hb4 HW3 HR3 CP CM;cases M with
 |false=>
  obtain⟨he,hl⟩:E=1/\L=[]:=by simpa using HEL.out
  have hr0:rn=0:=by have:=HRN.out;rw[hl]at this;simpa using this
  subst hr0 he;clear hl;go_wp2_with fail;refine CA.out _ HW4.out _ (fun w5 hb5=>?_);have HW5:=zA hb5;clear hb5;go_wp2_with fail;refine bodyPost_ret (v:=.bool true) ?_ rfl ⟨rfl,HW5.out⟩;simp[results,Tryz.results6,go_sem]
 |true=>
  obtain⟨he,hl⟩:E=0/\L=wantW p fs:=by simpa using HEL.out
  have HR5:Hid (RowsM w4 (.slice ra rn rc) (wantW p fs)):=zA (by rw[<- hl];exact HR4.out);subst he;clear HR4 HRN hl;obtain⟨W,hW⟩:∃W,W=w4:=⟨_,rfl⟩
  subst hW;go_wp2_with fail;go_loopw [7,8] (fun s7 s8 wr=>∃(i:Nat),s8=.int .i64 i/\i<=n/\Hid (RowsM wr s7 (wantW p (fs.take i)))/\Hid (Below W.heap.size W wr)) (fun _ s8 _=>n-(intOf s8).toNat)
  case atStart=>exact⟨0,rfl,Nat.zero_le _,zA (rowsM_nil _),zA (Below.refl _ _)⟩
  case round=>
   obtain⟨i,rfl,hi,HRW,HBW⟩:=hrel;obtain⟨wx,hwx⟩:∃wx,wx=wr:=⟨_,rfl⟩
   subst hwx;have HWX:Hid (Below w.heap.size w wx):=zA (HW4.out.trans (HBW.out.mono HW4.out.size));obtain⟨qa,qn,qc,hqv⟩:=HRW.out.slice;subst hqv;by_cases hlt:i<n
   . have hltI:(i:Int)<(n:Int):=by omega
     obtain⟨⟨r0,r1,r2⟩,hr⟩:∃r,fs[i]?=some r:=⟨_,List.getElem?_eq_getElem (by rw[<- HFW.out.2];exact hlt)⟩
     obtain⟨g,off,hfa,_,hg6,hcs6⟩:=HFW.out.1.get hr;subst hfa;have HTK:Hid (fs.take (i+1)=fs.take i++[(r0,r1,r2)]):=zA (by rw[List.take_add_one,hr];rfl);have y1:=(HWX.out.cell (p:=⟨g,off+i*3+1,none⟩) hg6).trans (hcs6 1 _ rfl);dsimp only at y1;by_cases he:r1=p
     . subst he;have hb:(r1==r1)=true:=by simp
       have KS:Hid (∀u,Below w.heap.size w u->u.cell? ⟨g,off+i*3,none⟩=some (.string ⟨r0.toArray⟩)/\u.cell? ⟨g,off+i*3+2,none⟩=some (.string ⟨r2.toArray⟩)):=zA (fun u hu=>⟨(hu.cell (p:=⟨g,off+i*3,none⟩) hg6).trans (hcs6 0 _ rfl),(hu.cell (p:=⟨g,off+i*3+2,none⟩) hg6).trans (hcs6 2 _ rfl)⟩);have HWL:Hid (wantW r1 (fs.take (i+1))=putL lessR (wantW r1 (fs.take i)) [r0,r2]):=zA (by rw[HTK.out,wantW_snoc,if_pos rfl]);have HA1:Hid (Below w.heap.size w wx.drew):=zA HWX.out.drew;have HA2:Hid (Below w.heap.size w (wx.drew.alloc (.cells #[.string ⟨r0.toArray⟩,.string ⟨r2.toArray⟩] 9))):=zA (HWX.out.drew.alloc HWX.out.size _);have HBA:Hid (Below W.heap.size W (wx.drew.alloc (.cells #[.string ⟨r0.toArray⟩,.string ⟨r2.toArray⟩] 9))):=zA (HBW.out.drew.alloc HBW.out.size _);have hbx:Below wx.heap.size wx (wx.drew.alloc (.cells #[.string ⟨r0.toArray⟩,.string ⟨r2.toArray⟩] 9)):=(Below.refl _ _).drew.alloc (Nat.le_refl _) _;have CPR:Hid (Calls Tryz.prog 15 #[.slice qa qn qc,.slice (some ⟨wx.heap.size,0,none⟩) 2 2] (wx.drew.alloc (.cells #[.string ⟨r0.toArray⟩,.string ⟨r2.toArray⟩] 9)) fun e w'=>∃v',e=.returned v'/\RowsM w' v' (wantW r1 (fs.take (i+1)))/\Below (wx.drew.alloc (.cells #[.string ⟨r0.toArray⟩,.string ⟨r2.toArray⟩] 9)).heap.size (wx.drew.alloc (.cells #[.string ⟨r0.toArray⟩,.string ⟨r2.toArray⟩] 9)) w'):=zA (by
        have hbl:RBlk (wx.drew.alloc (.cells #[.string ⟨r0.toArray⟩,.string ⟨r2.toArray⟩] 9)) (wx.heap.size,[r0,r2]):=heap_alloc_new wx.drew _;have hwl:=wantW_len r1 (fs.take i) [];have h:=rPutRow_any (HRW.out.below hbx) (by unfold wantW;rw[List.length_take]at hwl;simp only[List.length_nil]at hwl;omega) (wantW_rise _ _) hbl.txt (by simp);rw[<- HWL.out]at h;exact h)
       clear hr hcs6 hbx;go_wp2_with fail;clear y1;refine wp_region_held_drew (S:=fun u=>u.cell? ⟨g,off+i*3,none⟩=some (.string ⟨r0.toArray⟩)/\u.cell? ⟨g,off+i*3+2,none⟩=some (.string ⟨r2.toArray⟩)) (by kernel_rfl) ?_ (fun hHeld=>?_)
       . exact KS.out _ HA1.out
       refine tkH (i:=0) (oi:=⟨some 47,.move (.tmp 7),38, "law.go:245",#[],none⟩) (v:=?_) rfl ?_ hHeld ?_;rotate_left 1
       . rintro W ⟨l1,l2⟩;go_simp;try with_reducible rfl
       simp only[Act.put,zIB,zSZ,zSS];refine tkH (i:=1) (oi:=⟨some 48,.move (.tmp 0),22, "law.go:245",#[],none⟩) (v:=?_) rfl ?_ hHeld ?_;rotate_left 1
       . rintro W ⟨l1,l2⟩;go_simp;try with_reducible rfl
       simp only[Act.put,zIB,zSZ,zSS];refine tkH (i:=2) (oi:=⟨some 49,.move (.tmp 8),3, "law.go:245",#[],none⟩) (v:=?_) rfl ?_ hHeld ?_;rotate_left 1
       . rintro W ⟨l1,l2⟩;go_simp;try with_reducible rfl
       simp only[Act.put,zIB,zSZ,zSS];refine tkH (i:=3) (oi:=⟨some 50,.indexAddr 22 (.tmp 48) (.tmp 49),0, "law.go:245",#[⟨1,.data⟩,⟨2,.data⟩],none⟩) (v:=?_) rfl ?_ hHeld ?_;rotate_left 1
       . rintro W ⟨l1,l2⟩;go_simp;try with_reducible rfl
       simp only[Act.put,zIB,zSZ,zSS];refine tkH (i:=4) (oi:=⟨some 51,.fieldAddr 25 (.tmp 50) 0,0, "law.go:245",#[⟨3,.data⟩],none⟩) (v:=?_) rfl ?_ hHeld ?_;rotate_left 1
       . rintro W ⟨l1,l2⟩;go_simp;try with_reducible rfl
       simp only[Act.put,zIB,zSZ,zSS];refine tkH (i:=5) (oi:=⟨some 52,.load 9 (.tmp 51),9, "law.go:245",#[⟨4,.data⟩],none⟩) (v:=?_) rfl ?_ hHeld ?_;rotate_left 1
       . rintro W ⟨l1,l2⟩;go_simp;try with_reducible rfl
       simp only[Act.put,zIB,zSZ,zSS];refine tkH (i:=6) (oi:=⟨some 53,.move (.tmp 0),22, "law.go:245",#[],none⟩) (v:=?_) rfl ?_ hHeld ?_;rotate_left 1
       . rintro W ⟨l1,l2⟩;go_simp;try with_reducible rfl
       simp only[Act.put,zIB,zSZ,zSS];refine tkH (i:=7) (oi:=⟨some 54,.move (.tmp 8),3, "law.go:245",#[],none⟩) (v:=?_) rfl ?_ hHeld ?_;rotate_left 1
       . rintro W ⟨l1,l2⟩;go_simp;try with_reducible rfl
       simp only[Act.put,zIB,zSZ,zSS];refine tkH (i:=8) (oi:=⟨some 55,.indexAddr 22 (.tmp 53) (.tmp 54),0, "law.go:245",#[⟨6,.data⟩,⟨7,.data⟩],none⟩) (v:=?_) rfl ?_ hHeld ?_;rotate_left 1
       . rintro W ⟨l1,l2⟩;go_simp;try with_reducible rfl
       simp only[Act.put,zIB,zSZ,zSS];refine tkH (i:=9) (oi:=⟨some 56,.fieldAddr 25 (.tmp 55) 2,0, "law.go:245",#[⟨8,.data⟩],none⟩) (v:=?_) rfl ?_ hHeld ?_;rotate_left 1
       . rintro W ⟨l1,l2⟩;go_simp;try with_reducible rfl
       simp only[Act.put,zIB,zSZ,zSS];refine tkH (i:=10) (oi:=⟨some 57,.load 9 (.tmp 56),9, "law.go:245",#[⟨9,.data⟩],none⟩) (v:=?_) rfl ?_ hHeld ?_;rotate_left 1
       . rintro W ⟨l1,l2⟩;go_simp;try with_reducible rfl
       simp only[Act.put,zIB,zSZ,zSS];refine wpAnyH_ready (rs:=[11]) (by kernel_rfl) (by simp) ?_;refine AllReadyH.cons (o:=⟨some 58,.buildSlice 30 2 #[(0,.tmp 52),(1,.tmp 57)],30, "law.go:245",#[⟨5,.data⟩,⟨10,.data⟩],none⟩) rfl (fun K hK=>?_) AllReadyH.nil;go_simp;refine hK.out _ _ (KS.out _ HA2.out) (fun hHeld=>?_);clear hK K;refine wpAnyH_ready (rs:=[12]) (by kernel_rfl) (by simp) ?_;refine AllReadyH.cons (o:=⟨some 59,.call { callee:=.value (.func 15),args:=#[.tmp 47,.tmp 58],argTypes:=#[38,30] },38, "law.go:245",#[⟨0,.data⟩,⟨11,.data⟩],none⟩) rfl (fun K hK=>?_) AllReadyH.nil;go_simp;refine CPR.out.mono ?_;rintro e w9 ⟨v9,rfl,hr9,hb9⟩;obtain⟨pa,pn,pc,rfl⟩:=hr9.slice;have HR9:=zA hr9;have HB9:=zA (HBA.out.trans (hb9.mono HBA.out.size));have HW9:=zA (HA2.out.trans (hb9.mono HA2.out.size));clear hr9 hb9;go_wp2_with fail;refine hK.out _ _ (KS.out _ HW9.out) (fun hHeld=>?_);clear hK K;refine tkH (i:=13) (oi:=⟨some 7,.assign (.tmp 59),38, "law.go:245",#[⟨12,.data⟩,⟨12,.chain⟩,⟨0,.phase⟩,⟨1,.phase⟩,⟨2,.phase⟩,⟨3,.phase⟩,⟨4,.phase⟩,⟨5,.phase⟩,⟨6,.phase⟩,⟨7,.phase⟩,⟨8,.phase⟩,⟨9,.phase⟩,⟨10,.phase⟩,⟨11,.phase⟩,⟨12,.phase⟩],none⟩) (v:=?_) rfl ?_ hHeld ?_;rotate_left 1
       . rintro W ⟨l1,l2⟩;go_simp;try with_reducible rfl
       simp only[Act.put,zIB,zSZ,zSS];refine wpAnyH_done (by kernel_rfl) ?_ _;go_wp2;go_roundw
       case rel=>exact⟨i+1,by go_num,by omega,HR9,HB9⟩
       case measure=>simp[intOf];omega
     . have hb:(r1==p)=false:=beq_eq_false_iff_ne.2 he;have HWL:Hid (wantW p (fs.take (i+1))=wantW p (fs.take i)):=zA (by rw[HTK.out,wantW_snoc,if_neg he]);have HR9:Hid (RowsM wx (.slice qa qn qc) (wantW p (fs.take (i+1)))):=zA (by rw[HWL.out];exact HRW.out);clear hr hcs6;go_wp2;go_roundw
       case rel=>exact⟨i+1,by go_num,by omega,HR9,HBW⟩
       case measure=>simp[intOf];omega
   . have hltI:¬(i:Int)<(n:Int):=by omega
     have HQ:Hid (RowsM wx (.slice qa qn qc) (wantW p fs)):=zA (by have:=HRW.out;rw[List.take_of_length_le (by rw[<- HFW.out.2];omega)]at this;exact this);have HP:Hid (RowsM wx (.slice ra rn rc) (wantW p fs)):=zA (HR5.out.below HBW.out);have HLL:Hid ((wantW p fs).length<=1000000000):=zA (by have:=wantW_len p fs [];unfold wantW;rw[<- HFW.out.2]at this;simp only[List.length_nil]at this;omega);go_wp2_with fail;refine(rSameRows_any HP.out HQ.out HLL.out).mono ?_;rintro e w8 ⟨rfl,hb8⟩;rw[decide_eq_true rfl];have HW8:=zA (HWX.out.trans (hb8.mono HWX.out.size));clear hb8 HP HQ HRW;go_wp2_with fail;refine CA.out _ HW8.out _ (fun w9 hb9=>?_);have HW9:=zA hb9;clear hb9;go_wp2_with fail;refine bodyPost_ret (v:=.bool true) ?_ rfl ⟨rfl,HW9.out⟩;simp[results,Tryz.results6,go_sem]
end Go.Proofs.YtkbgmcmcpbegjabGreatDoor
