/- WRUnpack. -/
import Derived.Test.YtjoddkeamboeoaaMG21
set_option maxRecDepth 100000
namespace Go.Proofs.Ytjoddkeamboeoaa
open Go.RowKit
set_option maxHeartbeats 1000000 in
theorem rNumber_any(s:ByteArray)(w:World)(hs:4<=s.size):
 Calls Try.prog 73 #[.string s] w fun e w'=>e=.returned (.int .i64 (fourN s.data.toList))/\Below w.heap.size w w':=by
 have h0:0<s.size:=by omega
 have h1:1<s.size:=by omega
 have h2:2<s.size:=by omega
 have h3:3<s.size:=by omega
 have h1I:(1:Int)<(s.size:Int):=by omega
 have h2I:(2:Int)<(s.size:Int):=by omega
 have h3I:(3:Int)<(s.size:Int):=by omega
 go_enter Try.func73,Try.ntmps73;go_wp2_with fail;go_quiet (fail);have hbq:Below w.heap.size w (w.drewN nq):=below_drewN (zB _ _) nq;have hor:=or_four (s[0]'h0) (s[1]'h1) (s[2]'h2) (s[3]'h3);go_wp2;go_ret;exact⟨(congrArg (fun z=>Ending.returned (Value.int .i64 z)) hor).trans (by rw[fourN,take_four s h3]),hbq⟩
set_option maxHeartbeats 2000000 in
theorem rUnpack_any(l:List UInt8)(w:World)(hl:l.length<=140737488351232):
 Calls Try.prog 55 #[.string ⟨l.toArray⟩] w (UEnd l w):=by
 have hsz:=size_list l;by_cases h8:l.length<8
 . have HE:Hid (UEnd l w (.returned (.tuple #[zeroN,.int .i64 0,.int .i64 11])) (resW w)):=zA (uEnd_of (unpackP_1 h8) (zeroN_own _ _) ((zB _ _).alloc (zC _) _));go_enter Try.func55,Try.ntmps55;go_wp2;refine bodyPost_ret (v:=.tuple #[zeroN,.int .i64 0,.int .i64 11]) ?_ rfl HE.out;simp[results,Try.results55,go_sem]
 . have hx4:=extract_from l 4;rw[hsz]at hx4;obtain⟨l4,hl4⟩:∃l4,l4=l.drop 4:=⟨_,rfl⟩
   rw[<- hl4]at hx4;have h48:4<=l4.length:=by rw[hl4,zN];omega
   have HL4:=zA hl4;clear hl4;have h4I:(4:Int)<=(l.length:Int):=by omega
   have C1:Hid (∀w,Calls Try.prog 73 #[.string ⟨l.toArray⟩] w fun e w'=>e=.returned (.int .i64 (fourN l))/\Below w.heap.size w w'):=zA (fun w=>by
    have:=rNumber_any ⟨l.toArray⟩ w (by rw[hsz];omega);rw[data_list]at this;exact this)
   have C2:Hid (∀w,Calls Try.prog 73 #[.string ⟨l4.toArray⟩] w fun e w'=>e=.returned (.int .i64 (fourN l4))/\Below w.heap.size w w'):=zA (fun w=>by
    have:=rNumber_any ⟨l4.toArray⟩ w (by rw[size_list];exact h48);rw[data_list]at this;exact this)
   have hRN:w.heap.size+1<=(resW w).heap.size:=by simp
   have HRN:=zA hRN;clear hRN;have hflt:=fourN_lt l;obtain⟨k,hk⟩:∃k,k=fourN l:=⟨_,rfl⟩
   obtain⟨x,hx⟩:∃x,x=fourN l4:=⟨_,rfl⟩
   rw[<- hk]at C1 hflt;rw[<- hx]at C2;have HK:=zA hk;have HX:=zA hx;clear hk hx;have hx8:(⟨l.toArray⟩:ByteArray).extract 8 (8+k)=⟨((l.drop 8).take k).toArray⟩:=by
    rw[extract_list]
   go_enter Try.func55,Try.ntmps55;go_wp2_with fail;refine(C1.out _).mono ?_;rintro e w1 ⟨rfl,hb1⟩;have HB:=zA (show Below (w.heap.size+1) (resW w) w1 from keepB (zB _ _) hb1 HRN.out);obtain⟨⟨r0,r1,r2,r3⟩,⟨f0,f1,f2,f3⟩⟩:=four_cells (res_block HB.out);clear hb1 C1;by_cases hk1:1048576<k
   . have HE:Hid (UEnd l w (.returned (.tuple #[zeroN,.int .i64 0,.int .i64 31])) (set4 w1 w.heap.size (.int .i64 0) (.slice none 0 0) (.slice none 0 0) (.slice none 0 0))):=
      zA (uEnd_of (unpackP_2 h8 (by rw[<- HK.out];exact hk1)) (zeroN_own _ _) (set4_below (res_below HB.out) (zC _) _ _ _ _))
     obtain⟨⟨z0,z1,z2,z3⟩,_⟩:=four_cells (set4_block (res_block HB.out) (.int .i64 0) (.slice none 0 0) (.slice none 0 0) (.slice none 0 0));have Z0:=zA z0;have Z1:=zA z1;have Z2:=zA z2;have Z3:=zA z3;clear z0 z1 z2 z3;go_wp2;refine bodyPost_ret (v:=.tuple #[zeroN,.int .i64 0,.int .i64 31]) ?_ rfl HE.out;simp[results,Try.results55,go_sem,Z0.out,Z1.out,Z2.out,Z3.out]
   . by_cases hk2:l.length-8<k
     . have HE:Hid (UEnd l w (.returned (.tuple #[zeroN,.int .i64 0,.int .i64 11])) (set4 w1 w.heap.size (.int .i64 0) (.slice none 0 0) (.slice none 0 0) (.slice none 0 0))):=
        zA (uEnd_of (unpackP_3 h8 (by rw[<- HK.out];exact hk1) (by rw[<- HK.out];exact hk2)) (zeroN_own _ _) (set4_below (res_below HB.out) (zC _) _ _ _ _))
       obtain⟨⟨z0,z1,z2,z3⟩,_⟩:=four_cells (set4_block (res_block HB.out) (.int .i64 0) (.slice none 0 0) (.slice none 0 0) (.slice none 0 0));have Z0:=zA z0;have Z1:=zA z1;have Z2:=zA z2;have Z3:=zA z3;have hk2I:(l.length:Int)-8<(k:Int):=by omega
       clear z0 z1 z2 z3;go_wp2;refine bodyPost_ret (v:=.tuple #[zeroN,.int .i64 0,.int .i64 11]) ?_ rfl HE.out;simp[results,Try.results55,go_sem,Z0.out,Z1.out,Z2.out,Z3.out]
     . have hk2I:¬(l.length:Int)-8<(k:Int):=by omega
       have hk3I:(8:Int)+(k:Int)<=(l.length:Int):=by omega
       have H8:=zA h8;have H82:Hid (¬l.length-8<fourN l):=zA (by rw[<- HK.out];exact hk2);have H81:Hid (¬ 1048576<fourN l):=zA (by rw[<- HK.out];exact hk1);obtain⟨B,hBd⟩:∃B,B=(l.drop 8).take k:=⟨_,rfl⟩
       rw[<- hBd]at hx8;have hBl:B.length<=1048576:=by rw[hBd,zQ];omega
       have HBD:Hid (B=(l.drop 8).take (fourN l)):=zA (by rw[hBd,HK.out]);have HBL:=zA hBl;have HSUM:=fun w=>rSum_any ⟨B.toArray⟩ w (by rw[size_list];omega)
       rw[data_list]at HSUM;have HSUM:=zA HSUM;obtain⟨y,hy⟩:∃y,y=sumN B:=⟨_,rfl⟩
       rw[<- hy]at HSUM;have HY:=zA hy;clear hy hBd h8 hBl;go_wp2_with fail;refine(C2.out _).mono ?_;rintro e w2 ⟨rfl,hb2⟩;have HB2:=zA (keepB HB.out hb2 HRN.out);clear hb2 r0 r1 r2 r3 f0 f1 f2 f3 HB C2;obtain⟨⟨r0,r1,r2,r3⟩,⟨f0,f1,f2,f3⟩⟩:=four_cells (res_block HB2.out);by_cases hs:x=y
       . have hsI:((x:Int)!=(y:Int))=false:=by simp;omega
         have HSE:Hid (sumN ((l.drop 8).take (fourN l))=fourN (l.drop 4)):=zA (by rw[<- HBD.out,<- HY.out,<- hs,HX.out,HL4.out]);clear hs;go_wp2_with fail;refine(HSUM.out _).mono ?_;rintro e w3 ⟨rfl,hw3⟩;subst hw3;go_wp2_with fail;refine(rRead_any B _ HBL.out).mono ?_;rintro e w4 ⟨hb4,⟨n,v,hread,rfl,hown⟩|⟨hread,kk,a0,l0,c0,a1,l1,c1,a2,l2,c2,rfl⟩⟩
         . obtain⟨a0,l0,c0,a1,l1,c1,a2,l2,c2,rfl⟩:=own_parts hown;have HB4:=zA (keepB HB2.out hb4 HRN.out);have hb0:w.heap.size<w3.heap.size:=zF (by have:=HRN.out;omega) HB2.out.size;have hb04:w.heap.size<w4.heap.size:=zF hb0 hb4.size;have HE:Hid (UEnd l w (.returned (.tuple #[.agg #[.int .i64 n.kind,.slice a0 l0 c0,.slice a1 l1 c1,.slice a2 l2 c2],.int .i64 ((8+k:Nat):Int),.int .i64 0])) ((set4 w4 w.heap.size (.int .i64 n.kind) (.slice a0 l0 c0) (.slice a1 l1 c1) (.slice a2 l2 c2)).alloc (.cells #[.int .i64 n.kind,.slice a0 l0 c0,.slice a1 l1 c1,.slice a2 l2 c2] 36))):=
            zA (uEnd_of (by rw[HK.out];exact unpackP_6 H8.out H81.out H82.out HSE.out (by rw[<- HBD.out];exact hread)) (((set4_own hown hb0 _ _ _ _).below ((zB _ _).alloc (zC _) _)).base (by omega)) ((set4_below (res_below HB4.out) (zC _) _ _ _ _).alloc (by simp;omega) _))
           clear r0 r1 r2 r3 f0 f1 f2 f3 hread hown hb4;obtain⟨⟨r0,r1,r2,r3⟩,⟨f0,f1,f2,f3⟩⟩:=four_cells (res_block HB4.out);obtain⟨⟨z0,z1,z2,z3⟩,_⟩:=four_cells (set4_block (res_block HB4.out) (.int .i64 n.kind) (.slice a0 l0 c0) (.slice a1 l1 c1) (.slice a2 l2 c2));have Z0:=zA z0;have Z1:=zA z1;have Z2:=zA z2;have Z3:=zA z3;clear z0 z1 z2 z3;go_wp2;refine bodyPost_ret (v:=.tuple #[.agg #[.int .i64 n.kind,.slice a0 l0 c0,.slice a1 l1 c1,.slice a2 l2 c2],.int .i64 ((8+k:Nat):Int),.int .i64 0]) ?_ rfl HE.out;simp[results,Try.results55,go_sem,Z0.out,Z1.out,Z2.out,Z3.out,hb04]
         . have HB4:=zA (keepB HB2.out hb4 HRN.out);have hb0:w.heap.size<w3.heap.size:=zF (by have:=HRN.out;omega) HB2.out.size;have hb04:w.heap.size<w4.heap.size:=zF hb0 hb4.size;have HE:Hid (UEnd l w (.returned (.tuple #[zeroN,.int .i64 0,.int .i64 31])) ((set4 w4 w.heap.size (.int .i64 0) (.slice none 0 0) (.slice none 0 0) (.slice none 0 0)).alloc (.cells #[.int .i64 kk,.slice a0 l0 c0,.slice a1 l1 c1,.slice a2 l2 c2] 36))):=
            zA (uEnd_of (unpackP_5 H8.out H81.out H82.out HSE.out (by rw[<- HBD.out];exact hread)) (zeroN_own _ _) ((set4_below (res_below HB4.out) (zC _) _ _ _ _).alloc (by simp;omega) _))
           clear r0 r1 r2 r3 f0 f1 f2 f3 hread hb4;obtain⟨⟨r0,r1,r2,r3⟩,⟨f0,f1,f2,f3⟩⟩:=four_cells (res_block HB4.out);obtain⟨⟨z0,z1,z2,z3⟩,_⟩:=four_cells (set4_block (res_block HB4.out) (.int .i64 0) (.slice none 0 0) (.slice none 0 0) (.slice none 0 0));have Z0:=zA z0;have Z1:=zA z1;have Z2:=zA z2;have Z3:=zA z3;clear z0 z1 z2 z3;go_wp2;refine bodyPost_ret (v:=.tuple #[zeroN,.int .i64 0,.int .i64 31]) ?_ rfl HE.out;simp[results,Try.results55,go_sem,Z0.out,Z1.out,Z2.out,Z3.out,hb04]
       . have hsI:((x:Int)!=(y:Int))=true:=by simp;omega
         have HSE:Hid (sumN ((l.drop 8).take (fourN l))≠fourN (l.drop 4)):=zA (by rw[<- HBD.out,<- HY.out,<- HL4.out,<- HX.out];exact fun h=>hs h.symm);clear hs;have HE:Hid (UEnd l w (.returned (.tuple #[zeroN,.int .i64 0,.int .i64 30])) (set4 w2 w.heap.size (.int .i64 0) (.slice none 0 0) (.slice none 0 0) (.slice none 0 0))):=
          zA (uEnd_of (unpackP_4 H8.out H81.out H82.out HSE.out) (zeroN_own _ _) (set4_below (res_below HB2.out) (zC _) _ _ _ _))
         obtain⟨⟨z0,z1,z2,z3⟩,_⟩:=four_cells (set4_block (res_block HB2.out) (.int .i64 0) (.slice none 0 0) (.slice none 0 0) (.slice none 0 0));have Z0:=zA z0;have Z1:=zA z1;have Z2:=zA z2;have Z3:=zA z3;clear z0 z1 z2 z3;go_wp2_with fail;refine(HSUM.out _).mono ?_;rintro e w3 ⟨rfl,hw3⟩;subst hw3;go_wp2;refine bodyPost_ret (v:=.tuple #[zeroN,.int .i64 0,.int .i64 30]) ?_ rfl HE.out;simp[results,Try.results55,go_sem,Z0.out,Z1.out,Z2.out,Z3.out]
end Go.Proofs.Ytjoddkeamboeoaa
