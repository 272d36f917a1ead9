/- WUnpack, WAll, WSame. -/
import Derived.Test.YtjoddkeamboeoaaMG15
set_option maxRecDepth 100000
namespace Go.Proofs.Ytjoddkeamboeoaa
open Go.RowKit
def UEnd(l:List UInt8)(w:World)(e:Ending)(w':World):Prop:=
 ∃v,e=.returned (.tuple #[v,.int .i64 ((unpackP l).2.1:Int),.int .i64 ((unpackP l).2.2:Int)])/\NoteOwn w' w.heap.size v (unpackP l).1/\Below w.heap.size w w'
theorem uEnd_of{l:List UInt8}{w w':World}{v:Value}{n:NoteD}{k e:Nat}(h:unpackP l=(n,k,e))(h1:NoteOwn w' w.heap.size v n)(h2:Below w.heap.size w w'):
 UEnd l w (.returned (.tuple #[v,.int .i64 (k:Int),.int .i64 (e:Int)])) w':=by
 unfold UEnd;rw[h];exact⟨v,rfl,h1,h2⟩
theorem extract_to(l:List UInt8)(k:Nat):(⟨l.toArray⟩:ByteArray).extract 0 k=⟨(l.take k).toArray⟩:=by
 apply bytes_ext;simp[ByteArray.data_extract]
theorem unpackP_1{l:List UInt8}(h:l.length<8):unpackP l=(.none,0,11):=if_pos h
theorem unpackP_2{l:List UInt8}(h:¬l.length<8)(h2:1048576<fourN l):unpackP l=(.none,0,31):=by rw[unpackP,if_neg h,if_pos h2]
theorem unpackP_3{l:List UInt8}(h:¬l.length<8)(h2:¬ 1048576<fourN l)(h3:l.length-8<fourN l):unpackP l=(.none,0,11):=by rw[unpackP,if_neg h,if_neg h2,if_pos h3]
theorem unpackP_4{l:List UInt8}(h:¬l.length<8)(h2:¬ 1048576<fourN l)(h3:¬l.length-8<fourN l)(h4:sumN ((l.drop 8).take (fourN l))≠fourN (l.drop 4)):unpackP l=(.none,0,30):=by
 rw[unpackP,if_neg h,if_neg h2,if_neg h3,if_pos h4]
theorem unpackP_5{l:List UInt8}(h:¬l.length<8)(h2:¬ 1048576<fourN l)(h3:¬l.length-8<fourN l)(h4:sumN ((l.drop 8).take (fourN l))=fourN (l.drop 4))(h5:readP ((l.drop 8).take (fourN l))=none):unpackP l=(.none,0,31):=by
 rw[unpackP,if_neg h,if_neg h2,if_neg h3,if_neg (by simpa using h4),h5]
theorem unpackP_6{l:List UInt8}{n:NoteD}(h:¬l.length<8)(h2:¬ 1048576<fourN l)(h3:¬l.length-8<fourN l)(h4:sumN ((l.drop 8).take (fourN l))=fourN (l.drop 4))(h5:readP ((l.drop 8).take (fourN l))=some n):unpackP l=(n,8+fourN l,0):=by
 rw[unpackP,if_neg h,if_neg h2,if_neg h3,if_neg (by simpa using h4),h5]
abbrev resW(w:World):World:=w.alloc (.cells #[.int .i64 0,.slice none 0 0,.slice none 0 0,.slice none 0 0] 36)
abbrev set4(w:World)(b:Nat)(u0 u1 u2 u3:Value):World:=(((w.setCell ⟨b,0,none⟩ u0).setCell ⟨b,1,none⟩ u1).setCell ⟨b,2,none⟩ u2).setCell ⟨b,3,none⟩ u3
theorem set4_block{w:World}{b:Nat}{c0 c1 c2 c3:Value}{t:TypeId}(h:w.heap[b]?=some (.cells #[c0,c1,c2,c3] t (0,0)))(u0 u1 u2 u3:Value):(set4 w b u0 u1 u2 u3).heap[b]?=some (.cells #[u0,u1,u2,u3] t (0,0)):=
 four_set3 (four_set2 (four_set1 (four_set0 h)))
theorem set4_below{a w:World}{B b:Nat}(h:Below B a w)(hb:B<=b)(u0 u1 u2 u3:Value):Below B a (set4 w b u0 u1 u2 u3):=
 (((h.setCell (p:=⟨b,0,none⟩) hb _).setCell (p:=⟨b,1,none⟩) hb _).setCell (p:=⟨b,2,none⟩) hb _).setCell (p:=⟨b,3,none⟩) hb _
theorem set4_own{w:World}{B b:Nat}{v:Value}{n:NoteD}(h:NoteOwn w B v n)(hb:b<B)(u0 u1 u2 u3:Value):NoteOwn (set4 w b u0 u1 u2 u3) B v n:=(((h.set hb).set hb).set hb).set hb
theorem own_parts{w:World}{B:Nat}{v:Value}{n:NoteD}(h:NoteOwn w B v n):∃a0 l0 c0 a1 l1 c1 a2 l2 c2,v=.agg #[.int .i64 n.kind,.slice a0 l0 c0,.slice a1 l1 c1,.slice a2 l2 c2]:=by
 obtain⟨vn,vt,vr,rfl,h1,h2,⟨vs,h3,_⟩,_⟩:=h;obtain⟨a0,l0,c0,rfl⟩:=h1.slice;obtain⟨a1,c1,rfl⟩:=own_slice h2;obtain⟨a2,c2,rfl⟩:=own_slice h3;exact⟨_,_,_,_,_,_,_,_,_,rfl⟩
theorem res_below{w w1:World}(h:Below (w.heap.size+1) (resW w) w1):Below w.heap.size w w1:=((zB _ _).alloc (zC _) _).trans (h.mono (by omega))
theorem res_block{w w1:World}(h:Below (w.heap.size+1) (resW w) w1):w1.heap[w.heap.size]?=some (.cells #[.int .i64 0,.slice none 0 0,.slice none 0 0,.slice none 0 0] 36 (0,0)):=(h.block _ (by omega)).trans (box_at w _)
theorem keepB{N:Nat}{A w1 w2:World}(h:Below N A w1)(hb:Below w1.heap.size w1 w2)(hN:N<=A.heap.size):Below N A w2:=h.trans (hb.mono (zS hN h.size))
set_option maxHeartbeats 1000000 in
theorem unpack_any(l:List UInt8)(w:World)(hl:l.length<=140737488351232):
 Calls Try.prog 72 #[.string ⟨l.toArray⟩] w (UEnd l w):=by
 have hsz:=size_list l;by_cases h8:l.length<8
 . have hE:UEnd l w (.returned (.tuple #[zeroN,.int .i64 0,.int .i64 11])) (resW w):=uEnd_of (unpackP_1 h8) (zeroN_own _ _) ((zB _ _).alloc (zC _) _);have HE:=zA hE;clear hE;go_enter Try.func72,Try.ntmps72;go_wp2;refine bodyPost_ret (v:=.tuple #[zeroN,.int .i64 0,.int .i64 11]) ?_ rfl HE.out;simp[results,Try.results72,go_sem]
 . have hx4:=extract_from l 4;have hx8:=extract_from l 8;rw[hsz]at hx4 hx8;obtain⟨l4,hl4⟩:∃l4,l4=l.drop 4:=⟨_,rfl⟩
   obtain⟨l8,hl8⟩:∃l8,l8=l.drop 8:=⟨_,rfl⟩
   rw[<- hl4]at hx4;rw[<- hl8]at hx8;have h48:4<=l4.length:=by rw[hl4,zN];omega
   have h8L:l8.length=l.length-8:=by rw[hl8,zN]
   have hs8:=size_list l8;have HL4:=zA hl4;have HL8:=zA hl8;clear hl4 hl8;have h4I:(4:Int)<=(l.length:Int):=by omega
   have h8I:(8:Int)<=(l.length:Int):=by omega
   have C1:Hid (∀w,Calls Try.prog 82 #[.string ⟨l.toArray⟩] w fun e w'=>e=.returned (.int .i64 (fourN l))/\Below w.heap.size w w'):=zA (fun w=>by
    have:=four_any ⟨l.toArray⟩ w (by rw[hsz];omega);rw[data_list]at this;exact this)
   have C2:Hid (∀w,Calls Try.prog 82 #[.string ⟨l4.toArray⟩] w fun e w'=>e=.returned (.int .i64 (fourN l4))/\Below w.heap.size w w'):=zA (fun w=>by
    have:=four_any ⟨l4.toArray⟩ w (by rw[size_list];exact h48);rw[data_list]at this;exact this)
   obtain⟨k,hk⟩:∃k,k=fourN l:=⟨_,rfl⟩
   obtain⟨x,hx⟩:∃x,x=fourN l4:=⟨_,rfl⟩
   rw[<- hk]at C1;rw[<- hx]at C2;have HK:=zA hk;have HX:=zA hx;have hRN:w.heap.size+1<=(resW w).heap.size:=by simp
   have HRN:=zA hRN;clear hRN;clear hk hx;go_enter Try.func72,Try.ntmps72;go_wp2_with fail;go_region_held (fun w'=>Below (w.heap.size+1) (resW w) w')
    (first|exact(zB _ _).drew|exact keepB (by assumption) (by assumption) HRN.out)
    (first
     |(go_at_call_of 82 l4;refine(C2.out _).mono ?_;rintro e w1 ⟨rfl,hb1⟩)
     |(go_at_call_of 82 l;refine(C1.out _).mono ?_;rintro e w1 ⟨rfl,hb1⟩))
   all_goals (
    have hB:=(by assumption:Below (w.heap.size+1) (resW w) w1)
    obtain⟨W1,hW1⟩:∃W,W=w1:=⟨_,rfl⟩
    subst hW1;have HB:=zA hB;clear hB;obtain⟨⟨r0,r1,r2,r3⟩,⟨f0,f1,f2,f3⟩⟩:=four_cells (res_block HB.out);clear hb1 C1 C2;by_cases hk1:1048576<k
    . have HE:Hid (UEnd l w (.returned (.tuple #[zeroN,.int .i64 0,.int .i64 31])) (set4 W1 w.heap.size (.int .i64 0) (.slice none 0 0) (.slice none 0 0) (.slice none 0 0))):=
       zA (uEnd_of (unpackP_2 h8 (by rw[<- HK.out];exact hk1)) (zeroN_own _ _) (set4_below (res_below HB.out) (zC _) _ _ _ _))
      obtain⟨⟨z0,z1,z2,z3⟩,_⟩:=four_cells (set4_block (res_block HB.out) (.int .i64 0) (.slice none 0 0) (.slice none 0 0) (.slice none 0 0));have Z0:=zA z0;have Z1:=zA z1;have Z2:=zA z2;have Z3:=zA z3;clear z0 z1 z2 z3;go_wp2;refine bodyPost_ret (v:=.tuple #[zeroN,.int .i64 0,.int .i64 31]) ?_ rfl HE.out;simp[results,Try.results72,go_sem,Z0.out,Z1.out,Z2.out,Z3.out]
    . by_cases hk2:l8.length<k
      . have HE:Hid (UEnd l w (.returned (.tuple #[zeroN,.int .i64 0,.int .i64 11])) (set4 W1 w.heap.size (.int .i64 0) (.slice none 0 0) (.slice none 0 0) (.slice none 0 0))):=
         zA (uEnd_of (unpackP_3 h8 (by rw[<- HK.out];exact hk1) (by rw[<- HK.out,<- h8L];exact hk2)) (zeroN_own _ _) (set4_below (res_below HB.out) (zC _) _ _ _ _))
        obtain⟨⟨z0,z1,z2,z3⟩,_⟩:=four_cells (set4_block (res_block HB.out) (.int .i64 0) (.slice none 0 0) (.slice none 0 0) (.slice none 0 0));have Z0:=zA z0;have Z1:=zA z1;have Z2:=zA z2;have Z3:=zA z3;have hk2I:(l8.length:Int)<(k:Int):=by omega
        clear z0 z1 z2 z3 h8L;go_wp2;refine bodyPost_ret (v:=.tuple #[zeroN,.int .i64 0,.int .i64 11]) ?_ rfl HE.out;simp[results,Try.results72,go_sem,Z0.out,Z1.out,Z2.out,Z3.out]
      . have hk2I:¬(l8.length:Int)<(k:Int):=by omega
        have hk3I:(k:Int)<=(l8.length:Int):=by omega
        have hxk:=extract_to l8 k;have H8:=zA h8;have H82:Hid (¬l.length-8<fourN l):=zA (by rw[<- HK.out,<- h8L];exact hk2);have H81:Hid (¬ 1048576<fourN l):=zA (by rw[<- HK.out];exact hk1);obtain⟨B,hBd⟩:∃B,B=l8.take k:=⟨_,rfl⟩
        rw[<- hBd]at hxk;have hBl:B.length<=1048576:=by rw[hBd,zQ];omega
        have HBD:Hid (B=(l.drop 8).take (fourN l)):=zA (by rw[hBd,HL8.out,HK.out]);have HBL:=zA hBl;have HSUM:=fun w=>sum_any ⟨B.toArray⟩ w (by rw[size_list];omega)
        rw[data_list]at HSUM;have HSUM:=zA HSUM;obtain⟨y,hy⟩:∃y,y=sumN B:=⟨_,rfl⟩
        rw[<- hy]at HSUM;have HY:=zA hy;clear hy hBd h8L h8 hBl;by_cases hs:y=x
        . have hsI:((y:Int)!=(x:Int))=false:=by simp;omega
          have HSE:Hid (sumN ((l.drop 8).take (fourN l))=fourN (l.drop 4)):=zA (by rw[<- HBD.out,<- HY.out,hs,HX.out,HL4.out]);clear hs;go_wp2_with fail;refine(HSUM.out _).mono ?_;rintro e w2 ⟨rfl,hb2⟩;have HB2:=zA (keepB HB.out hb2 HRN.out);clear hb2 r0 r1 r2 r3 f0 f1 f2 f3;obtain⟨⟨r0,r1,r2,r3⟩,⟨f0,f1,f2,f3⟩⟩:=four_cells (res_block HB2.out);go_wp2_with fail;refine(noteOf_any B _ HBL.out).mono ?_;rintro e w3 ⟨hb3,⟨n,v,hread,rfl,hown⟩|⟨hread,rfl⟩⟩
          . have HB3:=zA (keepB HB2.out hb3 HRN.out);obtain⟨a0,l0,c0,a1,l1,c1,a2,l2,c2,rfl⟩:=own_parts hown;clear r0 r1 r2 r3 f0 f1 f2 f3;have hb0:w.heap.size<w2.heap.size:=zF (by have:=HRN.out;omega) HB2.out.size;have HE:Hid (UEnd l w (.returned (.tuple #[.agg #[.int .i64 n.kind,.slice a0 l0 c0,.slice a1 l1 c1,.slice a2 l2 c2],.int .i64 ((8+k:Nat):Int),.int .i64 0])) (set4 (set4 w3 w.heap.size (.int .i64 n.kind) (.slice a0 l0 c0) (.slice a1 l1 c1) (.slice a2 l2 c2)) w.heap.size (.int .i64 n.kind) (.slice a0 l0 c0) (.slice a1 l1 c1) (.slice a2 l2 c2))):=
             zA (uEnd_of (by rw[HK.out];exact unpackP_6 H8.out H81.out H82.out HSE.out (by rw[<- HBD.out];exact hread)) ((set4_own (set4_own hown hb0 _ _ _ _) hb0 _ _ _ _).base (by omega)) (set4_below (set4_below (res_below HB3.out) (zC _) _ _ _ _) (zC _) _ _ _ _))
            obtain⟨⟨r0,r1,r2,r3⟩,⟨f0,f1,f2,f3⟩⟩:=four_cells (res_block HB3.out);have hblk:=set4_block (res_block HB3.out) (.int .i64 n.kind) (.slice a0 l0 c0) (.slice a1 l1 c1) (.slice a2 l2 c2);obtain⟨⟨s0,s1,s2,s3⟩,⟨g0,g1,g2,g3⟩⟩:=four_cells hblk;obtain⟨⟨z0,z1,z2,z3⟩,_⟩:=four_cells (set4_block hblk (.int .i64 n.kind) (.slice a0 l0 c0) (.slice a1 l1 c1) (.slice a2 l2 c2));have Z0:=zA z0;have Z1:=zA z1;have Z2:=zA z2;have Z3:=zA z3;clear z0 z1 z2 z3 hown hread hb3 hblk;go_wp2;refine bodyPost_ret (v:=.tuple #[.agg #[.int .i64 n.kind,.slice a0 l0 c0,.slice a1 l1 c1,.slice a2 l2 c2],.int .i64 ((8+k:Nat):Int),.int .i64 0]) ?_ rfl HE.out;simp[results,Try.results72,go_sem,Z0.out,Z1.out,Z2.out,Z3.out]
          . have HB3:=zA (keepB HB2.out hb3 HRN.out);clear r0 r1 r2 r3 f0 f1 f2 f3;have HE:Hid (UEnd l w (.returned (.tuple #[zeroN,.int .i64 0,.int .i64 31])) (set4 (set4 w3 w.heap.size (.int .i64 0) (.slice none 0 0) (.slice none 0 0) (.slice none 0 0)) w.heap.size (.int .i64 0) (.slice none 0 0) (.slice none 0 0) (.slice none 0 0))):=
             zA (uEnd_of (unpackP_5 H8.out H81.out H82.out HSE.out (by rw[<- HBD.out];exact hread)) (zeroN_own _ _) (set4_below (set4_below (res_below HB3.out) (zC _) _ _ _ _) (zC _) _ _ _ _))
            obtain⟨⟨r0,r1,r2,r3⟩,⟨f0,f1,f2,f3⟩⟩:=four_cells (res_block HB3.out);have hblk:=set4_block (res_block HB3.out) (.int .i64 0) (.slice none 0 0) (.slice none 0 0) (.slice none 0 0);obtain⟨⟨s0,s1,s2,s3⟩,⟨g0,g1,g2,g3⟩⟩:=four_cells hblk;obtain⟨⟨z0,z1,z2,z3⟩,_⟩:=four_cells (set4_block hblk (.int .i64 0) (.slice none 0 0) (.slice none 0 0) (.slice none 0 0));have Z0:=zA z0;have Z1:=zA z1;have Z2:=zA z2;have Z3:=zA z3;clear z0 z1 z2 z3 hread hb3 hblk;go_wp2;refine bodyPost_ret (v:=.tuple #[zeroN,.int .i64 0,.int .i64 31]) ?_ rfl HE.out;simp[results,Try.results72,go_sem,Z0.out,Z1.out,Z2.out,Z3.out]
        . have hsI:((y:Int)!=(x:Int))=true:=by simp;omega
          have HSE:Hid (sumN ((l.drop 8).take (fourN l))≠fourN (l.drop 4)):=zA (by rw[<- HBD.out,<- HY.out,<- HL4.out,<- HX.out];exact hs);clear hs;go_wp2_with fail;refine(HSUM.out _).mono ?_;rintro e w2 ⟨rfl,hb2⟩;have HB2:=zA (keepB HB.out hb2 HRN.out);clear hb2 r0 r1 r2 r3 f0 f1 f2 f3;obtain⟨⟨r0,r1,r2,r3⟩,⟨f0,f1,f2,f3⟩⟩:=four_cells (res_block HB2.out);have HE:Hid (UEnd l w (.returned (.tuple #[zeroN,.int .i64 0,.int .i64 30])) (set4 w2 w.heap.size (.int .i64 0) (.slice none 0 0) (.slice none 0 0) (.slice none 0 0))):=
           zA (uEnd_of (unpackP_4 H8.out H81.out H82.out HSE.out) (zeroN_own _ _) (set4_below (res_below HB2.out) (zC _) _ _ _ _))
          obtain⟨⟨z0,z1,z2,z3⟩,_⟩:=four_cells (set4_block (res_block HB2.out) (.int .i64 0) (.slice none 0 0) (.slice none 0 0) (.slice none 0 0));have Z0:=zA z0;have Z1:=zA z1;have Z2:=zA z2;have Z3:=zA z3;clear z0 z1 z2 z3;go_wp2;refine bodyPost_ret (v:=.tuple #[zeroN,.int .i64 0,.int .i64 30]) ?_ rfl HE.out;simp[results,Try.results72,go_sem,Z0.out,Z1.out,Z2.out,Z3.out])
def NotesOwn(w:World)(B:Nat)(v:Value)(ns:List NoteD):Prop:=
 ∃cs,w.ownsRow B 36 4 v ns.length cs/\∀(j:Nat) n,ns[j]?=some n->∃c1 c2 c3,cs[j*4]?=some (.int .i64 n.kind)/\cs[j*4+1]?=some c1/\cs[j*4+2]?=some c2/\cs[j*4+3]?=some c3/\NoteOwn w B (.agg #[.int .i64 n.kind,c1,c2,c3]) n
theorem owns_below{w w':World}{B n:Nat}{e:TypeId}{size:Nat}{v:Value}{xs:List Value}(h:w.ownsRow B e size v n xs)(hb:Below w.heap.size w w'):w'.ownsRow B e size v n xs:=by
 refine⟨h.1,?_⟩;rcases h.2 with h0|⟨g,cap,cur,e1,e2,e3,e4⟩
 . exact .inl h0
 . exact .inr ⟨g,cap,cur,e1,e2,(hb.block g (lt_of_block e3)).trans e3,e4⟩
theorem NotesOwn.below{w w':World}{B:Nat}{v:Value}{ns:List NoteD}(h:NotesOwn w B v ns)(hb:Below w.heap.size w w'):NotesOwn w' B v ns:=by
 obtain⟨cs,h1,h2⟩:=h;refine⟨cs,owns_below h1 hb,fun j n hn=>?_⟩;obtain⟨c1,c2,c3,a0,a1,a2,a3,a4⟩:=h2 j n hn;exact⟨c1,c2,c3,a0,a1,a2,a3,a4.below hb⟩
set_option maxHeartbeats 1000000 in
theorem sameRows_any(va vb:Value)(xs ys:List (List (List UInt8)))(w:World)(ha:RowsAt w va xs)(hb:RowsAt w vb ys):
 Calls Try.prog 56 #[va,vb] w fun e w'=>e=.returned (.bool (decide (xs=ys)))/\Below w.heap.size w w':=by
 obtain⟨la,aa,ca,vsa,rfl,hla,ha,hsa⟩:=ha.parts;obtain⟨lb,ab,cb,vsb,rfl,hlb,hb,hsb⟩:=hb.parts;by_cases hl:xs.length=ys.length
 . have HA:=zA ha;have HB:=zA hb;have HL:=zA hl;have HLA:=zA hla;have HLB:=zA hlb;have HSA:=zA hsa;have HSB:=zA hsb;rw[<- hl];clear ha hb hl hla hlb hsa hsb;go_enter Try.func56,Try.ntmps56;go_wp2;go_loopw [5] (fun c wr=>∃i:Nat,i<=xs.length/\c=.int .i64 i/\xs.take i=ys.take i/\Below w.heap.size w wr) (fun c _=>xs.length-(intOf c).toNat)
   case atStart=>exact⟨0,zO _,rfl,rfl,zB _ _⟩
   case round=>
    obtain⟨i,hi,rfl,htk,hbw⟩:=hrel;have HT:=zA htk;clear htk;by_cases hlt:i<xs.length
    . obtain⟨r1,hx⟩:∃x,xs[i]?=some x:=⟨_,zD hlt⟩
      obtain⟨r2,hy⟩:∃y,ys[i]?=some y:=⟨_,zD (by rw[<- HL.out];exact hlt)⟩
      obtain⟨x,hvx⟩:∃x,vsa[i]?=some x:=⟨_,zD (by rw[HLA.out];exact hlt)⟩
      obtain⟨y,hvy⟩:∃y,vsb[i]?=some y:=⟨_,zD (by rw[HLB.out,<- HL.out];exact hlt)⟩
      rcases HA.out with hnil|⟨ba,oa,rfl,ha1,ha2⟩
      . rw[hnil]at hvx;simp at hvx
      . rcases HB.out with hnil|⟨bb,ob,rfl,hb1,hb2⟩
        . rw[hnil]at hvy;simp at hvy
        . have hcx:=(hbw.cell (p:=⟨ba,oa+i,none⟩) ha1).trans (ha2 i x hvx);have hcy:=(hbw.cell (p:=⟨bb,ob+i,none⟩) hb1).trans (hb2 i y hvy);have hla1:ba<wr.heap.size:=zF ha1 hbw.size;have hlb1:bb<wr.heap.size:=zF hb1 hbw.size;have SX:=zA (((HSA.out i x r1 hvx hx).below hbw).drew);have SY:=zA (((HSB.out i y r2 hvy hy).below hbw).drew);have HX:=zA hx;have HY:=zA hy;have HBW:=zA hbw.drew;have hltI:(i:Int)<(xs.length:Int):=by omega
          have h0I:(0:Int)<=(i:Int):=by omega
          have C:=zA (same_any x y r1 r2 wr.drew SX.out SY.out);clear hx hy hvx hvy ha2 hb2 hbw ha1 hb1;by_cases hxy:r1=r2
          . subst hxy;have hnx:xs.take (i+1)=ys.take (i+1):=by
             rw[zW,zW,HT.out,HX.out,HY.out]
            have HN:=zA hnx;clear hnx;rw[zM (rfl:r1=r1)]at C;go_wp2;go_region_held (fun w'=>w'.cell? ⟨ba,oa+i,none⟩=some x/\w'.cell? ⟨bb,ob+i,none⟩=some y)
             (first|exact⟨hcx,hcy⟩|exact⟨(hbc.cell (p:=⟨ba,oa+i,none⟩) hla1).trans hcx,(hbc.cell (p:=⟨bb,ob+i,none⟩) hlb1).trans hcy⟩)
             (first|(go_at_call 15;refine C.out.mono ?_;rintro e w1 ⟨rfl,hbc⟩))
            have hbq:=HBW.out.trans (hbc.mono HBW.out.size);clear hbc;go_wp2;go_roundw
            case rel=>exact⟨i+1,by omega,by go_num,HN.out,hbq⟩
            case measure=>simp[intOf];omega
          . have hne:decide (xs=ys)=false:=by
             rw[decide_eq_false_iff_not];intro h;have a:=HX.out;rw[h,HY.out]at a;exact hxy (Option.some.inj a).symm
            have HN:=zA hne;clear hne;rw[decide_eq_false hxy]at C;go_wp2;go_region_held (fun w'=>w'.cell? ⟨ba,oa+i,none⟩=some x/\w'.cell? ⟨bb,ob+i,none⟩=some y)
             (first|exact⟨hcx,hcy⟩|exact⟨(hbc.cell (p:=⟨ba,oa+i,none⟩) hla1).trans hcx,(hbc.cell (p:=⟨bb,ob+i,none⟩) hlb1).trans hcy⟩)
             (first|(go_at_call 15;refine C.out.mono ?_;rintro e w1 ⟨rfl,hbc⟩))
            have hbq:=HBW.out.trans (hbc.mono HBW.out.size);clear hbc;go_wp2;go_ret;exact⟨by rw[HN.out];rfl,hbq⟩
    . have heq:decide (xs=ys)=true:=by
       rw[decide_eq_true_iff];have:=HT.out;rw[zI (by omega),zI (by rw[<- HL.out];omega)]at this;exact this
      have HN:=zA heq;clear heq;go_wp2;go_ret;exact⟨by rw[HN.out];rfl,hbw⟩
 . have hne:decide (xs=ys)=false:=by
    rw[decide_eq_false_iff_not];intro h;exact hl (by rw[h])
   have HN:=zA hne;have hl2:((xs.length:Int)!=(ys.length:Int))=true:=by rw[bne_iff_ne];omega
   clear hne;go_enter Try.func56,Try.ntmps56;go_wp2;go_ret;exact⟨by rw[HN.out];rfl,zB _ _⟩
end Go.Proofs.Ytjoddkeamboeoaa
