/- ERTakE. -/
import Derived.Test.YtjoddkeamboeoaaMG42
set_option maxRecDepth 100000
namespace Go.Proofs.Ytjoddkeamboeoaa
open Go.RowKit Go.Shelf
section
variable {T:Nat->Prop} {w:World} {e:En} {vq:Value}
set_option maxHeartbeats 4000000 in
theorem rTake_d2(hq:TxR T w vq e.q)(hlow:Low T w)(l:List UInt8){x0:Int}(hl:l.length<=140737488351232)(ht:takeE e l=((seeE e x0.toNat).1,[],[telB (seeE e x0.toNat).1],(seeE e x0.toNat).2))(hok:(onlyP l).2=true)(h2:(onlyP l).1.rows.length=0)(hk:(onlyP l).1.kind=2)(h3:(onlyP l).1.nums.length=3)(h4:(onlyP l).1.texts.length=0)(hx:(onlyP l).1.nums[0]?=some x0)(hx0:x0≠0)(hxo:¬x0<(e.ot:Int))(x1:Int)(hx1:(onlyP l).1.nums[1]?=some x1)(hxe:x1≠(e.ep:Int)):Calls Try.prog 20 #[rvE e vq,.string ⟨l.toArray⟩] w (RTakE T w e l):=by
 obtain⟨ao,cap,rfl,-,-,-⟩:=txr_cells hq;obtain⟨m,hm⟩:∃m,e.q.length=m:=⟨_,rfl⟩
 obtain⟨b,hb⟩:∃b,w.heap.size=b:=⟨_,rfl⟩
 rw[hm]at hq ⊢;have C:=zA (rOne_any l (takW w e (.slice ao m cap)) hl);unfold OnE at C;obtain⟨n,hn⟩:∃n,(onlyP l).1=n:=⟨_,rfl⟩
 rw[hn]at C h2 hk h3 h4 hx hx1;rw[hok]at C;have HTX:=zA hq;have HLOW:=zA hlow;have HT:=zA ht;clear hq hlow ht hl hn hok hm;go_enter Try.func20,Try.ntmps20;go_wp2_with fail;refine C.out.mono ?_;clear C;rintro x w1 ⟨v,rfl,hown,hbw⟩;obtain⟨a0,l0,c0,a1,l1,c1,a2,l2,c2,rfl⟩:=own_parts hown;have hss:(takW w e (.slice ao m cap)).heap.size=b+1+1:=by simp;omega
 have TK:=TkR.of (c0:=c0) (c1:=c1) (c2:=c2) (a2:=a2) hb HTX.out HLOW.out (by rw[<- hss];exact hown) hbw;obtain⟨nb,hnb⟩:∃nb,w1.heap.size=nb:=⟨_,rfl⟩
 obtain⟨W2,hW2⟩:∃W2,w1.alloc (.cells #[.int .i64 n.kind,.slice a0 l0 c0,.slice a1 l1 c1,.slice a2 l2 c2] 36)=W2:=⟨_,rfl⟩
 have HW2:=zA hW2;have HTK:Hid (TkR T w e ao m cap b nb n a0 l0 c0 a1 l1 c1 a2 l2 c2 W2):=zA (by rw[<- hW2,<- hnb];exact TK);obtain⟨W3,hW3⟩:∃W3,W3=W2.drew:=⟨_,rfl⟩
 have HW3:=zA hW3;have HTD:Hid (TkR T w e ao m cap b nb n a0 l0 c0 a1 l1 c1 a2 l2 c2 W3):=zA (by rw[hW3];exact HTK.out.keep (below_drewE (zB _ _)));obtain⟨r0,r1,r2,rn,rt⟩:=own_read (HTK.out.keep (below_drewE (zB _ _))).own;clear TK hown hbw hss hW2 hW3 HTX HLOW;have hcs:=(HTK.out.keep (below_drewE (zB _ _))).cells;obtain rfl:l2=0:=by omega
 rw[hk]at hcs;have hw1:IntKind.i64.wrap 3=3:=by decide
 have hw2:IntKind.i64.wrap 0=0:=by decide
 obtain rfl:l0=3:=by omega
 obtain rfl:l1=0:=by omega
 obtain⟨g,o,rfl,-,hc0⟩:=rn (by intro h;rw[h]at hx;simp at hx);have q5:=hc0 0 x0 hx;rw[yA]at q5;have t7:¬x0=0:=hx0;have t7d:(x0==0)=false:=by simpa using t7
 have t8:¬x0<(e.ot:Int):=by omega
 have t8d:decide (x0<(e.ot:Int))=false:=decide_eq_false t8;have HX:=zA hx;have HX1:=zA hx1;clear hc0;obtain⟨⟨q0,q1,q2,q3⟩,q4⟩:=hcs;have HSD:=zA (And.intro q0 (And.intro q1 (And.intro q2 (And.intro q3 (And.intro q4 q5)))));have HXE:=zA hxe;have HK:=zA hk;have HXO:Hid (¬x0<(e.ot:Int)):=zA t8;clear q0 q1 q2 q3 q4 q5 h2 hk h3 h4 hx hx0 hxo hx1 hxe r0 r1 r2 rn rt;go_upto_region 2 with fail;rw[HW2.out];clear HW2;refine wp_region_held_drew (S:=fun u=>u.cell? ⟨nb,0,none⟩=some (.int .i64 2)/\u.cell? ⟨nb,1,none⟩=some (.slice (some ⟨g,o,none⟩) 3 c0)/\u.cell? ⟨nb,2,none⟩=some (.slice a1 0 c1)/\u.cell? ⟨nb,3,none⟩=some (.slice a2 0 c2)/\u.cell? ⟨b,1,none⟩=some (.int .i64 e.ot)/\u.cell? ⟨g,o,none⟩=some (.int .i64 x0)) (by kernel_rfl) ?_ (fun hHeld=>?_)
 . exact HSD.out
 refine tkH (i:=0) (oi:=⟨some 21,.move (.tmp 9),4, "ref.go:71",#[],none⟩) (v:=?_) rfl ?_ hHeld ?_;rotate_left 1
 . rintro W ⟨s0,s1,s2,s3,s4,s5⟩;go_simp;try with_reducible rfl
 simp only[Act.put,zIB,zSZ,zSS];refine tkH (i:=1) (oi:=⟨some 22,.unOp .not 4 (.tmp 21),4, "ref.go:71",#[⟨0,.data⟩],none⟩) (v:=?_) rfl ?_ hHeld ?_;rotate_left 1
 . rintro W ⟨s0,s1,s2,s3,s4,s5⟩;go_simp;try with_reducible rfl
 simp only[Act.put,zIB,zSZ,zSS];refine tkH (i:=2) (oi:=⟨some 23,.move (.tmp 22),4, "ref.go:71",#[⟨1,.data⟩],none⟩) (v:=?_) rfl ?_ hHeld ?_;rotate_left 1
 . rintro W ⟨s0,s1,s2,s3,s4,s5⟩;go_simp;try with_reducible rfl
 simp only[Act.put,zIB,zSZ,zSS];refine tkH (i:=3) (oi:=⟨some 24,.fieldAddr 36 (.tmp 8) 3,0, "ref.go:71",#[⟨2,.guard⟩],some (2,false)⟩) (v:=?_) rfl ?_ hHeld ?_;rotate_left 1
 . rintro W ⟨s0,s1,s2,s3,s4,s5⟩;go_simp;try with_reducible rfl
 simp only[Act.put,zIB,zSZ,zSS];refine tkH (i:=4) (oi:=⟨some 25,.load 34 (.tmp 24),34, "ref.go:71",#[⟨3,.data⟩,⟨2,.guard⟩],some (2,false)⟩) (v:=?_) rfl ?_ hHeld ?_;rotate_left 1
 . rintro W ⟨s0,s1,s2,s3,s4,s5⟩;go_simp;try with_reducible rfl
 simp only[Act.put,zIB,zSZ,zSS];refine tkH (i:=5) (oi:=⟨some 26,.call { callee:=.builtin .len,args:=#[.tmp 25],argTypes:=#[34] },3, "ref.go:71",#[⟨4,.data⟩,⟨2,.guard⟩],some (2,false)⟩) (v:=?_) rfl ?_ hHeld ?_;rotate_left 1
 . rintro W ⟨s0,s1,s2,s3,s4,s5⟩;go_simp;try with_reducible rfl
 simp only[Act.put,zIB,zSZ,zSS];refine tkH (i:=6) (oi:=⟨some 27,.binOp .gtr 3 (.tmp 26) (.const (.int .i64 0)) 3,4, "ref.go:71",#[⟨5,.data⟩,⟨2,.guard⟩],some (2,false)⟩) (v:=?_) rfl ?_ hHeld ?_;rotate_left 1
 . rintro W ⟨s0,s1,s2,s3,s4,s5⟩;go_simp;try with_reducible rfl
 simp only[Act.put,zIB,zSZ,zSS];refine tkH (i:=7) (oi:=⟨some 28,.pick (.tmp 23) (.const (.bool true)) (.tmp 27),4, "ref.go:71",#[⟨2,.data⟩,⟨6,.data⟩],none⟩) (v:=?_) rfl ?_ hHeld ?_;rotate_left 1
 . rintro W ⟨s0,s1,s2,s3,s4,s5⟩;go_simp;try with_reducible rfl
 simp only[Act.put,zIB,zSZ,zSS];refine tkH (i:=8) (oi:=⟨some 29,.move (.tmp 28),4, "ref.go:71",#[⟨7,.data⟩,⟨2,.chain⟩],none⟩) (v:=?_) rfl ?_ hHeld ?_;rotate_left 1
 . rintro W ⟨s0,s1,s2,s3,s4,s5⟩;go_simp;try with_reducible rfl
 simp only[Act.put,zIB,zSZ,zSS];refine tkH (i:=9) (oi:=⟨some 30,.fieldAddr 36 (.tmp 8) 0,0, "ref.go:71",#[⟨8,.guard⟩],some (8,false)⟩) (v:=?_) rfl ?_ hHeld ?_;rotate_left 1
 . rintro W ⟨s0,s1,s2,s3,s4,s5⟩;go_simp;try with_reducible rfl
 simp only[Act.put,zIB,zSZ,zSS];refine tkH (i:=10) (oi:=⟨some 31,.load 3 (.tmp 30),3, "ref.go:71",#[⟨9,.data⟩,⟨8,.guard⟩],some (8,false)⟩) (v:=?_) rfl ?_ hHeld ?_;rotate_left 1
 . rintro W ⟨s0,s1,s2,s3,s4,s5⟩;go_simp;try with_reducible rfl
 simp only[Act.put,zIB,zSZ,zSS];refine tkH (i:=11) (oi:=⟨some 32,.binOp .lss 3 (.tmp 31) (.const (.int .i64 1)) 3,4, "ref.go:71",#[⟨10,.data⟩,⟨8,.guard⟩],some (8,false)⟩) (v:=?_) rfl ?_ hHeld ?_;rotate_left 1
 . rintro W ⟨s0,s1,s2,s3,s4,s5⟩;go_simp;try with_reducible rfl
 simp only[Act.put,zIB,zSZ,zSS];refine tkH (i:=12) (oi:=⟨some 33,.pick (.tmp 29) (.const (.bool true)) (.tmp 32),4, "ref.go:71",#[⟨8,.data⟩,⟨11,.data⟩],none⟩) (v:=?_) rfl ?_ hHeld ?_;rotate_left 1
 . rintro W ⟨s0,s1,s2,s3,s4,s5⟩;go_simp;try with_reducible rfl
 simp only[Act.put,zIB,zSZ,zSS];refine tkH (i:=13) (oi:=⟨some 34,.move (.tmp 33),4, "ref.go:71",#[⟨12,.data⟩,⟨8,.chain⟩],none⟩) (v:=?_) rfl ?_ hHeld ?_;rotate_left 1
 . rintro W ⟨s0,s1,s2,s3,s4,s5⟩;go_simp;try with_reducible rfl
 simp only[Act.put,zIB,zSZ,zSS];refine tkH (i:=14) (oi:=⟨some 35,.fieldAddr 36 (.tmp 8) 0,0, "ref.go:71",#[⟨13,.guard⟩],some (13,false)⟩) (v:=?_) rfl ?_ hHeld ?_;rotate_left 1
 . rintro W ⟨s0,s1,s2,s3,s4,s5⟩;go_simp;try with_reducible rfl
 simp only[Act.put,zIB,zSZ,zSS];refine tkH (i:=15) (oi:=⟨some 36,.load 3 (.tmp 35),3, "ref.go:71",#[⟨14,.data⟩,⟨13,.guard⟩],some (13,false)⟩) (v:=?_) rfl ?_ hHeld ?_;rotate_left 1
 . rintro W ⟨s0,s1,s2,s3,s4,s5⟩;go_simp;try with_reducible rfl
 simp only[Act.put,zIB,zSZ,zSS];refine tkH (i:=16) (oi:=⟨some 37,.binOp .gtr 3 (.tmp 36) (.const (.int .i64 2)) 3,4, "ref.go:71",#[⟨15,.data⟩,⟨13,.guard⟩],some (13,false)⟩) (v:=?_) rfl ?_ hHeld ?_;rotate_left 1
 . rintro W ⟨s0,s1,s2,s3,s4,s5⟩;go_simp;try with_reducible rfl
 simp only[Act.put,zIB,zSZ,zSS];refine tkH (i:=17) (oi:=⟨some 38,.pick (.tmp 34) (.const (.bool true)) (.tmp 37),4, "ref.go:71",#[⟨13,.data⟩,⟨16,.data⟩],none⟩) (v:=?_) rfl ?_ hHeld ?_;rotate_left 1
 . rintro W ⟨s0,s1,s2,s3,s4,s5⟩;go_simp;try with_reducible rfl
 simp only[Act.put,zIB,zSZ,zSS];refine tkH (i:=18) (oi:=⟨some 39,.move (.tmp 38),4, "ref.go:71",#[⟨17,.data⟩,⟨13,.chain⟩],none⟩) (v:=?_) rfl ?_ hHeld ?_;rotate_left 1
 . rintro W ⟨s0,s1,s2,s3,s4,s5⟩;go_simp;try with_reducible rfl
 simp only[Act.put,zIB,zSZ,zSS];refine tkH (i:=19) (oi:=⟨some 40,.fieldAddr 36 (.tmp 8) 1,0, "ref.go:71",#[⟨18,.guard⟩],some (18,false)⟩) (v:=?_) rfl ?_ hHeld ?_;rotate_left 1
 . rintro W ⟨s0,s1,s2,s3,s4,s5⟩;go_simp;try with_reducible rfl
 simp only[Act.put,zIB,zSZ,zSS];refine tkH (i:=20) (oi:=⟨some 41,.load 33 (.tmp 40),33, "ref.go:71",#[⟨19,.data⟩,⟨18,.guard⟩],some (18,false)⟩) (v:=?_) rfl ?_ hHeld ?_;rotate_left 1
 . rintro W ⟨s0,s1,s2,s3,s4,s5⟩;go_simp;try with_reducible rfl
 simp only[Act.put,zIB,zSZ,zSS];refine tkH (i:=21) (oi:=⟨some 42,.call { callee:=.builtin .len,args:=#[.tmp 41],argTypes:=#[33] },3, "ref.go:71",#[⟨20,.data⟩,⟨18,.guard⟩],some (18,false)⟩) (v:=?_) rfl ?_ hHeld ?_;rotate_left 1
 . rintro W ⟨s0,s1,s2,s3,s4,s5⟩;go_simp;try with_reducible rfl
 simp only[Act.put,zIB,zSZ,zSS];refine tkH (i:=22) (oi:=⟨some 43,.fieldAddr 36 (.tmp 8) 0,0, "ref.go:71",#[⟨18,.guard⟩],some (18,false)⟩) (v:=?_) rfl ?_ hHeld ?_;rotate_left 1
 . rintro W ⟨s0,s1,s2,s3,s4,s5⟩;go_simp;try with_reducible rfl
 simp only[Act.put,zIB,zSZ,zSS];refine tkH (i:=23) (oi:=⟨some 44,.load 3 (.tmp 43),3, "ref.go:71",#[⟨22,.data⟩,⟨18,.guard⟩],some (18,false)⟩) (v:=?_) rfl ?_ hHeld ?_;rotate_left 1
 . rintro W ⟨s0,s1,s2,s3,s4,s5⟩;go_simp;try with_reducible rfl
 simp only[Act.put,zIB,zSZ,zSS];refine tkH (i:=24) (oi:=⟨some 45,.binOp .sub 3 (.const (.int .i64 5)) (.tmp 44) 3,3, "ref.go:71",#[⟨23,.data⟩,⟨18,.guard⟩],some (18,false)⟩) (v:=?_) rfl ?_ hHeld ?_;rotate_left 1
 . rintro W ⟨s0,s1,s2,s3,s4,s5⟩;go_simp;try with_reducible rfl
 simp only[Act.put,zIB,zSZ,zSS];refine tkH (i:=25) (oi:=⟨some 46,.binOp .neq 3 (.tmp 42) (.tmp 45) 3,4, "ref.go:71",#[⟨21,.data⟩,⟨24,.data⟩,⟨18,.guard⟩],some (18,false)⟩) (v:=?_) rfl ?_ hHeld ?_;rotate_left 1
 . rintro W ⟨s0,s1,s2,s3,s4,s5⟩;go_simp;try with_reducible rfl
 simp only[Act.put,zIB,zSZ,zSS];refine tkH (i:=26) (oi:=⟨some 47,.pick (.tmp 39) (.const (.bool true)) (.tmp 46),4, "ref.go:71",#[⟨18,.data⟩,⟨25,.data⟩],none⟩) (v:=?_) rfl ?_ hHeld ?_;rotate_left 1
 . rintro W ⟨s0,s1,s2,s3,s4,s5⟩;go_simp;try with_reducible rfl
 simp only[Act.put,zIB,zSZ,zSS];refine tkH (i:=27) (oi:=⟨some 48,.move (.tmp 47),4, "ref.go:71",#[⟨26,.data⟩,⟨18,.chain⟩],none⟩) (v:=?_) rfl ?_ hHeld ?_;rotate_left 1
 . rintro W ⟨s0,s1,s2,s3,s4,s5⟩;go_simp;try with_reducible rfl
 simp only[Act.put,zIB,zSZ,zSS];refine tkH (i:=28) (oi:=⟨some 49,.fieldAddr 36 (.tmp 8) 2,0, "ref.go:71",#[⟨27,.guard⟩],some (27,false)⟩) (v:=?_) rfl ?_ hHeld ?_;rotate_left 1
 . rintro W ⟨s0,s1,s2,s3,s4,s5⟩;go_simp;try with_reducible rfl
 simp only[Act.put,zIB,zSZ,zSS];refine tkH (i:=29) (oi:=⟨some 50,.load 27 (.tmp 49),27, "ref.go:71",#[⟨28,.data⟩,⟨27,.guard⟩],some (27,false)⟩) (v:=?_) rfl ?_ hHeld ?_;rotate_left 1
 . rintro W ⟨s0,s1,s2,s3,s4,s5⟩;go_simp;try with_reducible rfl
 simp only[Act.put,zIB,zSZ,zSS];refine tkH (i:=30) (oi:=⟨some 51,.call { callee:=.builtin .len,args:=#[.tmp 50],argTypes:=#[27] },3, "ref.go:71",#[⟨29,.data⟩,⟨27,.guard⟩],some (27,false)⟩) (v:=?_) rfl ?_ hHeld ?_;rotate_left 1
 . rintro W ⟨s0,s1,s2,s3,s4,s5⟩;go_simp;try with_reducible rfl
 simp only[Act.put,zIB,zSZ,zSS];refine tkH (i:=31) (oi:=⟨some 52,.fieldAddr 36 (.tmp 8) 0,0, "ref.go:71",#[⟨27,.guard⟩],some (27,false)⟩) (v:=?_) rfl ?_ hHeld ?_;rotate_left 1
 . rintro W ⟨s0,s1,s2,s3,s4,s5⟩;go_simp;try with_reducible rfl
 simp only[Act.put,zIB,zSZ,zSS];refine tkH (i:=32) (oi:=⟨some 53,.load 3 (.tmp 52),3, "ref.go:71",#[⟨31,.data⟩,⟨27,.guard⟩],some (27,false)⟩) (v:=?_) rfl ?_ hHeld ?_;rotate_left 1
 . rintro W ⟨s0,s1,s2,s3,s4,s5⟩;go_simp;try with_reducible rfl
 simp only[Act.put,zIB,zSZ,zSS];refine tkH (i:=33) (oi:=⟨some 54,.binOp .sub 3 (.const (.int .i64 2)) (.tmp 53) 3,3, "ref.go:71",#[⟨32,.data⟩,⟨27,.guard⟩],some (27,false)⟩) (v:=?_) rfl ?_ hHeld ?_;rotate_left 1
 . rintro W ⟨s0,s1,s2,s3,s4,s5⟩;go_simp;try with_reducible rfl
 simp only[Act.put,zIB,zSZ,zSS];refine tkH (i:=34) (oi:=⟨some 55,.binOp .neq 3 (.tmp 51) (.tmp 54) 3,4, "ref.go:71",#[⟨30,.data⟩,⟨33,.data⟩,⟨27,.guard⟩],some (27,false)⟩) (v:=?_) rfl ?_ hHeld ?_;rotate_left 1
 . rintro W ⟨s0,s1,s2,s3,s4,s5⟩;go_simp;try with_reducible rfl
 simp only[Act.put,zIB,zSZ,zSS];refine tkH (i:=35) (oi:=⟨some 56,.pick (.tmp 48) (.const (.bool true)) (.tmp 55),4, "ref.go:71",#[⟨27,.data⟩,⟨34,.data⟩],none⟩) (v:=?_) rfl ?_ hHeld ?_;rotate_left 1
 . rintro W ⟨s0,s1,s2,s3,s4,s5⟩;go_simp;try with_reducible rfl
 simp only[Act.put,zIB,zSZ,zSS];refine tkH (i:=36) (oi:=⟨some 57,.move (.tmp 56),4, "ref.go:71",#[⟨35,.data⟩,⟨27,.chain⟩],none⟩) (v:=?_) rfl ?_ hHeld ?_;rotate_left 1
 . rintro W ⟨s0,s1,s2,s3,s4,s5⟩;go_simp;try with_reducible rfl
 simp only[Act.put,zIB,zSZ,zSS];refine tkH (i:=37) (oi:=⟨some 58,.fieldAddr 36 (.tmp 8) 1,0, "ref.go:71",#[⟨36,.guard⟩],some (36,false)⟩) (v:=?_) rfl ?_ hHeld ?_;rotate_left 1
 . rintro W ⟨s0,s1,s2,s3,s4,s5⟩;go_simp;try with_reducible rfl
 simp only[Act.put,zIB,zSZ,zSS];refine tkH (i:=38) (oi:=⟨some 59,.load 33 (.tmp 58),33, "ref.go:71",#[⟨37,.data⟩,⟨36,.guard⟩],some (36,false)⟩) (v:=?_) rfl ?_ hHeld ?_;rotate_left 1
 . rintro W ⟨s0,s1,s2,s3,s4,s5⟩;go_simp;try with_reducible rfl
 simp only[Act.put,zIB,zSZ,zSS];refine tkH (i:=39) (oi:=⟨some 60,.indexAddr 33 (.tmp 59) (.const (.int .i64 0)),0, "ref.go:71",#[⟨38,.data⟩,⟨36,.guard⟩],some (36,false)⟩) (v:=?_) rfl ?_ hHeld ?_;rotate_left 1
 . rintro W ⟨s0,s1,s2,s3,s4,s5⟩;go_simp;try with_reducible rfl
 simp only[Act.put,zIB,zSZ,zSS];refine tkH (i:=40) (oi:=⟨some 61,.load 3 (.tmp 60),3, "ref.go:71",#[⟨39,.data⟩,⟨36,.guard⟩],some (36,false)⟩) (v:=?_) rfl ?_ hHeld ?_;rotate_left 1
 . rintro W ⟨s0,s1,s2,s3,s4,s5⟩;go_simp;try with_reducible rfl
 simp only[Act.put,zIB,zSZ,zSS];refine tkH (i:=41) (oi:=⟨some 62,.binOp .eql 3 (.tmp 61) (.const (.int .i64 0)) 3,4, "ref.go:71",#[⟨40,.data⟩,⟨36,.guard⟩],some (36,false)⟩) (v:=?_) rfl ?_ hHeld ?_;rotate_left 1
 . rintro W ⟨s0,s1,s2,s3,s4,s5⟩;go_simp;try with_reducible rfl
 simp only[Act.put,zIB,zSZ,zSS];refine tkH (i:=42) (oi:=⟨some 63,.pick (.tmp 57) (.const (.bool true)) (.tmp 62),4, "ref.go:71",#[⟨36,.data⟩,⟨41,.data⟩],none⟩) (v:=?_) rfl ?_ hHeld ?_;rotate_left 1
 . rintro W ⟨s0,s1,s2,s3,s4,s5⟩;go_simp;try with_reducible rfl
 simp only[Act.put,zIB,zSZ,zSS];refine tkH (i:=43) (oi:=⟨some 64,.move (.tmp 63),4, "ref.go:71",#[⟨42,.data⟩,⟨36,.chain⟩],none⟩) (v:=?_) rfl ?_ hHeld ?_;rotate_left 1
 . rintro W ⟨s0,s1,s2,s3,s4,s5⟩;go_simp;try with_reducible rfl
 simp only[Act.put,zIB,zSZ,zSS];refine tkH (i:=44) (oi:=⟨some 65,.fieldAddr 36 (.tmp 8) 1,0, "ref.go:71",#[⟨43,.guard⟩],some (43,false)⟩) (v:=?_) rfl ?_ hHeld ?_;rotate_left 1
 . rintro W ⟨s0,s1,s2,s3,s4,s5⟩;go_simp;try with_reducible rfl
 simp only[Act.put,zIB,zSZ,zSS];refine tkH (i:=45) (oi:=⟨some 66,.load 33 (.tmp 65),33, "ref.go:71",#[⟨44,.data⟩,⟨43,.guard⟩],some (43,false)⟩) (v:=?_) rfl ?_ hHeld ?_;rotate_left 1
 . rintro W ⟨s0,s1,s2,s3,s4,s5⟩;go_simp;try with_reducible rfl
 simp only[Act.put,zIB,zSZ,zSS];refine tkH (i:=46) (oi:=⟨some 67,.indexAddr 33 (.tmp 66) (.const (.int .i64 0)),0, "ref.go:71",#[⟨45,.data⟩,⟨43,.guard⟩],some (43,false)⟩) (v:=?_) rfl ?_ hHeld ?_;rotate_left 1
 . rintro W ⟨s0,s1,s2,s3,s4,s5⟩;go_simp;try with_reducible rfl
 simp only[Act.put,zIB,zSZ,zSS];refine tkH (i:=47) (oi:=⟨some 68,.load 3 (.tmp 67),3, "ref.go:71",#[⟨46,.data⟩,⟨43,.guard⟩],some (43,false)⟩) (v:=?_) rfl ?_ hHeld ?_;rotate_left 1
 . rintro W ⟨s0,s1,s2,s3,s4,s5⟩;go_simp;try with_reducible rfl
 simp only[Act.put,zIB,zSZ,zSS];refine tkH (i:=48) (oi:=⟨some 69,.fieldAddr 29 (.tmp 2) 1,0, "ref.go:71",#[⟨43,.guard⟩],some (43,false)⟩) (v:=?_) rfl ?_ hHeld ?_;rotate_left 1
 . rintro W ⟨s0,s1,s2,s3,s4,s5⟩;go_simp;try with_reducible rfl
 simp only[Act.put,zIB,zSZ,zSS];refine tkH (i:=49) (oi:=⟨some 70,.load 3 (.tmp 69),3, "ref.go:71",#[⟨48,.data⟩,⟨43,.guard⟩],some (43,false)⟩) (v:=?_) rfl ?_ hHeld ?_;rotate_left 1
 . rintro W ⟨s0,s1,s2,s3,s4,s5⟩;go_simp;try with_reducible rfl
 simp only[Act.put,zIB,zSZ,zSS];refine tkH (i:=50) (oi:=⟨some 71,.binOp .lss 3 (.tmp 68) (.tmp 70) 3,4, "ref.go:71",#[⟨47,.data⟩,⟨49,.data⟩,⟨43,.guard⟩],some (43,false)⟩) (v:=?_) rfl ?_ hHeld ?_;rotate_left 1
 . rintro W ⟨s0,s1,s2,s3,s4,s5⟩;go_simp;try with_reducible rfl
 simp only[Act.put,zIB,zSZ,zSS];refine tkH (i:=51) (oi:=⟨some 72,.pick (.tmp 64) (.const (.bool true)) (.tmp 71),4, "ref.go:71",#[⟨43,.data⟩,⟨50,.data⟩],none⟩) (v:=?_) rfl ?_ hHeld ?_;rotate_left 1
 . rintro W ⟨s0,s1,s2,s3,s4,s5⟩;go_simp;try with_reducible rfl
 simp only[Act.put,zIB,zSZ,zSS];refine wpAnyH_done (by kernel_rfl) ?_ _;rw[<- HW3.out];clear HW3 t7 t7d t8d;obtain⟨W4,hW4⟩:∃W4,W3.alloc (.cells #[.int .i64 0,.slice none 0 0,.slice none 0 0,.slice none 0 0] 36)=W4:=⟨_,rfl⟩
 have HW4:=zA hW4;have hb34:Below W3.heap.size W3 (W3.alloc (.cells #[.int .i64 0,.slice none 0 0,.slice none 0 0,.slice none 0 0] 36)):=(zB W3.heap.size W3).alloc (zC _) _;have HT4:Hid (TkR T w e ao m cap b nb n (some ⟨g,o,none⟩) 3 c0 a1 0 c1 a2 0 c2 W4):=zA (by rw[<- hW4];exact HTD.out.keep hb34);obtain⟨⟨q0,q1,q2,q3⟩,q4⟩:=(HTD.out.keep hb34).cells;rw[HK.out]at q0;clear hW4 hb34 HTK HTD q2 q3;go_upto_region 11 with fail;rw[HW4.out]at q0 q1 q4 ⊢;clear HW4;obtain⟨e1,he1⟩:∃e1,(seeE e x0.toNat).1=e1:=⟨_,rfl⟩
 obtain⟨an,han⟩:∃an,(seeE e x0.toNat).2=an:=⟨_,rfl⟩
 rw[he1,han]at HT;have HSE:Hid (seeE e x0.toNat=(e1,an)):=zA (by rw[<- he1,<- han]);clear he1 han;obtain⟨xn,hxn⟩:∃xn,x0.toNat=xn:=⟨_,rfl⟩
 have rd:∀(u:World) (e2:En) (ao2:Option Addr) (m2 cap2:Nat),TkR T w e2 ao2 m2 cap2 b nb n (some ⟨g,o,none⟩) 3 c0 a1 0 c1 a2 0 c2 u->u.cell? ⟨g,o,none⟩=some (.int .i64 x0)/\u.cell? ⟨g,o+1,none⟩=some (.int .i64 x1):=fun u e2 ao2 m2 cap2 h=>by
  obtain⟨-,-,-,rn,-⟩:=own_read h.own;obtain⟨g2,o2,e2',-,hc⟩:=rn (by intro h0;have:=HX.out;rw[h0]at this;simp at this);injection e2' with e2';injection e2' with e3 e4;subst e3 e4;exact⟨hc 0 x0 HX.out,hc 1 x1 HX1.out⟩
 have HRD:=zA rd;clear rd;obtain⟨k0,-⟩:=HRD.out _ _ _ _ _ HT4.out;go_region;go_upto_if 96 with fail;obtain⟨W5,hW5⟩:∃W5,W5=W4.drew:=⟨_,rfl⟩
 have HT5:Hid (TkR T w e ao m cap b nb n (some ⟨g,o,none⟩) 3 c0 a1 0 c1 a2 0 c2 W5):=zA (by rw[hW5];exact HT4.out.keep (below_drewE (zB _ _)));rw[<- hW5];clear q0 q1 q4 k0 hW5 HT4;go_cut [13] (fun s13 wz=>s13=.bool an/\∃ao1 m1 cap1,Hid (TkR T w e1 ao1 m1 cap1 b nb n (some ⟨g,o,none⟩) 3 c0 a1 0 c1 a2 0 c2 wz))
 case first=>
  by_cases heq:x0=(e.ot:Int)
  . have hlt1:¬(e.ot:Int)<x0:=by omega
    have hlt2:decide ((e.ot:Int)<x0)=false:=decide_eq_false hlt1;have hse:=HSE.out;rw[see_same heq]at hse;injection hse with h1 h2;subst h1 h2;have HF:Hid (TkR T w e ao m cap b nb n (some ⟨g,o,none⟩) 3 c0 a1 0 c1 a2 0 c2 W5):=zA (HT5.out);clear heq;go_wp2_with fail;go_meet;exact⟨rfl,_,_,_,HF⟩
  . have hlt1:(e.ot:Int)<x0:=by have:=HXO.out;omega
    have hlt2:decide ((e.ot:Int)<x0)=true:=zM hlt1;obtain rfl:x0=(xn:Int):=by omega
    have hse:=HSE.out;obtain⟨⟨g0,g1,g2,g3,g4⟩,⟨f0,f1,f2,f3,f4⟩⟩:=five_cells (HT5.out).lk;obtain⟨⟨j0,j1,j2,j3⟩,-⟩:=(HT5.out).cells;obtain⟨i0,-⟩:=HRD.out _ _ _ _ _ (HT5.out);clear heq hxn;by_cases hz:e.ot=0
    . have hz1:¬(0:Int)<(e.ot:Int):=by omega
      rw[see_first hlt1 hz,Int.toNat_natCast]at hse;injection hse with h1 h2;subst h1 h2;have HF:=zA ((HT5.out).first xn);have hzd:decide ((0:Int)<(e.ot:Int))=false:=decide_eq_false hz1;have hzn:decide (0<e.ot)=false:=decide_eq_false (by omega);clear hz;go_wp2_with fail;go_meet;exact⟨rfl,_,_,_,HF⟩
    . have hz1:(0:Int)<(e.ot:Int):=by omega
      rw[see_anew hlt1 hz,Int.toNat_natCast]at hse;injection hse with h1 h2;subst h1 h2;have HF:=zA ((HT5.out).anew xn);have hzd:decide ((0:Int)<(e.ot:Int))=true:=zM hz1;have hzn:decide (0<e.ot)=true:=zM (by omega);clear hz;go_wp2_with fail;go_meet;exact⟨rfl,_,_,_,HF⟩
 case rest=>
  obtain⟨rfl,ao1,m1,cap1,HT6⟩:=hcut;clear HT5;have HEP:Hid (e1.ep=e.ep):=zA (by have h:=see_ep e x0.toNat;rw[HSE.out]at h;exact h);obtain⟨⟨-,q1,-,-⟩,-⟩:=HT6.out.cells;obtain⟨-,k1⟩:=HRD.out _ _ _ _ _ HT6.out;obtain⟨⟨g0,-,-,-,-⟩,-⟩:=five_cells HT6.out.lk;have t9:¬x1=(e1.ep:Int):=by rw[HEP.out];exact HXE.out
  have t9d:(x1==(e1.ep:Int))=false:=by simpa using t9
  have t9e:(x1 !=(e1.ep:Int))=true:=by rw[bne,t9d];rfl
  go_upto_region 18 with fail;go_region;clear q1 k1 g0;go_upto_region 19 with fail;obtain⟨W6,hW6⟩:∃W6,W6=wc.drew:=⟨_,rfl⟩
  rw[<- hW6];have HT7:Hid (TkR T w e1 ao1 m1 cap1 b nb n (some ⟨g,o,none⟩) 3 c0 a1 0 c1 a2 0 c2 W6.drew):=zA (by rw[hW6];exact(HT6.out.keep (below_drewE (zB _ _))).keep (below_drewE (zB _ _)));clear hW6 HT6 HRD HSE t9 t9d t9e;have CB:=zA (rBare_any W6.drew e1 (.slice ao1 m1 cap1));have HS19:Hid (∀u,Below W6.drew.heap.size W6.drew u->u.cell? ⟨b,0,none⟩=some (.int .i64 e1.ep)/\u.cell? ⟨b,1,none⟩=some (.int .i64 e1.ot)/\u.cell? ⟨b,2,none⟩=some (.int .i64 e1.fs)/\u.cell? ⟨b,3,none⟩=some (.int .i64 e1.wt)/\u.cell? ⟨b,4,none⟩=some (.slice ao1 m1 cap1)):=zA (fun u hu=>(five_cells (HT7.out.keep hu).lk).1);have HR19:Hid (∀u,Below W6.drew.heap.size W6.drew u->(u.cell? ⟨b+1,0,none⟩=some (.int .i64 0)/\u.cell? ⟨b+1,1,none⟩=some (.int .i64 0)/\u.cell? ⟨b+1,2,none⟩=some (.int .i64 0)/\u.cell? ⟨b+1,3,none⟩=some (.int .i64 0)/\u.cell? ⟨b+1,4,none⟩=some (.slice none 0 0))/\(u.frozen? ⟨b+1,0,none⟩=false/\u.frozen? ⟨b+1,1,none⟩=false/\u.frozen? ⟨b+1,2,none⟩=false/\u.frozen? ⟨b+1,3,none⟩=false/\u.frozen? ⟨b+1,4,none⟩=false)):=zA (fun u hu=>five_cells (HT7.out.keep hu).rs);have HS5:Hid (∀u,Below W6.drew.heap.size W6.drew u->(set5 u (b+1) (.int .i64 e1.ep) (.int .i64 e1.ot) (.int .i64 e1.fs) (.int .i64 e1.wt) (.slice ao1 m1 cap1)).cell? ⟨b,0,none⟩=some (.int .i64 e1.ep)/\(set5 u (b+1) (.int .i64 e1.ep) (.int .i64 e1.ot) (.int .i64 e1.fs) (.int .i64 e1.wt) (.slice ao1 m1 cap1)).cell? ⟨b,1,none⟩=some (.int .i64 e1.ot)/\(set5 u (b+1) (.int .i64 e1.ep) (.int .i64 e1.ot) (.int .i64 e1.fs) (.int .i64 e1.wt) (.slice ao1 m1 cap1)).cell? ⟨b,2,none⟩=some (.int .i64 e1.fs)/\(set5 u (b+1) (.int .i64 e1.ep) (.int .i64 e1.ot) (.int .i64 e1.fs) (.int .i64 e1.wt) (.slice ao1 m1 cap1)).cell? ⟨b,3,none⟩=some (.int .i64 e1.wt)/\(set5 u (b+1) (.int .i64 e1.ep) (.int .i64 e1.ot) (.int .i64 e1.fs) (.int .i64 e1.wt) (.slice ao1 m1 cap1)).cell? ⟨b,4,none⟩=some (.slice ao1 m1 cap1)):=zA (fun u hu=>(five_cells ((set5_other (show b≠b+1 by omega) _ _ _ _ _).trans (HT7.out.keep hu).lk)).1);have HLT:Hid (b+1<W6.drew.heap.size):=zA (lt_of_block HT7.out.rs);refine wp_region_held_drew (S:=fun u=>u.cell? ⟨b,0,none⟩=some (.int .i64 e1.ep)/\u.cell? ⟨b,1,none⟩=some (.int .i64 e1.ot)/\u.cell? ⟨b,2,none⟩=some (.int .i64 e1.fs)/\u.cell? ⟨b,3,none⟩=some (.int .i64 e1.wt)/\u.cell? ⟨b,4,none⟩=some (.slice ao1 m1 cap1)) (by kernel_rfl) ?_ (fun hHeld=>?_)
  . exact HS19.out _ (zB _ _)
  refine tkH (i:=0) (oi:=⟨some 116,.load 29 (.tmp 2),29, "ref.go:93",#[],none⟩) (v:=?_) rfl ?_ hHeld ?_;rotate_left 1
  . rintro W ⟨s0,s1,s2,s3,s4⟩;go_simp;try with_reducible rfl
  simp only[Act.put,zIB,zSZ,zSS];refine tkH (i:=1) (oi:=⟨some 117,.load 29 (.tmp 2),29, "ref.go:93",#[],none⟩) (v:=?_) rfl ?_ hHeld ?_;rotate_left 1
  . rintro W ⟨s0,s1,s2,s3,s4⟩;go_simp;try with_reducible rfl
  simp only[Act.put,zIB,zSZ,zSS];refine tkH (i:=4) (oi:=⟨some 120,.move (.tmp 13),4, "ref.go:93",#[{ on:=7,ground:=.gcOnly .lateStores }],none⟩) (v:=?_) rfl ?_ hHeld ?_;rotate_left 1
  . rintro W ⟨s0,s1,s2,s3,s4⟩;go_simp;try with_reducible rfl
  simp only[Act.put,zIB,zSZ,zSS];refine wpAnyH_ready (rs:=[2]) (by kernel_rfl) (by simp) ?_;refine AllReadyH.cons (o:=⟨some 118,.call { callee:=.value (.func 44),args:=#[.tmp 117],argTypes:=#[29] },9, "ref.go:93",#[⟨1,.data⟩],none⟩) rfl (fun K hK=>?_) AllReadyH.nil;go_simp;refine CB.out.mono ?_;clear CB;rintro y w8 ⟨rfl,hb8⟩;obtain⟨p,hp⟩:∃p,telB e1=p:=⟨_,rfl⟩
  rw[hp];rw[hp]at HT;have HB8:=zA hb8;have HBA:Hid (Below W6.drew.heap.size W6.drew (w8.alloc (.cells #[.string ⟨p.toArray⟩] 9))):=zA (hb8.alloc hb8.size _);have HE:=zA ((HT7.out.keep HBA.out).fin (p0:=some ⟨w8.heap.size,0,none⟩) (pl:=1) (pc:=1) HT.out (.inr ⟨w8.heap.size,p,rfl,rfl,by have h1:=hb8.size;have h2:=HT7.out.bel.size;omega,box_at w8 _⟩));have HZA:=zA (five_cells (set5_block (HT7.out.keep HBA.out).rs (.int .i64 e1.ep) (.int .i64 e1.ot) (.int .i64 e1.fs) (.int .i64 e1.wt) (.slice ao1 m1 cap1))).1;have HEQ:Hid (set5 (w8.alloc (.cells #[.string ⟨p.toArray⟩] 9)) (b+1) (.int .i64 e1.ep) (.int .i64 e1.ot) (.int .i64 e1.fs) (.int .i64 e1.wt) (.slice ao1 m1 cap1)=(set5 w8 (b+1) (.int .i64 e1.ep) (.int .i64 e1.ot) (.int .i64 e1.fs) (.int .i64 e1.wt) (.slice ao1 m1 cap1)).alloc (.cells #[.string ⟨p.toArray⟩] 9)):=zA (by
   have hlt:b+1<w8.heap.size:=zF HLT.out hb8.size;simp[set5,World.setCell_alloc_past,hlt])
  clear hb8 hp HT HT7;refine hK.out _ _ (HS19.out _ HB8.out) (fun hHeld=>?_);clear hK K;refine wpAnyH_ready (rs:=[3,5]) (by kernel_rfl) (by simp) ?_;refine AllReadyH.cons (o:=⟨some 119,.buildSlice 27 1 #[(0,.tmp 118)],27, "ref.go:93",#[⟨2,.data⟩,{ on:=6,ground:=.gcOnly .lateStores }],none⟩) rfl (fun K hK=>?_) (AllReadyH.cons (o:=⟨none,.store 29 (.tmp 4) (.tmp 116),0, "ref.go:93",#[⟨0,.data⟩,⟨2,.chain⟩,⟨0,.phase⟩,{ on:=1,ground:=.textOnly .lateStores },{ on:=2,ground:=.textOnly .lateStoresUnsure },{ on:=3,ground:=.textOnly .lateStores },{ on:=4,ground:=.textOnly .lateStores }],none⟩) rfl (fun K hK=>?_) AllReadyH.nil)
  . go_simp;refine hK.out _ _ (HS19.out _ HBA.out) (fun hHeld=>?_);clear hK K;refine wpAnyH_ready (rs:=[5]) (by kernel_rfl) (by simp) ?_;refine AllReadyH.cons (o:=⟨none,.store 29 (.tmp 4) (.tmp 116),0, "ref.go:93",#[⟨0,.data⟩,⟨2,.chain⟩,⟨0,.phase⟩,{ on:=1,ground:=.textOnly .lateStores },{ on:=2,ground:=.textOnly .lateStoresUnsure },{ on:=3,ground:=.textOnly .lateStores },{ on:=4,ground:=.textOnly .lateStores }],none⟩) rfl (fun K hK=>?_) AllReadyH.nil;obtain⟨⟨r0,r1,r2,r3,r4⟩,⟨f0,f1,f2,f3,f4⟩⟩:=HR19.out _ HBA.out;go_simp;refine hK.out _ _ (HS5.out _ HBA.out) (fun hHeld=>?_);clear hK K r0 r1 r2 r3 r4 f0 f1 f2 f3 f4;refine tkH (i:=6) (oi:=⟨some 5,.assign (.const (.slice none 0 0)),48, "ref.go:93",#[⟨5,.chain⟩,⟨0,.phase⟩,{ on:=1,ground:=.textOnly .lateStores },{ on:=2,ground:=.textOnly .lateStoresUnsure },{ on:=3,ground:=.textOnly .lateStores },{ on:=4,ground:=.textOnly .lateStores },⟨5,.phase⟩],none⟩) (v:=?_) rfl ?_ hHeld ?_;rotate_left 1
    . rintro W ⟨s0,s1,s2,s3,s4⟩;go_simp;try with_reducible rfl
    simp only[Act.put,zIB,zSZ,zSS];refine tkH (i:=7) (oi:=⟨some 6,.assign (.tmp 119),27, "ref.go:93",#[⟨3,.data⟩,⟨6,.chain⟩,⟨0,.phase⟩,⟨1,.phase⟩,⟨2,.phase⟩,⟨3,.phase⟩,{ on:=4,ground:=.textOnly .lateStores },⟨5,.phase⟩,⟨6,.phase⟩],none⟩) (v:=?_) rfl ?_ hHeld ?_;rotate_left 1
    . rintro W ⟨s0,s1,s2,s3,s4⟩;go_simp;try with_reducible rfl
    simp only[Act.put,zIB,zSZ,zSS];refine tkH (i:=8) (oi:=⟨some 7,.assign (.tmp 120),4, "ref.go:93",#[⟨4,.data⟩,⟨7,.chain⟩,⟨0,.phase⟩,⟨1,.phase⟩,⟨2,.phase⟩,⟨3,.phase⟩,⟨4,.phase⟩,⟨5,.phase⟩,⟨6,.phase⟩,⟨7,.phase⟩],none⟩) (v:=?_) rfl ?_ hHeld ?_;rotate_left 1
    . rintro W ⟨s0,s1,s2,s3,s4⟩;go_simp;try with_reducible rfl
    simp only[Act.put,zIB,zSZ,zSS];refine wpAnyH_done (by kernel_rfl) ?_ _;go_wp2;obtain⟨z0,z1,z2,z3,z4⟩:=HZA.out;refine bodyPost_ret (v:=.tuple #[rvE e1 (.slice ao1 m1 cap1),.slice none 0 0,.slice (some ⟨w8.heap.size,0,none⟩) 1 1,.bool an]) ?_ rfl HE.out;simp[results,Try.results20,go_sem,z0,z1,z2,z3,z4]
  . obtain⟨⟨r0,r1,r2,r3,r4⟩,⟨f0,f1,f2,f3,f4⟩⟩:=HR19.out _ HB8.out;go_simp;refine hK.out _ _ (HS5.out _ HB8.out) (fun hHeld=>?_);clear hK K r0 r1 r2 r3 r4 f0 f1 f2 f3 f4;refine tkH (i:=6) (oi:=⟨some 5,.assign (.const (.slice none 0 0)),48, "ref.go:93",#[⟨5,.chain⟩,⟨0,.phase⟩,{ on:=1,ground:=.textOnly .lateStores },{ on:=2,ground:=.textOnly .lateStoresUnsure },{ on:=3,ground:=.textOnly .lateStores },{ on:=4,ground:=.textOnly .lateStores },⟨5,.phase⟩],none⟩) (v:=?_) rfl ?_ hHeld ?_;rotate_left 1
    . rintro W ⟨s0,s1,s2,s3,s4⟩;go_simp;try with_reducible rfl
    simp only[Act.put,zIB,zSZ,zSS];refine wpAnyH_ready (rs:=[3]) (by kernel_rfl) (by simp) ?_;refine AllReadyH.cons (o:=⟨some 119,.buildSlice 27 1 #[(0,.tmp 118)],27, "ref.go:93",#[⟨2,.data⟩,{ on:=6,ground:=.gcOnly .lateStores }],none⟩) rfl (fun K hK=>?_) AllReadyH.nil;go_simp;refine hK.out _ _ (by have h:=HS5.out _ HBA.out;rw[HEQ.out]at h;exact h) (fun hHeld=>?_);clear hK K;refine tkH (i:=7) (oi:=⟨some 6,.assign (.tmp 119),27, "ref.go:93",#[⟨3,.data⟩,⟨6,.chain⟩,⟨0,.phase⟩,⟨1,.phase⟩,⟨2,.phase⟩,⟨3,.phase⟩,{ on:=4,ground:=.textOnly .lateStores },⟨5,.phase⟩,⟨6,.phase⟩],none⟩) (v:=?_) rfl ?_ hHeld ?_;rotate_left 1
    . rintro W ⟨s0,s1,s2,s3,s4⟩;go_simp;try with_reducible rfl
    simp only[Act.put,zIB,zSZ,zSS];refine tkH (i:=8) (oi:=⟨some 7,.assign (.tmp 120),4, "ref.go:93",#[⟨4,.data⟩,⟨7,.chain⟩,⟨0,.phase⟩,⟨1,.phase⟩,⟨2,.phase⟩,⟨3,.phase⟩,⟨4,.phase⟩,⟨5,.phase⟩,⟨6,.phase⟩,⟨7,.phase⟩],none⟩) (v:=?_) rfl ?_ hHeld ?_;rotate_left 1
    . rintro W ⟨s0,s1,s2,s3,s4⟩;go_simp;try with_reducible rfl
    simp only[Act.put,zIB,zSZ,zSS];refine wpAnyH_done (by kernel_rfl) ?_ _;rw[HEQ.out]at HE HZA;go_wp2;obtain⟨z0,z1,z2,z3,z4⟩:=HZA.out;refine bodyPost_ret (v:=.tuple #[rvE e1 (.slice ao1 m1 cap1),.slice none 0 0,.slice (some ⟨w8.heap.size,0,none⟩) 1 1,.bool an]) ?_ rfl HE.out;simp[results,Try.results20,go_sem,z0,z1,z2,z3,z4]
end
end Go.Proofs.Ytjoddkeamboeoaa
