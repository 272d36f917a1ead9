/- ERTakJ. -/
import Derived.Test.YtjoddkeamboeoaaMG42
import Derived.Deep.LoopGhost
set_option maxRecDepth 100000
namespace Go.Proofs.Ytjoddkeamboeoaa
open Go.RowKit Go.Shelf
section
variable {T:Nat->Prop} {w:World} {e:En} {vq:Value}
set_option maxHeartbeats 4000000 in
theorem rTake_j1(hq:TxR T w vq e.q)(hlow:Low T w)(l tx:List UInt8){x0 x1 x2 x3:Int}(hl:l.length<=140737488351232)(ht:takeE e l=(dropE (seeE e x0.toNat).1 x3.toNat,[],[telB (dropE (seeE e x0.toNat).1 x3.toNat)],(seeE e x0.toNat).2))(hok:(onlyP l).2=true)(h2:(onlyP l).1.rows.length=0)(hk:(onlyP l).1.kind=1)(h3:(onlyP l).1.nums.length=4)(h4:(onlyP l).1.texts.length=1)(hmay:(onlyP l).1.may)(hx:(onlyP l).1.nums[0]?=some x0)(hx0:x0≠0)(hxo:¬x0<(e.ot:Int))(htx:(onlyP l).1.texts[0]?=some tx)(hpk:(onlyP tx).2=true)(hx1:(onlyP l).1.nums[1]?=some x1)(hx2:(onlyP l).1.nums[2]?=some x2)(hx3:(onlyP l).1.nums[3]?=some x3)(hxe:x1=(e.ep:Int))(hxb:x3<=4611686018427387903)(hxw:x2≠((dropE (seeE e x0.toNat).1 x3.toNat).wt:Int)):Calls Try.prog 20 #[rvE e vq,.string ⟨l.toArray⟩] w (RTakE T w e l):=by
 obtain⟨ao,cap,rfl,-,-,-⟩:=txr_cells hq;obtain⟨m,hm⟩:∃m,e.q.length=m:=⟨_,rfl⟩
 obtain⟨b,hb⟩:∃b,w.heap.size=b:=⟨_,rfl⟩
 rw[hm]at hq ⊢;have C:=zA (rOne_any l (takW w e (.slice ao m cap)) hl);unfold OnE at C;obtain⟨n,hn⟩:∃n,(onlyP l).1=n:=⟨_,rfl⟩
 rw[hn]at C h2 hk h3 h4 hmay hx htx hx1 hx2 hx3;rw[hok]at C;have HTX:=zA hq;have HLOW:=zA hlow;have HT:=zA ht;clear hq hlow ht hl hn hok hm;go_enter Try.func20,Try.ntmps20;go_wp2_with fail;refine C.out.mono ?_;clear C;rintro x w1 ⟨v,rfl,hown,hbw⟩;obtain⟨a0,l0,c0,a1,l1,c1,a2,l2,c2,rfl⟩:=own_parts hown;have hss:(takW w e (.slice ao m cap)).heap.size=b+1+1:=by simp;omega
 have TK:=TkR.of (c0:=c0) (c1:=c1) (c2:=c2) (a2:=a2) hb HTX.out HLOW.out (by rw[<- hss];exact hown) hbw;obtain⟨nb,hnb⟩:∃nb,w1.heap.size=nb:=⟨_,rfl⟩
 obtain⟨W2,hW2⟩:∃W2,w1.alloc (.cells #[.int .i64 n.kind,.slice a0 l0 c0,.slice a1 l1 c1,.slice a2 l2 c2] 36)=W2:=⟨_,rfl⟩
 have HW2:=zA hW2;have HTK:Hid (TkR T w e ao m cap b nb n a0 l0 c0 a1 l1 c1 a2 l2 c2 W2):=zA (by rw[<- hW2,<- hnb];exact TK);obtain⟨W3,hW3⟩:∃W3,W3=W2.drew:=⟨_,rfl⟩
 have HW3:=zA hW3;have HTD:Hid (TkR T w e ao m cap b nb n a0 l0 c0 a1 l1 c1 a2 l2 c2 W3):=zA (by rw[hW3];exact HTK.out.keep (below_drewE (zB _ _)));obtain⟨r0,r1,r2,rn,rt⟩:=own_read (HTK.out.keep (below_drewE (zB _ _))).own;clear TK hown hbw hss hW2 hW3 HTX HLOW;have hcs:=(HTK.out.keep (below_drewE (zB _ _))).cells;obtain rfl:l2=0:=by omega
 rw[hk]at hcs;have hw1:IntKind.i64.wrap 4=4:=by decide
 have hw2:IntKind.i64.wrap 1=1:=by decide
 obtain rfl:l0=4:=by omega
 obtain rfl:l1=1:=by omega
 obtain⟨g,o,rfl,-,hc0⟩:=rn (by intro h;rw[h]at hx;simp at hx);have q5:=hc0 0 x0 hx;rw[yA]at q5;obtain⟨gt,ot,ha1,-⟩:=rt (by intro h;rw[h]at htx;simp at htx);have t7:¬x0=0:=hx0;have t7d:(x0==0)=false:=by simpa using t7
 have t8:¬x0<(e.ot:Int):=by omega
 have t8d:decide (x0<(e.ot:Int))=false:=decide_eq_false t8;have htl:tx.length<=140737488351232:=by
  have h1:=hmay.2.1.2.2.1 tx (zJ htx);omega
 have HX:=zA hx;have HTXT:=zA htx;have HTL:=zA htl;have HA1:=zA ha1;have HPK:=zA hpk;clear hc0 ha1 htl;have HX1:=zA hx1;have HX2:=zA hx2;have HX3:=zA hx3;have HXE:=zA hxe;have HXB:=zA hxb;have HWT:=zA hxw;obtain⟨⟨q0,q1,q2,q3⟩,q4⟩:=hcs;have HSD:=zA (And.intro q0 (And.intro q1 (And.intro q2 (And.intro q3 (And.intro q4 q5)))));have HK:=zA hk;have HXO:Hid (¬x0<(e.ot:Int)):=zA t8;clear q0 q1 q2 q3 q4 q5 h2 hk h3 h4 hmay hx hx0 hxo htx hpk hx1 hx2 hx3 hxe hxb hxw r0 r1 r2 rn rt;go_upto_region 2 with fail;rw[HW2.out];clear HW2;refine wp_region_held_drew (S:=fun u=>u.cell? ⟨nb,0,none⟩=some (.int .i64 1)/\u.cell? ⟨nb,1,none⟩=some (.slice (some ⟨g,o,none⟩) 4 c0)/\u.cell? ⟨nb,2,none⟩=some (.slice a1 1 c1)/\u.cell? ⟨nb,3,none⟩=some (.slice a2 0 c2)/\u.cell? ⟨b,1,none⟩=some (.int .i64 e.ot)/\u.cell? ⟨g,o,none⟩=some (.int .i64 x0)) (by kernel_rfl) ?_ (fun hHeld=>?_)
 . exact HSD.out
 refine tkH (i:=0) (oi:=⟨some 21,.move (.tmp 9),4, "ref.go:71",#[],none⟩) (v:=?_) rfl ?_ hHeld ?_;rotate_left 1
 . rintro W ⟨s0,s1,s2,s3,s4,s5⟩;go_simp;try with_reducible rfl
 simp only[Act.put,zIB,zSZ,zSS];refine tkH (i:=1) (oi:=⟨some 22,.unOp .not 4 (.tmp 21),4, "ref.go:71",#[⟨0,.data⟩],none⟩) (v:=?_) rfl ?_ hHeld ?_;rotate_left 1
 . rintro W ⟨s0,s1,s2,s3,s4,s5⟩;go_simp;try with_reducible rfl
 simp only[Act.put,zIB,zSZ,zSS];refine tkH (i:=2) (oi:=⟨some 23,.move (.tmp 22),4, "ref.go:71",#[⟨1,.data⟩],none⟩) (v:=?_) rfl ?_ hHeld ?_;rotate_left 1
 . rintro W ⟨s0,s1,s2,s3,s4,s5⟩;go_simp;try with_reducible rfl
 simp only[Act.put,zIB,zSZ,zSS];refine tkH (i:=3) (oi:=⟨some 24,.fieldAddr 36 (.tmp 8) 3,0, "ref.go:71",#[⟨2,.guard⟩],some (2,false)⟩) (v:=?_) rfl ?_ hHeld ?_;rotate_left 1
 . rintro W ⟨s0,s1,s2,s3,s4,s5⟩;go_simp;try with_reducible rfl
 simp only[Act.put,zIB,zSZ,zSS];refine tkH (i:=4) (oi:=⟨some 25,.load 34 (.tmp 24),34, "ref.go:71",#[⟨3,.data⟩,⟨2,.guard⟩],some (2,false)⟩) (v:=?_) rfl ?_ hHeld ?_;rotate_left 1
 . rintro W ⟨s0,s1,s2,s3,s4,s5⟩;go_simp;try with_reducible rfl
 simp only[Act.put,zIB,zSZ,zSS];refine tkH (i:=5) (oi:=⟨some 26,.call { callee:=.builtin .len,args:=#[.tmp 25],argTypes:=#[34] },3, "ref.go:71",#[⟨4,.data⟩,⟨2,.guard⟩],some (2,false)⟩) (v:=?_) rfl ?_ hHeld ?_;rotate_left 1
 . rintro W ⟨s0,s1,s2,s3,s4,s5⟩;go_simp;try with_reducible rfl
 simp only[Act.put,zIB,zSZ,zSS];refine tkH (i:=6) (oi:=⟨some 27,.binOp .gtr 3 (.tmp 26) (.const (.int .i64 0)) 3,4, "ref.go:71",#[⟨5,.data⟩,⟨2,.guard⟩],some (2,false)⟩) (v:=?_) rfl ?_ hHeld ?_;rotate_left 1
 . rintro W ⟨s0,s1,s2,s3,s4,s5⟩;go_simp;try with_reducible rfl
 simp only[Act.put,zIB,zSZ,zSS];refine tkH (i:=7) (oi:=⟨some 28,.pick (.tmp 23) (.const (.bool true)) (.tmp 27),4, "ref.go:71",#[⟨2,.data⟩,⟨6,.data⟩],none⟩) (v:=?_) rfl ?_ hHeld ?_;rotate_left 1
 . rintro W ⟨s0,s1,s2,s3,s4,s5⟩;go_simp;try with_reducible rfl
 simp only[Act.put,zIB,zSZ,zSS];refine tkH (i:=8) (oi:=⟨some 29,.move (.tmp 28),4, "ref.go:71",#[⟨7,.data⟩,⟨2,.chain⟩],none⟩) (v:=?_) rfl ?_ hHeld ?_;rotate_left 1
 . rintro W ⟨s0,s1,s2,s3,s4,s5⟩;go_simp;try with_reducible rfl
 simp only[Act.put,zIB,zSZ,zSS];refine tkH (i:=9) (oi:=⟨some 30,.fieldAddr 36 (.tmp 8) 0,0, "ref.go:71",#[⟨8,.guard⟩],some (8,false)⟩) (v:=?_) rfl ?_ hHeld ?_;rotate_left 1
 . rintro W ⟨s0,s1,s2,s3,s4,s5⟩;go_simp;try with_reducible rfl
 simp only[Act.put,zIB,zSZ,zSS];refine tkH (i:=10) (oi:=⟨some 31,.load 3 (.tmp 30),3, "ref.go:71",#[⟨9,.data⟩,⟨8,.guard⟩],some (8,false)⟩) (v:=?_) rfl ?_ hHeld ?_;rotate_left 1
 . rintro W ⟨s0,s1,s2,s3,s4,s5⟩;go_simp;try with_reducible rfl
 simp only[Act.put,zIB,zSZ,zSS];refine tkH (i:=11) (oi:=⟨some 32,.binOp .lss 3 (.tmp 31) (.const (.int .i64 1)) 3,4, "ref.go:71",#[⟨10,.data⟩,⟨8,.guard⟩],some (8,false)⟩) (v:=?_) rfl ?_ hHeld ?_;rotate_left 1
 . rintro W ⟨s0,s1,s2,s3,s4,s5⟩;go_simp;try with_reducible rfl
 simp only[Act.put,zIB,zSZ,zSS];refine tkH (i:=12) (oi:=⟨some 33,.pick (.tmp 29) (.const (.bool true)) (.tmp 32),4, "ref.go:71",#[⟨8,.data⟩,⟨11,.data⟩],none⟩) (v:=?_) rfl ?_ hHeld ?_;rotate_left 1
 . rintro W ⟨s0,s1,s2,s3,s4,s5⟩;go_simp;try with_reducible rfl
 simp only[Act.put,zIB,zSZ,zSS];refine tkH (i:=13) (oi:=⟨some 34,.move (.tmp 33),4, "ref.go:71",#[⟨12,.data⟩,⟨8,.chain⟩],none⟩) (v:=?_) rfl ?_ hHeld ?_;rotate_left 1
 . rintro W ⟨s0,s1,s2,s3,s4,s5⟩;go_simp;try with_reducible rfl
 simp only[Act.put,zIB,zSZ,zSS];refine tkH (i:=14) (oi:=⟨some 35,.fieldAddr 36 (.tmp 8) 0,0, "ref.go:71",#[⟨13,.guard⟩],some (13,false)⟩) (v:=?_) rfl ?_ hHeld ?_;rotate_left 1
 . rintro W ⟨s0,s1,s2,s3,s4,s5⟩;go_simp;try with_reducible rfl
 simp only[Act.put,zIB,zSZ,zSS];refine tkH (i:=15) (oi:=⟨some 36,.load 3 (.tmp 35),3, "ref.go:71",#[⟨14,.data⟩,⟨13,.guard⟩],some (13,false)⟩) (v:=?_) rfl ?_ hHeld ?_;rotate_left 1
 . rintro W ⟨s0,s1,s2,s3,s4,s5⟩;go_simp;try with_reducible rfl
 simp only[Act.put,zIB,zSZ,zSS];refine tkH (i:=16) (oi:=⟨some 37,.binOp .gtr 3 (.tmp 36) (.const (.int .i64 2)) 3,4, "ref.go:71",#[⟨15,.data⟩,⟨13,.guard⟩],some (13,false)⟩) (v:=?_) rfl ?_ hHeld ?_;rotate_left 1
 . rintro W ⟨s0,s1,s2,s3,s4,s5⟩;go_simp;try with_reducible rfl
 simp only[Act.put,zIB,zSZ,zSS];refine tkH (i:=17) (oi:=⟨some 38,.pick (.tmp 34) (.const (.bool true)) (.tmp 37),4, "ref.go:71",#[⟨13,.data⟩,⟨16,.data⟩],none⟩) (v:=?_) rfl ?_ hHeld ?_;rotate_left 1
 . rintro W ⟨s0,s1,s2,s3,s4,s5⟩;go_simp;try with_reducible rfl
 simp only[Act.put,zIB,zSZ,zSS];refine tkH (i:=18) (oi:=⟨some 39,.move (.tmp 38),4, "ref.go:71",#[⟨17,.data⟩,⟨13,.chain⟩],none⟩) (v:=?_) rfl ?_ hHeld ?_;rotate_left 1
 . rintro W ⟨s0,s1,s2,s3,s4,s5⟩;go_simp;try with_reducible rfl
 simp only[Act.put,zIB,zSZ,zSS];refine tkH (i:=19) (oi:=⟨some 40,.fieldAddr 36 (.tmp 8) 1,0, "ref.go:71",#[⟨18,.guard⟩],some (18,false)⟩) (v:=?_) rfl ?_ hHeld ?_;rotate_left 1
 . rintro W ⟨s0,s1,s2,s3,s4,s5⟩;go_simp;try with_reducible rfl
 simp only[Act.put,zIB,zSZ,zSS];refine tkH (i:=20) (oi:=⟨some 41,.load 33 (.tmp 40),33, "ref.go:71",#[⟨19,.data⟩,⟨18,.guard⟩],some (18,false)⟩) (v:=?_) rfl ?_ hHeld ?_;rotate_left 1
 . rintro W ⟨s0,s1,s2,s3,s4,s5⟩;go_simp;try with_reducible rfl
 simp only[Act.put,zIB,zSZ,zSS];refine tkH (i:=21) (oi:=⟨some 42,.call { callee:=.builtin .len,args:=#[.tmp 41],argTypes:=#[33] },3, "ref.go:71",#[⟨20,.data⟩,⟨18,.guard⟩],some (18,false)⟩) (v:=?_) rfl ?_ hHeld ?_;rotate_left 1
 . rintro W ⟨s0,s1,s2,s3,s4,s5⟩;go_simp;try with_reducible rfl
 simp only[Act.put,zIB,zSZ,zSS];refine tkH (i:=22) (oi:=⟨some 43,.fieldAddr 36 (.tmp 8) 0,0, "ref.go:71",#[⟨18,.guard⟩],some (18,false)⟩) (v:=?_) rfl ?_ hHeld ?_;rotate_left 1
 . rintro W ⟨s0,s1,s2,s3,s4,s5⟩;go_simp;try with_reducible rfl
 simp only[Act.put,zIB,zSZ,zSS];refine tkH (i:=23) (oi:=⟨some 44,.load 3 (.tmp 43),3, "ref.go:71",#[⟨22,.data⟩,⟨18,.guard⟩],some (18,false)⟩) (v:=?_) rfl ?_ hHeld ?_;rotate_left 1
 . rintro W ⟨s0,s1,s2,s3,s4,s5⟩;go_simp;try with_reducible rfl
 simp only[Act.put,zIB,zSZ,zSS];refine tkH (i:=24) (oi:=⟨some 45,.binOp .sub 3 (.const (.int .i64 5)) (.tmp 44) 3,3, "ref.go:71",#[⟨23,.data⟩,⟨18,.guard⟩],some (18,false)⟩) (v:=?_) rfl ?_ hHeld ?_;rotate_left 1
 . rintro W ⟨s0,s1,s2,s3,s4,s5⟩;go_simp;try with_reducible rfl
 simp only[Act.put,zIB,zSZ,zSS];refine tkH (i:=25) (oi:=⟨some 46,.binOp .neq 3 (.tmp 42) (.tmp 45) 3,4, "ref.go:71",#[⟨21,.data⟩,⟨24,.data⟩,⟨18,.guard⟩],some (18,false)⟩) (v:=?_) rfl ?_ hHeld ?_;rotate_left 1
 . rintro W ⟨s0,s1,s2,s3,s4,s5⟩;go_simp;try with_reducible rfl
 simp only[Act.put,zIB,zSZ,zSS];refine tkH (i:=26) (oi:=⟨some 47,.pick (.tmp 39) (.const (.bool true)) (.tmp 46),4, "ref.go:71",#[⟨18,.data⟩,⟨25,.data⟩],none⟩) (v:=?_) rfl ?_ hHeld ?_;rotate_left 1
 . rintro W ⟨s0,s1,s2,s3,s4,s5⟩;go_simp;try with_reducible rfl
 simp only[Act.put,zIB,zSZ,zSS];refine tkH (i:=27) (oi:=⟨some 48,.move (.tmp 47),4, "ref.go:71",#[⟨26,.data⟩,⟨18,.chain⟩],none⟩) (v:=?_) rfl ?_ hHeld ?_;rotate_left 1
 . rintro W ⟨s0,s1,s2,s3,s4,s5⟩;go_simp;try with_reducible rfl
 simp only[Act.put,zIB,zSZ,zSS];refine tkH (i:=28) (oi:=⟨some 49,.fieldAddr 36 (.tmp 8) 2,0, "ref.go:71",#[⟨27,.guard⟩],some (27,false)⟩) (v:=?_) rfl ?_ hHeld ?_;rotate_left 1
 . rintro W ⟨s0,s1,s2,s3,s4,s5⟩;go_simp;try with_reducible rfl
 simp only[Act.put,zIB,zSZ,zSS];refine tkH (i:=29) (oi:=⟨some 50,.load 27 (.tmp 49),27, "ref.go:71",#[⟨28,.data⟩,⟨27,.guard⟩],some (27,false)⟩) (v:=?_) rfl ?_ hHeld ?_;rotate_left 1
 . rintro W ⟨s0,s1,s2,s3,s4,s5⟩;go_simp;try with_reducible rfl
 simp only[Act.put,zIB,zSZ,zSS];refine tkH (i:=30) (oi:=⟨some 51,.call { callee:=.builtin .len,args:=#[.tmp 50],argTypes:=#[27] },3, "ref.go:71",#[⟨29,.data⟩,⟨27,.guard⟩],some (27,false)⟩) (v:=?_) rfl ?_ hHeld ?_;rotate_left 1
 . rintro W ⟨s0,s1,s2,s3,s4,s5⟩;go_simp;try with_reducible rfl
 simp only[Act.put,zIB,zSZ,zSS];refine tkH (i:=31) (oi:=⟨some 52,.fieldAddr 36 (.tmp 8) 0,0, "ref.go:71",#[⟨27,.guard⟩],some (27,false)⟩) (v:=?_) rfl ?_ hHeld ?_;rotate_left 1
 . rintro W ⟨s0,s1,s2,s3,s4,s5⟩;go_simp;try with_reducible rfl
 simp only[Act.put,zIB,zSZ,zSS];refine tkH (i:=32) (oi:=⟨some 53,.load 3 (.tmp 52),3, "ref.go:71",#[⟨31,.data⟩,⟨27,.guard⟩],some (27,false)⟩) (v:=?_) rfl ?_ hHeld ?_;rotate_left 1
 . rintro W ⟨s0,s1,s2,s3,s4,s5⟩;go_simp;try with_reducible rfl
 simp only[Act.put,zIB,zSZ,zSS];refine tkH (i:=33) (oi:=⟨some 54,.binOp .sub 3 (.const (.int .i64 2)) (.tmp 53) 3,3, "ref.go:71",#[⟨32,.data⟩,⟨27,.guard⟩],some (27,false)⟩) (v:=?_) rfl ?_ hHeld ?_;rotate_left 1
 . rintro W ⟨s0,s1,s2,s3,s4,s5⟩;go_simp;try with_reducible rfl
 simp only[Act.put,zIB,zSZ,zSS];refine tkH (i:=34) (oi:=⟨some 55,.binOp .neq 3 (.tmp 51) (.tmp 54) 3,4, "ref.go:71",#[⟨30,.data⟩,⟨33,.data⟩,⟨27,.guard⟩],some (27,false)⟩) (v:=?_) rfl ?_ hHeld ?_;rotate_left 1
 . rintro W ⟨s0,s1,s2,s3,s4,s5⟩;go_simp;try with_reducible rfl
 simp only[Act.put,zIB,zSZ,zSS];refine tkH (i:=35) (oi:=⟨some 56,.pick (.tmp 48) (.const (.bool true)) (.tmp 55),4, "ref.go:71",#[⟨27,.data⟩,⟨34,.data⟩],none⟩) (v:=?_) rfl ?_ hHeld ?_;rotate_left 1
 . rintro W ⟨s0,s1,s2,s3,s4,s5⟩;go_simp;try with_reducible rfl
 simp only[Act.put,zIB,zSZ,zSS];refine tkH (i:=36) (oi:=⟨some 57,.move (.tmp 56),4, "ref.go:71",#[⟨35,.data⟩,⟨27,.chain⟩],none⟩) (v:=?_) rfl ?_ hHeld ?_;rotate_left 1
 . rintro W ⟨s0,s1,s2,s3,s4,s5⟩;go_simp;try with_reducible rfl
 simp only[Act.put,zIB,zSZ,zSS];refine tkH (i:=37) (oi:=⟨some 58,.fieldAddr 36 (.tmp 8) 1,0, "ref.go:71",#[⟨36,.guard⟩],some (36,false)⟩) (v:=?_) rfl ?_ hHeld ?_;rotate_left 1
 . rintro W ⟨s0,s1,s2,s3,s4,s5⟩;go_simp;try with_reducible rfl
 simp only[Act.put,zIB,zSZ,zSS];refine tkH (i:=38) (oi:=⟨some 59,.load 33 (.tmp 58),33, "ref.go:71",#[⟨37,.data⟩,⟨36,.guard⟩],some (36,false)⟩) (v:=?_) rfl ?_ hHeld ?_;rotate_left 1
 . rintro W ⟨s0,s1,s2,s3,s4,s5⟩;go_simp;try with_reducible rfl
 simp only[Act.put,zIB,zSZ,zSS];refine tkH (i:=39) (oi:=⟨some 60,.indexAddr 33 (.tmp 59) (.const (.int .i64 0)),0, "ref.go:71",#[⟨38,.data⟩,⟨36,.guard⟩],some (36,false)⟩) (v:=?_) rfl ?_ hHeld ?_;rotate_left 1
 . rintro W ⟨s0,s1,s2,s3,s4,s5⟩;go_simp;try with_reducible rfl
 simp only[Act.put,zIB,zSZ,zSS];refine tkH (i:=40) (oi:=⟨some 61,.load 3 (.tmp 60),3, "ref.go:71",#[⟨39,.data⟩,⟨36,.guard⟩],some (36,false)⟩) (v:=?_) rfl ?_ hHeld ?_;rotate_left 1
 . rintro W ⟨s0,s1,s2,s3,s4,s5⟩;go_simp;try with_reducible rfl
 simp only[Act.put,zIB,zSZ,zSS];refine tkH (i:=41) (oi:=⟨some 62,.binOp .eql 3 (.tmp 61) (.const (.int .i64 0)) 3,4, "ref.go:71",#[⟨40,.data⟩,⟨36,.guard⟩],some (36,false)⟩) (v:=?_) rfl ?_ hHeld ?_;rotate_left 1
 . rintro W ⟨s0,s1,s2,s3,s4,s5⟩;go_simp;try with_reducible rfl
 simp only[Act.put,zIB,zSZ,zSS];refine tkH (i:=42) (oi:=⟨some 63,.pick (.tmp 57) (.const (.bool true)) (.tmp 62),4, "ref.go:71",#[⟨36,.data⟩,⟨41,.data⟩],none⟩) (v:=?_) rfl ?_ hHeld ?_;rotate_left 1
 . rintro W ⟨s0,s1,s2,s3,s4,s5⟩;go_simp;try with_reducible rfl
 simp only[Act.put,zIB,zSZ,zSS];refine tkH (i:=43) (oi:=⟨some 64,.move (.tmp 63),4, "ref.go:71",#[⟨42,.data⟩,⟨36,.chain⟩],none⟩) (v:=?_) rfl ?_ hHeld ?_;rotate_left 1
 . rintro W ⟨s0,s1,s2,s3,s4,s5⟩;go_simp;try with_reducible rfl
 simp only[Act.put,zIB,zSZ,zSS];refine tkH (i:=44) (oi:=⟨some 65,.fieldAddr 36 (.tmp 8) 1,0, "ref.go:71",#[⟨43,.guard⟩],some (43,false)⟩) (v:=?_) rfl ?_ hHeld ?_;rotate_left 1
 . rintro W ⟨s0,s1,s2,s3,s4,s5⟩;go_simp;try with_reducible rfl
 simp only[Act.put,zIB,zSZ,zSS];refine tkH (i:=45) (oi:=⟨some 66,.load 33 (.tmp 65),33, "ref.go:71",#[⟨44,.data⟩,⟨43,.guard⟩],some (43,false)⟩) (v:=?_) rfl ?_ hHeld ?_;rotate_left 1
 . rintro W ⟨s0,s1,s2,s3,s4,s5⟩;go_simp;try with_reducible rfl
 simp only[Act.put,zIB,zSZ,zSS];refine tkH (i:=46) (oi:=⟨some 67,.indexAddr 33 (.tmp 66) (.const (.int .i64 0)),0, "ref.go:71",#[⟨45,.data⟩,⟨43,.guard⟩],some (43,false)⟩) (v:=?_) rfl ?_ hHeld ?_;rotate_left 1
 . rintro W ⟨s0,s1,s2,s3,s4,s5⟩;go_simp;try with_reducible rfl
 simp only[Act.put,zIB,zSZ,zSS];refine tkH (i:=47) (oi:=⟨some 68,.load 3 (.tmp 67),3, "ref.go:71",#[⟨46,.data⟩,⟨43,.guard⟩],some (43,false)⟩) (v:=?_) rfl ?_ hHeld ?_;rotate_left 1
 . rintro W ⟨s0,s1,s2,s3,s4,s5⟩;go_simp;try with_reducible rfl
 simp only[Act.put,zIB,zSZ,zSS];refine tkH (i:=48) (oi:=⟨some 69,.fieldAddr 29 (.tmp 2) 1,0, "ref.go:71",#[⟨43,.guard⟩],some (43,false)⟩) (v:=?_) rfl ?_ hHeld ?_;rotate_left 1
 . rintro W ⟨s0,s1,s2,s3,s4,s5⟩;go_simp;try with_reducible rfl
 simp only[Act.put,zIB,zSZ,zSS];refine tkH (i:=49) (oi:=⟨some 70,.load 3 (.tmp 69),3, "ref.go:71",#[⟨48,.data⟩,⟨43,.guard⟩],some (43,false)⟩) (v:=?_) rfl ?_ hHeld ?_;rotate_left 1
 . rintro W ⟨s0,s1,s2,s3,s4,s5⟩;go_simp;try with_reducible rfl
 simp only[Act.put,zIB,zSZ,zSS];refine tkH (i:=50) (oi:=⟨some 71,.binOp .lss 3 (.tmp 68) (.tmp 70) 3,4, "ref.go:71",#[⟨47,.data⟩,⟨49,.data⟩,⟨43,.guard⟩],some (43,false)⟩) (v:=?_) rfl ?_ hHeld ?_;rotate_left 1
 . rintro W ⟨s0,s1,s2,s3,s4,s5⟩;go_simp;try with_reducible rfl
 simp only[Act.put,zIB,zSZ,zSS];refine tkH (i:=51) (oi:=⟨some 72,.pick (.tmp 64) (.const (.bool true)) (.tmp 71),4, "ref.go:71",#[⟨43,.data⟩,⟨50,.data⟩],none⟩) (v:=?_) rfl ?_ hHeld ?_;rotate_left 1
 . rintro W ⟨s0,s1,s2,s3,s4,s5⟩;go_simp;try with_reducible rfl
 simp only[Act.put,zIB,zSZ,zSS];refine wpAnyH_done (by kernel_rfl) ?_ _;rw[<- HW3.out];clear HW3 t7 t7d t8d;have ha1:=HA1.out;subst ha1;have C2:=zA (rOne_any tx (W3.alloc (.cells #[.int .i64 0,.slice none 0 0,.slice none 0 0,.slice none 0 0] 36)) HTL.out);unfold OnE at C2;rw[HPK.out]at C2;obtain⟨pl,hpl⟩:∃pl,(onlyP tx).1=pl:=⟨_,rfl⟩
 rw[hpl]at C2;have HPL:=zA hpl;obtain⟨pb,hpb⟩:∃pb,W3.heap.size=pb:=⟨_,rfl⟩
 have HPB:=zA hpb;have hb34:Below W3.heap.size W3 (W3.alloc (.cells #[.int .i64 0,.slice none 0 0,.slice none 0 0,.slice none 0 0] 36)):=(zB W3.heap.size W3).alloc (zC _) _;have HT4:Hid (TkR T w e ao m cap b nb n (some ⟨g,o,none⟩) 4 c0 (some ⟨gt,ot,none⟩) 1 c1 a2 0 c2 (W3.alloc (.cells #[.int .i64 0,.slice none 0 0,.slice none 0 0,.slice none 0 0] 36))):=zA (HTD.out.keep hb34);have HBX:Hid ((W3.alloc (.cells #[.int .i64 0,.slice none 0 0,.slice none 0 0,.slice none 0 0] 36)).heap[pb]?=some (.cells #[.int .i64 0,.slice none 0 0,.slice none 0 0,.slice none 0 0] 36)):=zA (by rw[<- hpb];exact box_at W3 _);have HBP:Hid (b+1+1<=nb/\nb<pb):=zA ⟨HTD.out.nbb,by rw[<- hpb];exact lt_of_block HTD.out.nt⟩;have HSP:Hid ((W3.alloc (.cells #[.int .i64 0,.slice none 0 0,.slice none 0 0,.slice none 0 0] 36)).heap.size=pb+1):=zA (by rw[<- hpb];simp);obtain⟨⟨q0,-,q2,-⟩,-⟩:=HT4.out.cells;rw[HK.out]at q0;have q6:(W3.alloc (.cells #[.int .i64 0,.slice none 0 0,.slice none 0 0,.slice none 0 0] 36)).cell? ⟨gt,ot,none⟩=some (.string ⟨tx.toArray⟩):=by
  obtain⟨-,-,-,-,rt⟩:=own_read HT4.out.own;obtain⟨g2,o2,e2',hc⟩:=rt (by intro h0;have:=HTXT.out;rw[h0]at this;simp at this);injection e2' with e2';injection e2' with e3 e4;subst e3 e4;exact hc 0 tx HTXT.out
 clear hb34 HTK HTD hpl hpb;go_wp2_with fail;refine C2.out.mono ?_;clear C2;rintro y w5 ⟨v,rfl,hown5,hb5⟩;obtain⟨u0,v0,d0,u1,v1,d1,u2,v2,d2,rfl⟩:=own_parts hown5;obtain⟨W6,hW6⟩:∃W6,w5.alloc (.cells #[.int .i64 pl.kind,.slice u0 v0 d0,.slice u1 v1 d1,.slice u2 v2 d2] 36)=W6:=⟨_,rfl⟩
 have hb6:Below (W3.alloc (.cells #[.int .i64 0,.slice none 0 0,.slice none 0 0,.slice none 0 0] 36)).heap.size (W3.alloc (.cells #[.int .i64 0,.slice none 0 0,.slice none 0 0,.slice none 0 0] 36)) W6:=by rw[<- hW6];exact hb5.alloc hb5.size _
 have HT6p:Hid (TkR T w e ao m cap b nb n (some ⟨g,o,none⟩) 4 c0 (some ⟨gt,ot,none⟩) 1 c1 a2 0 c2 W6):=zA (HT4.out.keep hb6);have HBX6:Hid (W6.heap[pb]?=some (.cells #[.int .i64 0,.slice none 0 0,.slice none 0 0,.slice none 0 0] 36)):=zA ((hb6.block _ (lt_of_block HBX.out)).trans HBX.out);have HOW6:Hid (NoteOwn W6 (pb+1) (.agg #[.int .i64 pl.kind,.slice u0 v0 d0,.slice u1 v1 d1,.slice u2 v2 d2]) pl):=zA (by rw[<- HSP.out,<- hW6];exact hown5.below ((zB _ _).alloc (zC _) _));have HPX:Hid (W6.heap[w5.heap.size]?=some (.cells #[.int .i64 pl.kind,.slice u0 v0 d0,.slice u1 v1 d1,.slice u2 v2 d2] 36 (0,0))):=zA (by rw[<- hW6];exact box_at w5 _);have HW6:=zA hW6;obtain⟨pp,hpp⟩:∃pp,w5.heap.size=pp:=⟨_,rfl⟩
 have HPP:=zA hpp;clear hW6 hb6 hown5 hb5 hpp q0 q2 q6 HT4 HBX HSP;go_upto_region 9 with fail;rw[HW6.out,HPP.out];obtain⟨⟨p0,p1,p2,p3⟩,-⟩:=four_cells (by have h:=HPX.out;rw[HPP.out]at h;exact h);obtain⟨⟨y0,y1,y2,y3⟩,⟨f0,f1,f2,f3⟩⟩:=four_cells HBX6.out;have HBB:=HBP.out;obtain⟨W4,hW4⟩:∃W4,set4 W6 pb (.int .i64 pl.kind) (.slice u0 v0 d0) (.slice u1 v1 d1) (.slice u2 v2 d2)=W4:=⟨_,rfl⟩
 have HW4:Hid ((((W6.setCell ⟨pb,0,none⟩ (.int .i64 pl.kind)).setCell ⟨pb,1,none⟩ (.slice u0 v0 d0)).setCell ⟨pb,2,none⟩ (.slice u1 v1 d1)).setCell ⟨pb,3,none⟩ (.slice u2 v2 d2)=W4):=zA hW4;have HT4:Hid (TkR T w e ao m cap b nb n (some ⟨g,o,none⟩) 4 c0 (some ⟨gt,ot,none⟩) 1 c1 a2 0 c2 W4):=zA (by rw[<- hW4];exact HT6p.out.setp HBX6.out (by omega) (by omega) _ _ _ _);have HP4:Hid (PyR b nb pb pl u0 v0 d0 u1 v1 d1 u2 v2 d2 W4):=zA ⟨by omega,by omega,by rw[<- hW4];exact set4_block HBX6.out _ _ _ _,by rw[<- hW4];exact set4_own HOW6.out (by omega) _ _ _ _⟩;rw[HPB.out];clear hW4 HBB HT6p HBX6 HOW6 HPX HPP HW6 HPB HBP;go_upto_region 11 with fail;rw[HW4.out];clear HW4 p0 p1 p2 p3 y0 y1 y2 y3 f0 f1 f2 f3;obtain⟨⟨q0,q1,q2,q3⟩,q4⟩:=HT4.out.cells;obtain⟨e1,he1⟩:∃e1,(seeE e x0.toNat).1=e1:=⟨_,rfl⟩
 obtain⟨an,han⟩:∃an,(seeE e x0.toNat).2=an:=⟨_,rfl⟩
 rw[he1,han]at HT;rw[he1]at HWT;have HSE:Hid (seeE e x0.toNat=(e1,an)):=zA (by rw[<- he1,<- han]);clear he1 han;obtain⟨xn,hxn⟩:∃xn,x0.toNat=xn:=⟨_,rfl⟩
 have rd:∀(u:World) (e2:En) (ao2:Option Addr) (m2 cap2:Nat),TkR T w e2 ao2 m2 cap2 b nb n (some ⟨g,o,none⟩) 4 c0 (some ⟨gt,ot,none⟩) 1 c1 a2 0 c2 u->u.cell? ⟨g,o,none⟩=some (.int .i64 x0)/\u.cell? ⟨g,o+1,none⟩=some (.int .i64 x1)/\u.cell? ⟨g,o+2,none⟩=some (.int .i64 x2)/\u.cell? ⟨g,o+3,none⟩=some (.int .i64 x3):=fun u e2 ao2 m2 cap2 h=>by
  obtain⟨-,-,-,rn,-⟩:=own_read h.own;obtain⟨g2,o2,e2',-,hc⟩:=rn (by intro h0;have:=HX.out;rw[h0]at this;simp at this);injection e2' with e2';injection e2' with e3 e4;subst e3 e4;exact⟨hc 0 x0 HX.out,hc 1 x1 HX1.out,hc 2 x2 HX2.out,hc 3 x3 HX3.out⟩
 have HRD:=zA rd;clear rd;obtain⟨k0,-⟩:=HRD.out _ _ _ _ _ HT4.out;go_region;go_upto_if 96 with fail;obtain⟨W5,hW5⟩:∃W5,W5=W4.drew:=⟨_,rfl⟩
 have HT5:Hid (TkR T w e ao m cap b nb n (some ⟨g,o,none⟩) 4 c0 (some ⟨gt,ot,none⟩) 1 c1 a2 0 c2 W5):=zA (by rw[hW5];exact HT4.out.keep (below_drewE (zB _ _)));rw[<- hW5];have HP5:Hid (PyR b nb pb pl u0 v0 d0 u1 v1 d1 u2 v2 d2 W5):=zA (by rw[hW5];exact HP4.out.below (below_drewE (zB _ _)));clear q0 q1 q2 q3 q4 k0 hW5 HT4 HP4;go_cut [13] (fun s13 wz=>s13=.bool an/\∃ao1 m1 cap1,Hid (TkR T w e1 ao1 m1 cap1 b nb n (some ⟨g,o,none⟩) 4 c0 (some ⟨gt,ot,none⟩) 1 c1 a2 0 c2 wz)/\Hid (PyR b nb pb pl u0 v0 d0 u1 v1 d1 u2 v2 d2 wz))
 case first=>
  by_cases heq:x0=(e.ot:Int)
  . have hlt1:¬(e.ot:Int)<x0:=by omega
    have hlt2:decide ((e.ot:Int)<x0)=false:=decide_eq_false hlt1;have hse:=HSE.out;rw[see_same heq]at hse;injection hse with h1 h2;subst h1 h2;have HF:Hid (TkR T w e ao m cap b nb n (some ⟨g,o,none⟩) 4 c0 (some ⟨gt,ot,none⟩) 1 c1 a2 0 c2 W5):=zA (HT5.out);have HPF:=HP5;clear heq;go_wp2_with fail;go_meet;exact⟨rfl,_,_,_,HF,HPF⟩
  . have hlt1:(e.ot:Int)<x0:=by have:=HXO.out;omega
    have hlt2:decide ((e.ot:Int)<x0)=true:=zM hlt1;obtain rfl:x0=(xn:Int):=by omega
    have hse:=HSE.out;obtain⟨⟨g0,g1,g2,g3,g4⟩,⟨f0,f1,f2,f3,f4⟩⟩:=five_cells (HT5.out).lk;obtain⟨⟨j0,j1,j2,j3⟩,-⟩:=(HT5.out).cells;obtain⟨i0,-⟩:=HRD.out _ _ _ _ _ (HT5.out);clear heq hxn;by_cases hz:e.ot=0
    . have hz1:¬(0:Int)<(e.ot:Int):=by omega
      rw[see_first hlt1 hz,Int.toNat_natCast]at hse;injection hse with h1 h2;subst h1 h2;have HF:=zA ((HT5.out).first xn);have HPF:=zA ((HP5.out.sb 1 (.int .i64 (xn:Int))).sb 3 (.int .i64 1));have hzd:decide ((0:Int)<(e.ot:Int))=false:=decide_eq_false hz1;have hzn:decide (0<e.ot)=false:=decide_eq_false (by omega);clear hz;go_wp2_with fail;go_meet;exact⟨rfl,_,_,_,HF,HPF⟩
    . have hz1:(0:Int)<(e.ot:Int):=by omega
      rw[see_anew hlt1 hz,Int.toNat_natCast]at hse;injection hse with h1 h2;subst h1 h2;have HF:=zA ((HT5.out).anew xn);have HPF:=zA ((((HP5.out.sb 1 (.int .i64 (xn:Int))).sb 3 (.int .i64 1)).sb 4 (.slice none 0 0)).sb 2 (.int .i64 1));have hzd:decide ((0:Int)<(e.ot:Int))=true:=zM hz1;have hzn:decide (0<e.ot)=true:=zM (by omega);clear hz;go_wp2_with fail;go_meet;exact⟨rfl,_,_,_,HF,HPF⟩
 case rest=>
  obtain⟨rfl,ao1,m1,cap1,HT6,HP6⟩:=hcut;clear HT5 HP5;have HEP:Hid (e1.ep=e.ep):=zA (by have h:=see_ep e x0.toNat;rw[HSE.out]at h;exact h);obtain⟨⟨-,q1,-,-⟩,-⟩:=HT6.out.cells;obtain⟨-,k1,-⟩:=HRD.out _ _ _ _ _ HT6.out;obtain⟨⟨g0,-,-,-,-⟩,-⟩:=five_cells HT6.out.lk;have t9:x1=(e1.ep:Int):=by rw[HEP.out];exact HXE.out
  have t9d:(x1==(e1.ep:Int))=true:=by simpa using t9
  have t9e:(x1 !=(e1.ep:Int))=false:=by rw[bne,t9d];rfl
  go_upto_region 18 with fail;go_region;clear q1 k1 g0;obtain⟨W6,hW6⟩:∃W6,W6=wc.drew:=⟨_,rfl⟩
  rw[<- hW6];have HT7:Hid (TkR T w e1 ao1 m1 cap1 b nb n (some ⟨g,o,none⟩) 4 c0 (some ⟨gt,ot,none⟩) 1 c1 a2 0 c2 W6):=zA (by rw[hW6];exact HT6.out.keep (below_drewE (zB _ _)));have HP7:Hid (PyR b nb pb pl u0 v0 d0 u1 v1 d1 u2 v2 d2 W6):=zA (by rw[hW6];exact HP6.out.below (below_drewE (zB _ _)));clear hW6 HT6 HP6 HSE t9 t9d t9e;obtain⟨⟨-,q1,-,-⟩,-⟩:=HT7.out.cells;obtain⟨-,-,-,k3⟩:=HRD.out _ _ _ _ _ HT7.out;obtain⟨N1,hN1⟩:∃N1,N1=e1.q.length:=⟨_,rfl⟩
  obtain⟨G1,hG1⟩:∃G1,G1=goneE e1 x3.toNat:=⟨_,rfl⟩
  have HN1:=zA hN1;have HG1:=zA hG1;have HGN:Hid (G1<=N1):=zA (by rw[hG1,hN1];exact goneE_le _ _);clear hN1 hG1;have hw43:IntKind.i64.wrap (4-1)=3:=by decide
  have hw3:IntKind.i64.wrap 3=3:=by decide
  go_wp2_with fail;go_loopg [138] N1 (fun gg _ wr=>∃(i:Nat) (ao2:Option Addr) (m2 cap2:Nat),gg+i=N1/\i<=G1/\Hid (TkR T w (fallE e1 i) ao2 m2 cap2 b nb n (some ⟨g,o,none⟩) 4 c0 (some ⟨gt,ot,none⟩) 1 c1 a2 0 c2 wr)/\Hid (PyR b nb pb pl u0 v0 d0 u1 v1 d1 u2 v2 d2 wr))
  case atStart=>exact⟨0,ao1,m1,cap1,rfl,zO _,HT7,HP7⟩
  case round=>
   obtain⟨i,ao2,m2,cap2,hgi,hig,HT8,HP8⟩:=hrel;obtain⟨wx,hwx⟩:∃wx,wx=wr:=⟨_,rfl⟩
   subst hwx;obtain⟨e2,he2⟩:∃e2,e2=fallE e1 i:=⟨_,rfl⟩
   rw[<- he2]at HT8;have HE2:=zA he2;have HIG:=zA hig;have HGI:=zA hgi;have hml:=HT8.out.len;have hcl:=HT8.out.capl;obtain⟨⟨g0,g1,g2,g3,g4⟩,⟨f0,f1,f2,f3,f4⟩⟩:=five_cells HT8.out.lk;clear he2 hig hgi HT7 HP7 q1 k3;by_cases hgo:i<G1
   . obtain⟨hq0,hfx⟩:0<e2.q.length/\(e2.fs:Int)<x3:=by rw[HE2.out];rw[HG1.out]at hgo;exact fall_go hgo
     obtain⟨p,l,hpl⟩:∃p l,e2.q=p::l:=List.exists_cons_of_length_pos hq0;obtain⟨g',o',rfl,hd⟩:=HT8.out.drop1 hpl;rw[HE2.out,fall_next (by rw[<- HE2.out];exact hpl),<- HE2.out]at hd;rw[hpl,zR]at hml;obtain⟨L,hL⟩:∃L,l.length=L:=⟨_,rfl⟩
     rw[hL]at hml hd;subst hml;have hLI:(0:Int)<(L:Int)+1:=by omega
     have hfb:(e2.fs:Int)+1<=4611686018427387903:=by have:=HXB.out;omega
     have hwr:IntKind.i64.wrap ((e2.fs:Int)+1)=(e2.fs:Int)+1:=by rw[IntKind.wrap_i64];omega
     clear hq0 hpl hL;by_cases hc:cap2=1
     . subst hc;rw[if_pos rfl,show L=0 by omega]at hd;have HD:=zA hd;clear hd HT8;go_wp2_with fail;go_roundg (gk-1)
       case rel=>exact⟨i+1,_,_,_,by have:=HGI.out;have:=HGN.out;omega,by omega,HD,zA ((HP8.out.sb 4 _).sb 2 _)⟩
       case measure=>have:=HGI.out;have:=HGN.out;omega
     . rw[if_neg hc]at hd;have HD:=zA hd;clear hd HT8;go_wp2_with fail;go_roundg (gk-1)
       case rel=>exact⟨i+1,_,_,_,by have:=HGI.out;have:=HGN.out;omega,by omega,HD,zA ((HP8.out.sb 4 _).sb 2 _)⟩
       case measure=>have:=HGI.out;have:=HGN.out;omega
   . have hno:m2=0\/¬(e2.fs:Int)<x3:=by rw[hml,HE2.out];exact fall_no (by rw[<- HG1.out];exact HIG.out) (by rw[<- HG1.out];exact hgo)
     have hde:e2=dropE e1 x3.toNat:=by rw[HE2.out];exact fall_all (by rw[<- HG1.out];exact HIG.out) (by rw[<- HG1.out];exact hgo)
     rw[<- hde]at HT HWT;obtain⟨⟨q0,q1,-,-⟩,-⟩:=HT8.out.cells;rw[HK.out]at q0;obtain⟨-,-,k2,-⟩:=HRD.out _ _ _ _ _ HT8.out;clear hml hcl hgo hde HRD HE2 HIG HGI HG1 HN1 HGN;have t27:¬x2=(e2.wt:Int):=HWT.out;have t27d:(x2==(e2.wt:Int))=false:=by simpa using t27
     have hways:(¬(0:Int)<(m2:Int)/\¬ 0<m2)\/((0:Int)<(m2:Int)/\0<m2/\¬(e2.fs:Int)<x3):=by
      rcases Nat.eq_zero_or_pos m2 with h0|h0
      . exact .inl ⟨by omega,by omega⟩
      . exact .inr ⟨by omega,h0,hno.resolve_left (by omega)⟩
     clear hno;rcases hways with⟨hlz,hlz2⟩|⟨hlp,hlp2,hfx⟩
     . go_upto_region 27 with fail;go_region;clear g0 g1 g2 g4 f0 f1 f2 f4 q0 q1 k2;obtain⟨W9,hW9⟩:∃W9,W9=wx.drew:=⟨_,rfl⟩
       obtain⟨e3,he3⟩:∃e3,e3=e2:=⟨_,rfl⟩
       rw[<- he3]at HT;have HT9a:Hid (TkR T w e3 ao2 m2 cap2 b nb n (some ⟨g,o,none⟩) 4 c0 (some ⟨gt,ot,none⟩) 1 c1 a2 0 c2 W9):=zA (by rw[he3,hW9];exact HT8.out.keep (below_drewE (zB _ _)));have HN9a:Hid (NtR W9 (b+1+1) (.slice none 0 0) []):=zA (.inl ⟨rfl,rfl⟩);rw[<- hW9];clear hW9 he3;have HT9:Hid (TkR T w e3 ao2 m2 cap2 b nb n (some ⟨g,o,none⟩) 4 c0 (some ⟨gt,ot,none⟩) 1 c1 a2 0 c2 W9.drew):=zA (HT9a.out.keep (below_drewE (zB _ _)));have HN9:Hid (NtR W9.drew (b+1+1) (.slice none 0 0) ([])):=zA (HN9a.out.keep (fun _ _ _ h=>h));clear HT9a HN9a HT8 HP8 t27 t27d g3 f3;go_upto_region 30 with fail;have CB:=zA (rBare_any W9.drew e3 (.slice ao2 m2 cap2));have HS19:Hid (∀u,Below W9.drew.heap.size W9.drew u->u.cell? ⟨b,0,none⟩=some (.int .i64 e3.ep)/\u.cell? ⟨b,1,none⟩=some (.int .i64 e3.ot)/\u.cell? ⟨b,2,none⟩=some (.int .i64 e3.fs)/\u.cell? ⟨b,3,none⟩=some (.int .i64 e3.wt)/\u.cell? ⟨b,4,none⟩=some (.slice ao2 m2 cap2)):=zA (fun u hu=>(five_cells (HT9.out.keep hu).lk).1);have HR19:Hid (∀u,Below W9.drew.heap.size W9.drew u->(u.cell? ⟨b+1,0,none⟩=some (.int .i64 0)/\u.cell? ⟨b+1,1,none⟩=some (.int .i64 0)/\u.cell? ⟨b+1,2,none⟩=some (.int .i64 0)/\u.cell? ⟨b+1,3,none⟩=some (.int .i64 0)/\u.cell? ⟨b+1,4,none⟩=some (.slice none 0 0))/\(u.frozen? ⟨b+1,0,none⟩=false/\u.frozen? ⟨b+1,1,none⟩=false/\u.frozen? ⟨b+1,2,none⟩=false/\u.frozen? ⟨b+1,3,none⟩=false/\u.frozen? ⟨b+1,4,none⟩=false)):=zA (fun u hu=>five_cells (HT9.out.keep hu).rs);have HS5:Hid (∀u,Below W9.drew.heap.size W9.drew u->(set5 u (b+1) (.int .i64 e3.ep) (.int .i64 e3.ot) (.int .i64 e3.fs) (.int .i64 e3.wt) (.slice ao2 m2 cap2)).cell? ⟨b,0,none⟩=some (.int .i64 e3.ep)/\(set5 u (b+1) (.int .i64 e3.ep) (.int .i64 e3.ot) (.int .i64 e3.fs) (.int .i64 e3.wt) (.slice ao2 m2 cap2)).cell? ⟨b,1,none⟩=some (.int .i64 e3.ot)/\(set5 u (b+1) (.int .i64 e3.ep) (.int .i64 e3.ot) (.int .i64 e3.fs) (.int .i64 e3.wt) (.slice ao2 m2 cap2)).cell? ⟨b,2,none⟩=some (.int .i64 e3.fs)/\(set5 u (b+1) (.int .i64 e3.ep) (.int .i64 e3.ot) (.int .i64 e3.fs) (.int .i64 e3.wt) (.slice ao2 m2 cap2)).cell? ⟨b,3,none⟩=some (.int .i64 e3.wt)/\(set5 u (b+1) (.int .i64 e3.ep) (.int .i64 e3.ot) (.int .i64 e3.fs) (.int .i64 e3.wt) (.slice ao2 m2 cap2)).cell? ⟨b,4,none⟩=some (.slice ao2 m2 cap2)):=zA (fun u hu=>(five_cells ((set5_other (show b≠b+1 by omega) _ _ _ _ _).trans (HT9.out.keep hu).lk)).1);have HLT:Hid (b+1<W9.drew.heap.size):=zA (lt_of_block HT9.out.rs);refine wp_region_held_drew (S:=fun u=>u.cell? ⟨b,0,none⟩=some (.int .i64 e3.ep)/\u.cell? ⟨b,1,none⟩=some (.int .i64 e3.ot)/\u.cell? ⟨b,2,none⟩=some (.int .i64 e3.fs)/\u.cell? ⟨b,3,none⟩=some (.int .i64 e3.wt)/\u.cell? ⟨b,4,none⟩=some (.slice ao2 m2 cap2)) (by kernel_rfl) ?_ (fun hHeld=>?_)
       . exact HS19.out _ (zB _ _)
       refine tkH (i:=0) (oi:=⟨some 167,.load 29 (.tmp 2),29, "ref.go:108",#[],none⟩) (v:=?_) rfl ?_ hHeld ?_;rotate_left 1
       . rintro W ⟨s0,s1,s2,s3,s4⟩;go_simp;try with_reducible rfl
       simp only[Act.put,zIB,zSZ,zSS];refine tkH (i:=1) (oi:=⟨some 168,.move (.tmp 15),48, "ref.go:108",#[{ on:=6,ground:=.gcOnly .lateStores }],none⟩) (v:=?_) rfl ?_ hHeld ?_;rotate_left 1
       . rintro W ⟨s0,s1,s2,s3,s4⟩;go_simp;try with_reducible rfl
       simp only[Act.put,zIB,zSZ,zSS];refine tkH (i:=2) (oi:=⟨some 169,.load 29 (.tmp 2),29, "ref.go:108",#[],none⟩) (v:=?_) rfl ?_ hHeld ?_;rotate_left 1
       . rintro W ⟨s0,s1,s2,s3,s4⟩;go_simp;try with_reducible rfl
       simp only[Act.put,zIB,zSZ,zSS];refine tkH (i:=5) (oi:=⟨some 172,.move (.tmp 13),4, "ref.go:108",#[{ on:=8,ground:=.gcOnly .lateStores }],none⟩) (v:=?_) rfl ?_ hHeld ?_;rotate_left 1
       . rintro W ⟨s0,s1,s2,s3,s4⟩;go_simp;try with_reducible rfl
       simp only[Act.put,zIB,zSZ,zSS];refine wpAnyH_ready (rs:=[3]) (by kernel_rfl) (by simp) ?_;refine AllReadyH.cons (o:=⟨some 170,.call { callee:=.value (.func 44),args:=#[.tmp 169],argTypes:=#[29] },9, "ref.go:108",#[⟨2,.data⟩],none⟩) rfl (fun K hK=>?_) AllReadyH.nil;go_simp;refine CB.out.mono ?_;clear CB;rintro y w8 ⟨rfl,hb8⟩;obtain⟨p,hp⟩:∃p,telB e3=p:=⟨_,rfl⟩
       rw[hp];rw[hp]at HT;have HB8:=zA hb8;have HBA:Hid (Below W9.drew.heap.size W9.drew (w8.alloc (.cells #[.string ⟨p.toArray⟩] 9))):=zA (hb8.alloc hb8.size _);have HE:=zA ((HT9.out.keep HBA.out).fin2 (p0:=some ⟨w8.heap.size,0,none⟩) (pl:=1) (pc:=1) HT.out (HN9.out.keep (fun k o _ h=>(HBA.out.block k (lt_of_block h)).trans h)) (.inr ⟨w8.heap.size,p,rfl,rfl,by have h1:=hb8.size;have h2:=HT9.out.bel.size;omega,box_at w8 _⟩));have HZA:=zA (five_cells (set5_block (HT9.out.keep HBA.out).rs (.int .i64 e3.ep) (.int .i64 e3.ot) (.int .i64 e3.fs) (.int .i64 e3.wt) (.slice ao2 m2 cap2))).1;have HEQ:Hid (set5 (w8.alloc (.cells #[.string ⟨p.toArray⟩] 9)) (b+1) (.int .i64 e3.ep) (.int .i64 e3.ot) (.int .i64 e3.fs) (.int .i64 e3.wt) (.slice ao2 m2 cap2)=(set5 w8 (b+1) (.int .i64 e3.ep) (.int .i64 e3.ot) (.int .i64 e3.fs) (.int .i64 e3.wt) (.slice ao2 m2 cap2)).alloc (.cells #[.string ⟨p.toArray⟩] 9)):=zA (by
        have hlt:b+1<w8.heap.size:=zF HLT.out hb8.size;simp[set5,World.setCell_alloc_past,hlt])
       clear hb8 hp HT HT9 HN9;refine hK.out _ _ (HS19.out _ HB8.out) (fun hHeld=>?_);clear hK K;refine wpAnyH_ready (rs:=[4,6]) (by kernel_rfl) (by simp) ?_;refine AllReadyH.cons (o:=⟨some 171,.buildSlice 27 1 #[(0,.tmp 170)],27, "ref.go:108",#[⟨3,.data⟩,{ on:=7,ground:=.gcOnly .lateStores }],none⟩) rfl (fun K hK=>?_) (AllReadyH.cons (o:=⟨none,.store 29 (.tmp 4) (.tmp 167),0, "ref.go:108",#[⟨0,.data⟩,⟨3,.chain⟩,⟨0,.phase⟩,{ on:=1,ground:=.textOnly .lateStores },{ on:=2,ground:=.textOnly .lateStores },{ on:=3,ground:=.textOnly .lateStoresUnsure },{ on:=4,ground:=.textOnly .lateStores },{ on:=5,ground:=.textOnly .lateStores }],none⟩) rfl (fun K hK=>?_) AllReadyH.nil)
       . go_simp;refine hK.out _ _ (HS19.out _ HBA.out) (fun hHeld=>?_);clear hK K;refine wpAnyH_ready (rs:=[6]) (by kernel_rfl) (by simp) ?_;refine AllReadyH.cons (o:=⟨none,.store 29 (.tmp 4) (.tmp 167),0, "ref.go:108",#[⟨0,.data⟩,⟨3,.chain⟩,⟨0,.phase⟩,{ on:=1,ground:=.textOnly .lateStores },{ on:=2,ground:=.textOnly .lateStores },{ on:=3,ground:=.textOnly .lateStoresUnsure },{ on:=4,ground:=.textOnly .lateStores },{ on:=5,ground:=.textOnly .lateStores }],none⟩) rfl (fun K hK=>?_) AllReadyH.nil;obtain⟨⟨r0,r1,r2,r3,r4⟩,⟨f0,f1,f2,f3,f4⟩⟩:=HR19.out _ HBA.out;go_simp;refine hK.out _ _ (HS5.out _ HBA.out) (fun hHeld=>?_);clear hK K r0 r1 r2 r3 r4 f0 f1 f2 f3 f4;refine tkH (i:=7) (oi:=⟨some 5,.assign (.tmp 168),48, "ref.go:108",#[⟨1,.data⟩,⟨6,.chain⟩,⟨0,.phase⟩,⟨1,.phase⟩,{ on:=2,ground:=.textOnly .lateStores },{ on:=3,ground:=.textOnly .lateStoresUnsure },{ on:=4,ground:=.textOnly .lateStores },{ on:=5,ground:=.textOnly .lateStores },⟨6,.phase⟩],none⟩) (v:=?_) rfl ?_ hHeld ?_;rotate_left 1
         . rintro W ⟨s0,s1,s2,s3,s4⟩;go_simp;try with_reducible rfl
         simp only[Act.put,zIB,zSZ,zSS];refine tkH (i:=8) (oi:=⟨some 6,.assign (.tmp 171),27, "ref.go:108",#[⟨4,.data⟩,⟨7,.chain⟩,⟨0,.phase⟩,⟨1,.phase⟩,⟨2,.phase⟩,⟨3,.phase⟩,⟨4,.phase⟩,{ on:=5,ground:=.textOnly .lateStores },⟨6,.phase⟩,⟨7,.phase⟩],none⟩) (v:=?_) rfl ?_ hHeld ?_;rotate_left 1
         . rintro W ⟨s0,s1,s2,s3,s4⟩;go_simp;try with_reducible rfl
         simp only[Act.put,zIB,zSZ,zSS];refine tkH (i:=9) (oi:=⟨some 7,.assign (.tmp 172),4, "ref.go:108",#[⟨5,.data⟩,⟨8,.chain⟩,⟨0,.phase⟩,⟨1,.phase⟩,⟨2,.phase⟩,⟨3,.phase⟩,⟨4,.phase⟩,⟨5,.phase⟩,⟨6,.phase⟩,⟨7,.phase⟩,⟨8,.phase⟩],none⟩) (v:=?_) rfl ?_ hHeld ?_;rotate_left 1
         . rintro W ⟨s0,s1,s2,s3,s4⟩;go_simp;try with_reducible rfl
         simp only[Act.put,zIB,zSZ,zSS];refine wpAnyH_done (by kernel_rfl) ?_ _;go_wp2;obtain⟨z0,z1,z2,z3,z4⟩:=HZA.out;refine bodyPost_ret (v:=.tuple #[rvE e3 (.slice ao2 m2 cap2),.slice none 0 0,.slice (some ⟨w8.heap.size,0,none⟩) 1 1,.bool an]) ?_ rfl HE.out;simp[results,Try.results20,go_sem,z0,z1,z2,z3,z4]
       . obtain⟨⟨r0,r1,r2,r3,r4⟩,⟨f0,f1,f2,f3,f4⟩⟩:=HR19.out _ HB8.out;go_simp;refine hK.out _ _ (HS5.out _ HB8.out) (fun hHeld=>?_);clear hK K r0 r1 r2 r3 r4 f0 f1 f2 f3 f4;refine tkH (i:=7) (oi:=⟨some 5,.assign (.tmp 168),48, "ref.go:108",#[⟨1,.data⟩,⟨6,.chain⟩,⟨0,.phase⟩,⟨1,.phase⟩,{ on:=2,ground:=.textOnly .lateStores },{ on:=3,ground:=.textOnly .lateStoresUnsure },{ on:=4,ground:=.textOnly .lateStores },{ on:=5,ground:=.textOnly .lateStores },⟨6,.phase⟩],none⟩) (v:=?_) rfl ?_ hHeld ?_;rotate_left 1
         . rintro W ⟨s0,s1,s2,s3,s4⟩;go_simp;try with_reducible rfl
         simp only[Act.put,zIB,zSZ,zSS];refine wpAnyH_ready (rs:=[4]) (by kernel_rfl) (by simp) ?_;refine AllReadyH.cons (o:=⟨some 171,.buildSlice 27 1 #[(0,.tmp 170)],27, "ref.go:108",#[⟨3,.data⟩,{ on:=7,ground:=.gcOnly .lateStores }],none⟩) rfl (fun K hK=>?_) AllReadyH.nil;go_simp;refine hK.out _ _ (by have h:=HS5.out _ HBA.out;rw[HEQ.out]at h;exact h) (fun hHeld=>?_);clear hK K;refine tkH (i:=8) (oi:=⟨some 6,.assign (.tmp 171),27, "ref.go:108",#[⟨4,.data⟩,⟨7,.chain⟩,⟨0,.phase⟩,⟨1,.phase⟩,⟨2,.phase⟩,⟨3,.phase⟩,⟨4,.phase⟩,{ on:=5,ground:=.textOnly .lateStores },⟨6,.phase⟩,⟨7,.phase⟩],none⟩) (v:=?_) rfl ?_ hHeld ?_;rotate_left 1
         . rintro W ⟨s0,s1,s2,s3,s4⟩;go_simp;try with_reducible rfl
         simp only[Act.put,zIB,zSZ,zSS];refine tkH (i:=9) (oi:=⟨some 7,.assign (.tmp 172),4, "ref.go:108",#[⟨5,.data⟩,⟨8,.chain⟩,⟨0,.phase⟩,⟨1,.phase⟩,⟨2,.phase⟩,⟨3,.phase⟩,⟨4,.phase⟩,⟨5,.phase⟩,⟨6,.phase⟩,⟨7,.phase⟩,⟨8,.phase⟩],none⟩) (v:=?_) rfl ?_ hHeld ?_;rotate_left 1
         . rintro W ⟨s0,s1,s2,s3,s4⟩;go_simp;try with_reducible rfl
         simp only[Act.put,zIB,zSZ,zSS];refine wpAnyH_done (by kernel_rfl) ?_ _;rw[HEQ.out]at HE HZA;go_wp2;obtain⟨z0,z1,z2,z3,z4⟩:=HZA.out;refine bodyPost_ret (v:=.tuple #[rvE e3 (.slice ao2 m2 cap2),.slice none 0 0,.slice (some ⟨w8.heap.size,0,none⟩) 1 1,.bool an]) ?_ rfl HE.out;simp[results,Try.results20,go_sem,z0,z1,z2,z3,z4]
     . go_upto_region 27 with fail;go_region;clear g0 g1 g2 g4 f0 f1 f2 f4 q0 q1 k2;obtain⟨W9,hW9⟩:∃W9,W9=wx.drew:=⟨_,rfl⟩
       obtain⟨e3,he3⟩:∃e3,e3=e2:=⟨_,rfl⟩
       rw[<- he3]at HT;have HT9a:Hid (TkR T w e3 ao2 m2 cap2 b nb n (some ⟨g,o,none⟩) 4 c0 (some ⟨gt,ot,none⟩) 1 c1 a2 0 c2 W9):=zA (by rw[he3,hW9];exact HT8.out.keep (below_drewE (zB _ _)));have HN9a:Hid (NtR W9 (b+1+1) (.slice none 0 0) []):=zA (.inl ⟨rfl,rfl⟩);rw[<- hW9];clear hW9 he3;have HT9:Hid (TkR T w e3 ao2 m2 cap2 b nb n (some ⟨g,o,none⟩) 4 c0 (some ⟨gt,ot,none⟩) 1 c1 a2 0 c2 W9.drew):=zA (HT9a.out.keep (below_drewE (zB _ _)));have HN9:Hid (NtR W9.drew (b+1+1) (.slice none 0 0) ([])):=zA (HN9a.out.keep (fun _ _ _ h=>h));clear HT9a HN9a HT8 HP8 t27 t27d g3 f3;go_upto_region 30 with fail;have CB:=zA (rBare_any W9.drew e3 (.slice ao2 m2 cap2));have HS19:Hid (∀u,Below W9.drew.heap.size W9.drew u->u.cell? ⟨b,0,none⟩=some (.int .i64 e3.ep)/\u.cell? ⟨b,1,none⟩=some (.int .i64 e3.ot)/\u.cell? ⟨b,2,none⟩=some (.int .i64 e3.fs)/\u.cell? ⟨b,3,none⟩=some (.int .i64 e3.wt)/\u.cell? ⟨b,4,none⟩=some (.slice ao2 m2 cap2)):=zA (fun u hu=>(five_cells (HT9.out.keep hu).lk).1);have HR19:Hid (∀u,Below W9.drew.heap.size W9.drew u->(u.cell? ⟨b+1,0,none⟩=some (.int .i64 0)/\u.cell? ⟨b+1,1,none⟩=some (.int .i64 0)/\u.cell? ⟨b+1,2,none⟩=some (.int .i64 0)/\u.cell? ⟨b+1,3,none⟩=some (.int .i64 0)/\u.cell? ⟨b+1,4,none⟩=some (.slice none 0 0))/\(u.frozen? ⟨b+1,0,none⟩=false/\u.frozen? ⟨b+1,1,none⟩=false/\u.frozen? ⟨b+1,2,none⟩=false/\u.frozen? ⟨b+1,3,none⟩=false/\u.frozen? ⟨b+1,4,none⟩=false)):=zA (fun u hu=>five_cells (HT9.out.keep hu).rs);have HS5:Hid (∀u,Below W9.drew.heap.size W9.drew u->(set5 u (b+1) (.int .i64 e3.ep) (.int .i64 e3.ot) (.int .i64 e3.fs) (.int .i64 e3.wt) (.slice ao2 m2 cap2)).cell? ⟨b,0,none⟩=some (.int .i64 e3.ep)/\(set5 u (b+1) (.int .i64 e3.ep) (.int .i64 e3.ot) (.int .i64 e3.fs) (.int .i64 e3.wt) (.slice ao2 m2 cap2)).cell? ⟨b,1,none⟩=some (.int .i64 e3.ot)/\(set5 u (b+1) (.int .i64 e3.ep) (.int .i64 e3.ot) (.int .i64 e3.fs) (.int .i64 e3.wt) (.slice ao2 m2 cap2)).cell? ⟨b,2,none⟩=some (.int .i64 e3.fs)/\(set5 u (b+1) (.int .i64 e3.ep) (.int .i64 e3.ot) (.int .i64 e3.fs) (.int .i64 e3.wt) (.slice ao2 m2 cap2)).cell? ⟨b,3,none⟩=some (.int .i64 e3.wt)/\(set5 u (b+1) (.int .i64 e3.ep) (.int .i64 e3.ot) (.int .i64 e3.fs) (.int .i64 e3.wt) (.slice ao2 m2 cap2)).cell? ⟨b,4,none⟩=some (.slice ao2 m2 cap2)):=zA (fun u hu=>(five_cells ((set5_other (show b≠b+1 by omega) _ _ _ _ _).trans (HT9.out.keep hu).lk)).1);have HLT:Hid (b+1<W9.drew.heap.size):=zA (lt_of_block HT9.out.rs);refine wp_region_held_drew (S:=fun u=>u.cell? ⟨b,0,none⟩=some (.int .i64 e3.ep)/\u.cell? ⟨b,1,none⟩=some (.int .i64 e3.ot)/\u.cell? ⟨b,2,none⟩=some (.int .i64 e3.fs)/\u.cell? ⟨b,3,none⟩=some (.int .i64 e3.wt)/\u.cell? ⟨b,4,none⟩=some (.slice ao2 m2 cap2)) (by kernel_rfl) ?_ (fun hHeld=>?_)
       . exact HS19.out _ (zB _ _)
       refine tkH (i:=0) (oi:=⟨some 167,.load 29 (.tmp 2),29, "ref.go:108",#[],none⟩) (v:=?_) rfl ?_ hHeld ?_;rotate_left 1
       . rintro W ⟨s0,s1,s2,s3,s4⟩;go_simp;try with_reducible rfl
       simp only[Act.put,zIB,zSZ,zSS];refine tkH (i:=1) (oi:=⟨some 168,.move (.tmp 15),48, "ref.go:108",#[{ on:=6,ground:=.gcOnly .lateStores }],none⟩) (v:=?_) rfl ?_ hHeld ?_;rotate_left 1
       . rintro W ⟨s0,s1,s2,s3,s4⟩;go_simp;try with_reducible rfl
       simp only[Act.put,zIB,zSZ,zSS];refine tkH (i:=2) (oi:=⟨some 169,.load 29 (.tmp 2),29, "ref.go:108",#[],none⟩) (v:=?_) rfl ?_ hHeld ?_;rotate_left 1
       . rintro W ⟨s0,s1,s2,s3,s4⟩;go_simp;try with_reducible rfl
       simp only[Act.put,zIB,zSZ,zSS];refine tkH (i:=5) (oi:=⟨some 172,.move (.tmp 13),4, "ref.go:108",#[{ on:=8,ground:=.gcOnly .lateStores }],none⟩) (v:=?_) rfl ?_ hHeld ?_;rotate_left 1
       . rintro W ⟨s0,s1,s2,s3,s4⟩;go_simp;try with_reducible rfl
       simp only[Act.put,zIB,zSZ,zSS];refine wpAnyH_ready (rs:=[3]) (by kernel_rfl) (by simp) ?_;refine AllReadyH.cons (o:=⟨some 170,.call { callee:=.value (.func 44),args:=#[.tmp 169],argTypes:=#[29] },9, "ref.go:108",#[⟨2,.data⟩],none⟩) rfl (fun K hK=>?_) AllReadyH.nil;go_simp;refine CB.out.mono ?_;clear CB;rintro y w8 ⟨rfl,hb8⟩;obtain⟨p,hp⟩:∃p,telB e3=p:=⟨_,rfl⟩
       rw[hp];rw[hp]at HT;have HB8:=zA hb8;have HBA:Hid (Below W9.drew.heap.size W9.drew (w8.alloc (.cells #[.string ⟨p.toArray⟩] 9))):=zA (hb8.alloc hb8.size _);have HE:=zA ((HT9.out.keep HBA.out).fin2 (p0:=some ⟨w8.heap.size,0,none⟩) (pl:=1) (pc:=1) HT.out (HN9.out.keep (fun k o _ h=>(HBA.out.block k (lt_of_block h)).trans h)) (.inr ⟨w8.heap.size,p,rfl,rfl,by have h1:=hb8.size;have h2:=HT9.out.bel.size;omega,box_at w8 _⟩));have HZA:=zA (five_cells (set5_block (HT9.out.keep HBA.out).rs (.int .i64 e3.ep) (.int .i64 e3.ot) (.int .i64 e3.fs) (.int .i64 e3.wt) (.slice ao2 m2 cap2))).1;have HEQ:Hid (set5 (w8.alloc (.cells #[.string ⟨p.toArray⟩] 9)) (b+1) (.int .i64 e3.ep) (.int .i64 e3.ot) (.int .i64 e3.fs) (.int .i64 e3.wt) (.slice ao2 m2 cap2)=(set5 w8 (b+1) (.int .i64 e3.ep) (.int .i64 e3.ot) (.int .i64 e3.fs) (.int .i64 e3.wt) (.slice ao2 m2 cap2)).alloc (.cells #[.string ⟨p.toArray⟩] 9)):=zA (by
        have hlt:b+1<w8.heap.size:=zF HLT.out hb8.size;simp[set5,World.setCell_alloc_past,hlt])
       clear hb8 hp HT HT9 HN9;refine hK.out _ _ (HS19.out _ HB8.out) (fun hHeld=>?_);clear hK K;refine wpAnyH_ready (rs:=[4,6]) (by kernel_rfl) (by simp) ?_;refine AllReadyH.cons (o:=⟨some 171,.buildSlice 27 1 #[(0,.tmp 170)],27, "ref.go:108",#[⟨3,.data⟩,{ on:=7,ground:=.gcOnly .lateStores }],none⟩) rfl (fun K hK=>?_) (AllReadyH.cons (o:=⟨none,.store 29 (.tmp 4) (.tmp 167),0, "ref.go:108",#[⟨0,.data⟩,⟨3,.chain⟩,⟨0,.phase⟩,{ on:=1,ground:=.textOnly .lateStores },{ on:=2,ground:=.textOnly .lateStores },{ on:=3,ground:=.textOnly .lateStoresUnsure },{ on:=4,ground:=.textOnly .lateStores },{ on:=5,ground:=.textOnly .lateStores }],none⟩) rfl (fun K hK=>?_) AllReadyH.nil)
       . go_simp;refine hK.out _ _ (HS19.out _ HBA.out) (fun hHeld=>?_);clear hK K;refine wpAnyH_ready (rs:=[6]) (by kernel_rfl) (by simp) ?_;refine AllReadyH.cons (o:=⟨none,.store 29 (.tmp 4) (.tmp 167),0, "ref.go:108",#[⟨0,.data⟩,⟨3,.chain⟩,⟨0,.phase⟩,{ on:=1,ground:=.textOnly .lateStores },{ on:=2,ground:=.textOnly .lateStores },{ on:=3,ground:=.textOnly .lateStoresUnsure },{ on:=4,ground:=.textOnly .lateStores },{ on:=5,ground:=.textOnly .lateStores }],none⟩) rfl (fun K hK=>?_) AllReadyH.nil;obtain⟨⟨r0,r1,r2,r3,r4⟩,⟨f0,f1,f2,f3,f4⟩⟩:=HR19.out _ HBA.out;go_simp;refine hK.out _ _ (HS5.out _ HBA.out) (fun hHeld=>?_);clear hK K r0 r1 r2 r3 r4 f0 f1 f2 f3 f4;refine tkH (i:=7) (oi:=⟨some 5,.assign (.tmp 168),48, "ref.go:108",#[⟨1,.data⟩,⟨6,.chain⟩,⟨0,.phase⟩,⟨1,.phase⟩,{ on:=2,ground:=.textOnly .lateStores },{ on:=3,ground:=.textOnly .lateStoresUnsure },{ on:=4,ground:=.textOnly .lateStores },{ on:=5,ground:=.textOnly .lateStores },⟨6,.phase⟩],none⟩) (v:=?_) rfl ?_ hHeld ?_;rotate_left 1
         . rintro W ⟨s0,s1,s2,s3,s4⟩;go_simp;try with_reducible rfl
         simp only[Act.put,zIB,zSZ,zSS];refine tkH (i:=8) (oi:=⟨some 6,.assign (.tmp 171),27, "ref.go:108",#[⟨4,.data⟩,⟨7,.chain⟩,⟨0,.phase⟩,⟨1,.phase⟩,⟨2,.phase⟩,⟨3,.phase⟩,⟨4,.phase⟩,{ on:=5,ground:=.textOnly .lateStores },⟨6,.phase⟩,⟨7,.phase⟩],none⟩) (v:=?_) rfl ?_ hHeld ?_;rotate_left 1
         . rintro W ⟨s0,s1,s2,s3,s4⟩;go_simp;try with_reducible rfl
         simp only[Act.put,zIB,zSZ,zSS];refine tkH (i:=9) (oi:=⟨some 7,.assign (.tmp 172),4, "ref.go:108",#[⟨5,.data⟩,⟨8,.chain⟩,⟨0,.phase⟩,⟨1,.phase⟩,⟨2,.phase⟩,⟨3,.phase⟩,⟨4,.phase⟩,⟨5,.phase⟩,⟨6,.phase⟩,⟨7,.phase⟩,⟨8,.phase⟩],none⟩) (v:=?_) rfl ?_ hHeld ?_;rotate_left 1
         . rintro W ⟨s0,s1,s2,s3,s4⟩;go_simp;try with_reducible rfl
         simp only[Act.put,zIB,zSZ,zSS];refine wpAnyH_done (by kernel_rfl) ?_ _;go_wp2;obtain⟨z0,z1,z2,z3,z4⟩:=HZA.out;refine bodyPost_ret (v:=.tuple #[rvE e3 (.slice ao2 m2 cap2),.slice none 0 0,.slice (some ⟨w8.heap.size,0,none⟩) 1 1,.bool an]) ?_ rfl HE.out;simp[results,Try.results20,go_sem,z0,z1,z2,z3,z4]
       . obtain⟨⟨r0,r1,r2,r3,r4⟩,⟨f0,f1,f2,f3,f4⟩⟩:=HR19.out _ HB8.out;go_simp;refine hK.out _ _ (HS5.out _ HB8.out) (fun hHeld=>?_);clear hK K r0 r1 r2 r3 r4 f0 f1 f2 f3 f4;refine tkH (i:=7) (oi:=⟨some 5,.assign (.tmp 168),48, "ref.go:108",#[⟨1,.data⟩,⟨6,.chain⟩,⟨0,.phase⟩,⟨1,.phase⟩,{ on:=2,ground:=.textOnly .lateStores },{ on:=3,ground:=.textOnly .lateStoresUnsure },{ on:=4,ground:=.textOnly .lateStores },{ on:=5,ground:=.textOnly .lateStores },⟨6,.phase⟩],none⟩) (v:=?_) rfl ?_ hHeld ?_;rotate_left 1
         . rintro W ⟨s0,s1,s2,s3,s4⟩;go_simp;try with_reducible rfl
         simp only[Act.put,zIB,zSZ,zSS];refine wpAnyH_ready (rs:=[4]) (by kernel_rfl) (by simp) ?_;refine AllReadyH.cons (o:=⟨some 171,.buildSlice 27 1 #[(0,.tmp 170)],27, "ref.go:108",#[⟨3,.data⟩,{ on:=7,ground:=.gcOnly .lateStores }],none⟩) rfl (fun K hK=>?_) AllReadyH.nil;go_simp;refine hK.out _ _ (by have h:=HS5.out _ HBA.out;rw[HEQ.out]at h;exact h) (fun hHeld=>?_);clear hK K;refine tkH (i:=8) (oi:=⟨some 6,.assign (.tmp 171),27, "ref.go:108",#[⟨4,.data⟩,⟨7,.chain⟩,⟨0,.phase⟩,⟨1,.phase⟩,⟨2,.phase⟩,⟨3,.phase⟩,⟨4,.phase⟩,{ on:=5,ground:=.textOnly .lateStores },⟨6,.phase⟩,⟨7,.phase⟩],none⟩) (v:=?_) rfl ?_ hHeld ?_;rotate_left 1
         . rintro W ⟨s0,s1,s2,s3,s4⟩;go_simp;try with_reducible rfl
         simp only[Act.put,zIB,zSZ,zSS];refine tkH (i:=9) (oi:=⟨some 7,.assign (.tmp 172),4, "ref.go:108",#[⟨5,.data⟩,⟨8,.chain⟩,⟨0,.phase⟩,⟨1,.phase⟩,⟨2,.phase⟩,⟨3,.phase⟩,⟨4,.phase⟩,⟨5,.phase⟩,⟨6,.phase⟩,⟨7,.phase⟩,⟨8,.phase⟩],none⟩) (v:=?_) rfl ?_ hHeld ?_;rotate_left 1
         . rintro W ⟨s0,s1,s2,s3,s4⟩;go_simp;try with_reducible rfl
         simp only[Act.put,zIB,zSZ,zSS];refine wpAnyH_done (by kernel_rfl) ?_ _;rw[HEQ.out]at HE HZA;go_wp2;obtain⟨z0,z1,z2,z3,z4⟩:=HZA.out;refine bodyPost_ret (v:=.tuple #[rvE e3 (.slice ao2 m2 cap2),.slice none 0 0,.slice (some ⟨w8.heap.size,0,none⟩) 1 1,.bool an]) ?_ rfl HE.out;simp[results,Try.results20,go_sem,z0,z1,z2,z3,z4]
end
end Go.Proofs.Ytjoddkeamboeoaa
