/- ERTakP. -/
import Derived.Test.YtjoddkeamboeoaaMG42
set_option maxRecDepth 100000
namespace Go.Proofs.Ytjoddkeamboeoaa
open Go.RowKit Go.Shelf
section
variable {T:Nat->Prop} {w:World} {e:En} {vq:Value}
set_option maxHeartbeats 4000000 in
theorem rTake_p1(hq:TxR T w vq e.q)(hlow:Low T w)(l tx:List UInt8){x0:Int}(hl:l.length<=140737488351232)(ht:takeE e l=(e,[],[],false))(hok:(onlyP l).2=true)(h2:(onlyP l).1.rows.length=0)(hk:(onlyP l).1.kind=1)(h3:(onlyP l).1.nums.length=4)(h4:(onlyP l).1.texts.length=1)(hmay:(onlyP l).1.may)(hx:(onlyP l).1.nums[0]?=some x0)(hx0:x0≠0)(hxo:¬x0<(e.ot:Int))(htx:(onlyP l).1.texts[0]?=some tx)(hpk:(onlyP tx).2=false):Calls Try.prog 20 #[rvE e vq,.string ⟨l.toArray⟩] w (RTakE T w e l):=by
 obtain⟨ao,cap,rfl,-,-,-⟩:=txr_cells hq;obtain⟨m,hm⟩:∃m,e.q.length=m:=⟨_,rfl⟩
 obtain⟨b,hb⟩:∃b,w.heap.size=b:=⟨_,rfl⟩
 rw[hm]at hq ⊢;have C:=zA (rOne_any l (takW w e (.slice ao m cap)) hl);unfold OnE at C;obtain⟨n,hn⟩:∃n,(onlyP l).1=n:=⟨_,rfl⟩
 rw[hn]at C h2 hk h3 h4 hmay hx htx;rw[hok]at C;have HTX:=zA hq;have HLOW:=zA hlow;have HT:=zA ht;clear hq hlow ht hl hn hok hm;go_enter Try.func20,Try.ntmps20;go_wp2_with fail;refine C.out.mono ?_;clear C;rintro x w1 ⟨v,rfl,hown,hbw⟩;obtain⟨a0,l0,c0,a1,l1,c1,a2,l2,c2,rfl⟩:=own_parts hown;have hss:(takW w e (.slice ao m cap)).heap.size=b+1+1:=by simp;omega
 have TK:=TkR.of (c0:=c0) (c1:=c1) (c2:=c2) (a2:=a2) hb HTX.out HLOW.out (by rw[<- hss];exact hown) hbw;obtain⟨nb,hnb⟩:∃nb,w1.heap.size=nb:=⟨_,rfl⟩
 obtain⟨W2,hW2⟩:∃W2,w1.alloc (.cells #[.int .i64 n.kind,.slice a0 l0 c0,.slice a1 l1 c1,.slice a2 l2 c2] 36)=W2:=⟨_,rfl⟩
 have HW2:=zA hW2;have HTK:Hid (TkR T w e ao m cap b nb n a0 l0 c0 a1 l1 c1 a2 l2 c2 W2):=zA (by rw[<- hW2,<- hnb];exact TK);obtain⟨W3,hW3⟩:∃W3,W3=W2.drew:=⟨_,rfl⟩
 have HW3:=zA hW3;have HTD:Hid (TkR T w e ao m cap b nb n a0 l0 c0 a1 l1 c1 a2 l2 c2 W3):=zA (by rw[hW3];exact HTK.out.keep (below_drewE (zB _ _)));obtain⟨r0,r1,r2,rn,rt⟩:=own_read (HTK.out.keep (below_drewE (zB _ _))).own;clear TK hown hbw hss hW2 hW3 HTX HLOW;have hcs:=(HTK.out.keep (below_drewE (zB _ _))).cells;obtain rfl:l2=0:=by omega
 rw[hk]at hcs;have hw1:IntKind.i64.wrap 4=4:=by decide
 have hw2:IntKind.i64.wrap 1=1:=by decide
 obtain rfl:l0=4:=by omega
 obtain rfl:l1=1:=by omega
 obtain⟨g,o,rfl,-,hc0⟩:=rn (by intro h;rw[h]at hx;simp at hx);have q5:=hc0 0 x0 hx;rw[yA]at q5;obtain⟨gt,ot,ha1,-⟩:=rt (by intro h;rw[h]at htx;simp at htx);have t7:¬x0=0:=hx0;have t7d:(x0==0)=false:=by simpa using t7
 have t8:¬x0<(e.ot:Int):=by omega
 have t8d:decide (x0<(e.ot:Int))=false:=decide_eq_false t8;have htl:tx.length<=140737488351232:=by
  have h1:=hmay.2.1.2.2.1 tx (zJ htx);omega
 have HX:=zA hx;have HTXT:=zA htx;have HTL:=zA htl;have HA1:=zA ha1;have HPK:=zA hpk;clear hc0 ha1 htl;obtain⟨⟨q0,q1,q2,q3⟩,q4⟩:=hcs;have HSD:=zA (And.intro q0 (And.intro q1 (And.intro q2 (And.intro q3 (And.intro q4 q5)))));have HK:=zA hk;have HXO:Hid (¬x0<(e.ot:Int)):=zA t8;clear q0 q1 q2 q3 q4 q5 h2 hk h3 h4 hmay hx hx0 hxo htx hpk r0 r1 r2 rn rt;go_upto_region 2 with fail;rw[HW2.out];clear HW2;refine wp_region_held_drew (S:=fun u=>u.cell? ⟨nb,0,none⟩=some (.int .i64 1)/\u.cell? ⟨nb,1,none⟩=some (.slice (some ⟨g,o,none⟩) 4 c0)/\u.cell? ⟨nb,2,none⟩=some (.slice a1 1 c1)/\u.cell? ⟨nb,3,none⟩=some (.slice a2 0 c2)/\u.cell? ⟨b,1,none⟩=some (.int .i64 e.ot)/\u.cell? ⟨g,o,none⟩=some (.int .i64 x0)) (by kernel_rfl) ?_ (fun hHeld=>?_)
 . exact HSD.out
 refine tkH (i:=0) (oi:=⟨some 21,.move (.tmp 9),4, "ref.go:71",#[],none⟩) (v:=?_) rfl ?_ hHeld ?_;rotate_left 1
 . rintro W ⟨s0,s1,s2,s3,s4,s5⟩;go_simp;try with_reducible rfl
 simp only[Act.put,zIB,zSZ,zSS];refine tkH (i:=1) (oi:=⟨some 22,.unOp .not 4 (.tmp 21),4, "ref.go:71",#[⟨0,.data⟩],none⟩) (v:=?_) rfl ?_ hHeld ?_;rotate_left 1
 . rintro W ⟨s0,s1,s2,s3,s4,s5⟩;go_simp;try with_reducible rfl
 simp only[Act.put,zIB,zSZ,zSS];refine tkH (i:=2) (oi:=⟨some 23,.move (.tmp 22),4, "ref.go:71",#[⟨1,.data⟩],none⟩) (v:=?_) rfl ?_ hHeld ?_;rotate_left 1
 . rintro W ⟨s0,s1,s2,s3,s4,s5⟩;go_simp;try with_reducible rfl
 simp only[Act.put,zIB,zSZ,zSS];refine tkH (i:=3) (oi:=⟨some 24,.fieldAddr 36 (.tmp 8) 3,0, "ref.go:71",#[⟨2,.guard⟩],some (2,false)⟩) (v:=?_) rfl ?_ hHeld ?_;rotate_left 1
 . rintro W ⟨s0,s1,s2,s3,s4,s5⟩;go_simp;try with_reducible rfl
 simp only[Act.put,zIB,zSZ,zSS];refine tkH (i:=4) (oi:=⟨some 25,.load 34 (.tmp 24),34, "ref.go:71",#[⟨3,.data⟩,⟨2,.guard⟩],some (2,false)⟩) (v:=?_) rfl ?_ hHeld ?_;rotate_left 1
 . rintro W ⟨s0,s1,s2,s3,s4,s5⟩;go_simp;try with_reducible rfl
 simp only[Act.put,zIB,zSZ,zSS];refine tkH (i:=5) (oi:=⟨some 26,.call { callee:=.builtin .len,args:=#[.tmp 25],argTypes:=#[34] },3, "ref.go:71",#[⟨4,.data⟩,⟨2,.guard⟩],some (2,false)⟩) (v:=?_) rfl ?_ hHeld ?_;rotate_left 1
 . rintro W ⟨s0,s1,s2,s3,s4,s5⟩;go_simp;try with_reducible rfl
 simp only[Act.put,zIB,zSZ,zSS];refine tkH (i:=6) (oi:=⟨some 27,.binOp .gtr 3 (.tmp 26) (.const (.int .i64 0)) 3,4, "ref.go:71",#[⟨5,.data⟩,⟨2,.guard⟩],some (2,false)⟩) (v:=?_) rfl ?_ hHeld ?_;rotate_left 1
 . rintro W ⟨s0,s1,s2,s3,s4,s5⟩;go_simp;try with_reducible rfl
 simp only[Act.put,zIB,zSZ,zSS];refine tkH (i:=7) (oi:=⟨some 28,.pick (.tmp 23) (.const (.bool true)) (.tmp 27),4, "ref.go:71",#[⟨2,.data⟩,⟨6,.data⟩],none⟩) (v:=?_) rfl ?_ hHeld ?_;rotate_left 1
 . rintro W ⟨s0,s1,s2,s3,s4,s5⟩;go_simp;try with_reducible rfl
 simp only[Act.put,zIB,zSZ,zSS];refine tkH (i:=8) (oi:=⟨some 29,.move (.tmp 28),4, "ref.go:71",#[⟨7,.data⟩,⟨2,.chain⟩],none⟩) (v:=?_) rfl ?_ hHeld ?_;rotate_left 1
 . rintro W ⟨s0,s1,s2,s3,s4,s5⟩;go_simp;try with_reducible rfl
 simp only[Act.put,zIB,zSZ,zSS];refine tkH (i:=9) (oi:=⟨some 30,.fieldAddr 36 (.tmp 8) 0,0, "ref.go:71",#[⟨8,.guard⟩],some (8,false)⟩) (v:=?_) rfl ?_ hHeld ?_;rotate_left 1
 . rintro W ⟨s0,s1,s2,s3,s4,s5⟩;go_simp;try with_reducible rfl
 simp only[Act.put,zIB,zSZ,zSS];refine tkH (i:=10) (oi:=⟨some 31,.load 3 (.tmp 30),3, "ref.go:71",#[⟨9,.data⟩,⟨8,.guard⟩],some (8,false)⟩) (v:=?_) rfl ?_ hHeld ?_;rotate_left 1
 . rintro W ⟨s0,s1,s2,s3,s4,s5⟩;go_simp;try with_reducible rfl
 simp only[Act.put,zIB,zSZ,zSS];refine tkH (i:=11) (oi:=⟨some 32,.binOp .lss 3 (.tmp 31) (.const (.int .i64 1)) 3,4, "ref.go:71",#[⟨10,.data⟩,⟨8,.guard⟩],some (8,false)⟩) (v:=?_) rfl ?_ hHeld ?_;rotate_left 1
 . rintro W ⟨s0,s1,s2,s3,s4,s5⟩;go_simp;try with_reducible rfl
 simp only[Act.put,zIB,zSZ,zSS];refine tkH (i:=12) (oi:=⟨some 33,.pick (.tmp 29) (.const (.bool true)) (.tmp 32),4, "ref.go:71",#[⟨8,.data⟩,⟨11,.data⟩],none⟩) (v:=?_) rfl ?_ hHeld ?_;rotate_left 1
 . rintro W ⟨s0,s1,s2,s3,s4,s5⟩;go_simp;try with_reducible rfl
 simp only[Act.put,zIB,zSZ,zSS];refine tkH (i:=13) (oi:=⟨some 34,.move (.tmp 33),4, "ref.go:71",#[⟨12,.data⟩,⟨8,.chain⟩],none⟩) (v:=?_) rfl ?_ hHeld ?_;rotate_left 1
 . rintro W ⟨s0,s1,s2,s3,s4,s5⟩;go_simp;try with_reducible rfl
 simp only[Act.put,zIB,zSZ,zSS];refine tkH (i:=14) (oi:=⟨some 35,.fieldAddr 36 (.tmp 8) 0,0, "ref.go:71",#[⟨13,.guard⟩],some (13,false)⟩) (v:=?_) rfl ?_ hHeld ?_;rotate_left 1
 . rintro W ⟨s0,s1,s2,s3,s4,s5⟩;go_simp;try with_reducible rfl
 simp only[Act.put,zIB,zSZ,zSS];refine tkH (i:=15) (oi:=⟨some 36,.load 3 (.tmp 35),3, "ref.go:71",#[⟨14,.data⟩,⟨13,.guard⟩],some (13,false)⟩) (v:=?_) rfl ?_ hHeld ?_;rotate_left 1
 . rintro W ⟨s0,s1,s2,s3,s4,s5⟩;go_simp;try with_reducible rfl
 simp only[Act.put,zIB,zSZ,zSS];refine tkH (i:=16) (oi:=⟨some 37,.binOp .gtr 3 (.tmp 36) (.const (.int .i64 2)) 3,4, "ref.go:71",#[⟨15,.data⟩,⟨13,.guard⟩],some (13,false)⟩) (v:=?_) rfl ?_ hHeld ?_;rotate_left 1
 . rintro W ⟨s0,s1,s2,s3,s4,s5⟩;go_simp;try with_reducible rfl
 simp only[Act.put,zIB,zSZ,zSS];refine tkH (i:=17) (oi:=⟨some 38,.pick (.tmp 34) (.const (.bool true)) (.tmp 37),4, "ref.go:71",#[⟨13,.data⟩,⟨16,.data⟩],none⟩) (v:=?_) rfl ?_ hHeld ?_;rotate_left 1
 . rintro W ⟨s0,s1,s2,s3,s4,s5⟩;go_simp;try with_reducible rfl
 simp only[Act.put,zIB,zSZ,zSS];refine tkH (i:=18) (oi:=⟨some 39,.move (.tmp 38),4, "ref.go:71",#[⟨17,.data⟩,⟨13,.chain⟩],none⟩) (v:=?_) rfl ?_ hHeld ?_;rotate_left 1
 . rintro W ⟨s0,s1,s2,s3,s4,s5⟩;go_simp;try with_reducible rfl
 simp only[Act.put,zIB,zSZ,zSS];refine tkH (i:=19) (oi:=⟨some 40,.fieldAddr 36 (.tmp 8) 1,0, "ref.go:71",#[⟨18,.guard⟩],some (18,false)⟩) (v:=?_) rfl ?_ hHeld ?_;rotate_left 1
 . rintro W ⟨s0,s1,s2,s3,s4,s5⟩;go_simp;try with_reducible rfl
 simp only[Act.put,zIB,zSZ,zSS];refine tkH (i:=20) (oi:=⟨some 41,.load 33 (.tmp 40),33, "ref.go:71",#[⟨19,.data⟩,⟨18,.guard⟩],some (18,false)⟩) (v:=?_) rfl ?_ hHeld ?_;rotate_left 1
 . rintro W ⟨s0,s1,s2,s3,s4,s5⟩;go_simp;try with_reducible rfl
 simp only[Act.put,zIB,zSZ,zSS];refine tkH (i:=21) (oi:=⟨some 42,.call { callee:=.builtin .len,args:=#[.tmp 41],argTypes:=#[33] },3, "ref.go:71",#[⟨20,.data⟩,⟨18,.guard⟩],some (18,false)⟩) (v:=?_) rfl ?_ hHeld ?_;rotate_left 1
 . rintro W ⟨s0,s1,s2,s3,s4,s5⟩;go_simp;try with_reducible rfl
 simp only[Act.put,zIB,zSZ,zSS];refine tkH (i:=22) (oi:=⟨some 43,.fieldAddr 36 (.tmp 8) 0,0, "ref.go:71",#[⟨18,.guard⟩],some (18,false)⟩) (v:=?_) rfl ?_ hHeld ?_;rotate_left 1
 . rintro W ⟨s0,s1,s2,s3,s4,s5⟩;go_simp;try with_reducible rfl
 simp only[Act.put,zIB,zSZ,zSS];refine tkH (i:=23) (oi:=⟨some 44,.load 3 (.tmp 43),3, "ref.go:71",#[⟨22,.data⟩,⟨18,.guard⟩],some (18,false)⟩) (v:=?_) rfl ?_ hHeld ?_;rotate_left 1
 . rintro W ⟨s0,s1,s2,s3,s4,s5⟩;go_simp;try with_reducible rfl
 simp only[Act.put,zIB,zSZ,zSS];refine tkH (i:=24) (oi:=⟨some 45,.binOp .sub 3 (.const (.int .i64 5)) (.tmp 44) 3,3, "ref.go:71",#[⟨23,.data⟩,⟨18,.guard⟩],some (18,false)⟩) (v:=?_) rfl ?_ hHeld ?_;rotate_left 1
 . rintro W ⟨s0,s1,s2,s3,s4,s5⟩;go_simp;try with_reducible rfl
 simp only[Act.put,zIB,zSZ,zSS];refine tkH (i:=25) (oi:=⟨some 46,.binOp .neq 3 (.tmp 42) (.tmp 45) 3,4, "ref.go:71",#[⟨21,.data⟩,⟨24,.data⟩,⟨18,.guard⟩],some (18,false)⟩) (v:=?_) rfl ?_ hHeld ?_;rotate_left 1
 . rintro W ⟨s0,s1,s2,s3,s4,s5⟩;go_simp;try with_reducible rfl
 simp only[Act.put,zIB,zSZ,zSS];refine tkH (i:=26) (oi:=⟨some 47,.pick (.tmp 39) (.const (.bool true)) (.tmp 46),4, "ref.go:71",#[⟨18,.data⟩,⟨25,.data⟩],none⟩) (v:=?_) rfl ?_ hHeld ?_;rotate_left 1
 . rintro W ⟨s0,s1,s2,s3,s4,s5⟩;go_simp;try with_reducible rfl
 simp only[Act.put,zIB,zSZ,zSS];refine tkH (i:=27) (oi:=⟨some 48,.move (.tmp 47),4, "ref.go:71",#[⟨26,.data⟩,⟨18,.chain⟩],none⟩) (v:=?_) rfl ?_ hHeld ?_;rotate_left 1
 . rintro W ⟨s0,s1,s2,s3,s4,s5⟩;go_simp;try with_reducible rfl
 simp only[Act.put,zIB,zSZ,zSS];refine tkH (i:=28) (oi:=⟨some 49,.fieldAddr 36 (.tmp 8) 2,0, "ref.go:71",#[⟨27,.guard⟩],some (27,false)⟩) (v:=?_) rfl ?_ hHeld ?_;rotate_left 1
 . rintro W ⟨s0,s1,s2,s3,s4,s5⟩;go_simp;try with_reducible rfl
 simp only[Act.put,zIB,zSZ,zSS];refine tkH (i:=29) (oi:=⟨some 50,.load 27 (.tmp 49),27, "ref.go:71",#[⟨28,.data⟩,⟨27,.guard⟩],some (27,false)⟩) (v:=?_) rfl ?_ hHeld ?_;rotate_left 1
 . rintro W ⟨s0,s1,s2,s3,s4,s5⟩;go_simp;try with_reducible rfl
 simp only[Act.put,zIB,zSZ,zSS];refine tkH (i:=30) (oi:=⟨some 51,.call { callee:=.builtin .len,args:=#[.tmp 50],argTypes:=#[27] },3, "ref.go:71",#[⟨29,.data⟩,⟨27,.guard⟩],some (27,false)⟩) (v:=?_) rfl ?_ hHeld ?_;rotate_left 1
 . rintro W ⟨s0,s1,s2,s3,s4,s5⟩;go_simp;try with_reducible rfl
 simp only[Act.put,zIB,zSZ,zSS];refine tkH (i:=31) (oi:=⟨some 52,.fieldAddr 36 (.tmp 8) 0,0, "ref.go:71",#[⟨27,.guard⟩],some (27,false)⟩) (v:=?_) rfl ?_ hHeld ?_;rotate_left 1
 . rintro W ⟨s0,s1,s2,s3,s4,s5⟩;go_simp;try with_reducible rfl
 simp only[Act.put,zIB,zSZ,zSS];refine tkH (i:=32) (oi:=⟨some 53,.load 3 (.tmp 52),3, "ref.go:71",#[⟨31,.data⟩,⟨27,.guard⟩],some (27,false)⟩) (v:=?_) rfl ?_ hHeld ?_;rotate_left 1
 . rintro W ⟨s0,s1,s2,s3,s4,s5⟩;go_simp;try with_reducible rfl
 simp only[Act.put,zIB,zSZ,zSS];refine tkH (i:=33) (oi:=⟨some 54,.binOp .sub 3 (.const (.int .i64 2)) (.tmp 53) 3,3, "ref.go:71",#[⟨32,.data⟩,⟨27,.guard⟩],some (27,false)⟩) (v:=?_) rfl ?_ hHeld ?_;rotate_left 1
 . rintro W ⟨s0,s1,s2,s3,s4,s5⟩;go_simp;try with_reducible rfl
 simp only[Act.put,zIB,zSZ,zSS];refine tkH (i:=34) (oi:=⟨some 55,.binOp .neq 3 (.tmp 51) (.tmp 54) 3,4, "ref.go:71",#[⟨30,.data⟩,⟨33,.data⟩,⟨27,.guard⟩],some (27,false)⟩) (v:=?_) rfl ?_ hHeld ?_;rotate_left 1
 . rintro W ⟨s0,s1,s2,s3,s4,s5⟩;go_simp;try with_reducible rfl
 simp only[Act.put,zIB,zSZ,zSS];refine tkH (i:=35) (oi:=⟨some 56,.pick (.tmp 48) (.const (.bool true)) (.tmp 55),4, "ref.go:71",#[⟨27,.data⟩,⟨34,.data⟩],none⟩) (v:=?_) rfl ?_ hHeld ?_;rotate_left 1
 . rintro W ⟨s0,s1,s2,s3,s4,s5⟩;go_simp;try with_reducible rfl
 simp only[Act.put,zIB,zSZ,zSS];refine tkH (i:=36) (oi:=⟨some 57,.move (.tmp 56),4, "ref.go:71",#[⟨35,.data⟩,⟨27,.chain⟩],none⟩) (v:=?_) rfl ?_ hHeld ?_;rotate_left 1
 . rintro W ⟨s0,s1,s2,s3,s4,s5⟩;go_simp;try with_reducible rfl
 simp only[Act.put,zIB,zSZ,zSS];refine tkH (i:=37) (oi:=⟨some 58,.fieldAddr 36 (.tmp 8) 1,0, "ref.go:71",#[⟨36,.guard⟩],some (36,false)⟩) (v:=?_) rfl ?_ hHeld ?_;rotate_left 1
 . rintro W ⟨s0,s1,s2,s3,s4,s5⟩;go_simp;try with_reducible rfl
 simp only[Act.put,zIB,zSZ,zSS];refine tkH (i:=38) (oi:=⟨some 59,.load 33 (.tmp 58),33, "ref.go:71",#[⟨37,.data⟩,⟨36,.guard⟩],some (36,false)⟩) (v:=?_) rfl ?_ hHeld ?_;rotate_left 1
 . rintro W ⟨s0,s1,s2,s3,s4,s5⟩;go_simp;try with_reducible rfl
 simp only[Act.put,zIB,zSZ,zSS];refine tkH (i:=39) (oi:=⟨some 60,.indexAddr 33 (.tmp 59) (.const (.int .i64 0)),0, "ref.go:71",#[⟨38,.data⟩,⟨36,.guard⟩],some (36,false)⟩) (v:=?_) rfl ?_ hHeld ?_;rotate_left 1
 . rintro W ⟨s0,s1,s2,s3,s4,s5⟩;go_simp;try with_reducible rfl
 simp only[Act.put,zIB,zSZ,zSS];refine tkH (i:=40) (oi:=⟨some 61,.load 3 (.tmp 60),3, "ref.go:71",#[⟨39,.data⟩,⟨36,.guard⟩],some (36,false)⟩) (v:=?_) rfl ?_ hHeld ?_;rotate_left 1
 . rintro W ⟨s0,s1,s2,s3,s4,s5⟩;go_simp;try with_reducible rfl
 simp only[Act.put,zIB,zSZ,zSS];refine tkH (i:=41) (oi:=⟨some 62,.binOp .eql 3 (.tmp 61) (.const (.int .i64 0)) 3,4, "ref.go:71",#[⟨40,.data⟩,⟨36,.guard⟩],some (36,false)⟩) (v:=?_) rfl ?_ hHeld ?_;rotate_left 1
 . rintro W ⟨s0,s1,s2,s3,s4,s5⟩;go_simp;try with_reducible rfl
 simp only[Act.put,zIB,zSZ,zSS];refine tkH (i:=42) (oi:=⟨some 63,.pick (.tmp 57) (.const (.bool true)) (.tmp 62),4, "ref.go:71",#[⟨36,.data⟩,⟨41,.data⟩],none⟩) (v:=?_) rfl ?_ hHeld ?_;rotate_left 1
 . rintro W ⟨s0,s1,s2,s3,s4,s5⟩;go_simp;try with_reducible rfl
 simp only[Act.put,zIB,zSZ,zSS];refine tkH (i:=43) (oi:=⟨some 64,.move (.tmp 63),4, "ref.go:71",#[⟨42,.data⟩,⟨36,.chain⟩],none⟩) (v:=?_) rfl ?_ hHeld ?_;rotate_left 1
 . rintro W ⟨s0,s1,s2,s3,s4,s5⟩;go_simp;try with_reducible rfl
 simp only[Act.put,zIB,zSZ,zSS];refine tkH (i:=44) (oi:=⟨some 65,.fieldAddr 36 (.tmp 8) 1,0, "ref.go:71",#[⟨43,.guard⟩],some (43,false)⟩) (v:=?_) rfl ?_ hHeld ?_;rotate_left 1
 . rintro W ⟨s0,s1,s2,s3,s4,s5⟩;go_simp;try with_reducible rfl
 simp only[Act.put,zIB,zSZ,zSS];refine tkH (i:=45) (oi:=⟨some 66,.load 33 (.tmp 65),33, "ref.go:71",#[⟨44,.data⟩,⟨43,.guard⟩],some (43,false)⟩) (v:=?_) rfl ?_ hHeld ?_;rotate_left 1
 . rintro W ⟨s0,s1,s2,s3,s4,s5⟩;go_simp;try with_reducible rfl
 simp only[Act.put,zIB,zSZ,zSS];refine tkH (i:=46) (oi:=⟨some 67,.indexAddr 33 (.tmp 66) (.const (.int .i64 0)),0, "ref.go:71",#[⟨45,.data⟩,⟨43,.guard⟩],some (43,false)⟩) (v:=?_) rfl ?_ hHeld ?_;rotate_left 1
 . rintro W ⟨s0,s1,s2,s3,s4,s5⟩;go_simp;try with_reducible rfl
 simp only[Act.put,zIB,zSZ,zSS];refine tkH (i:=47) (oi:=⟨some 68,.load 3 (.tmp 67),3, "ref.go:71",#[⟨46,.data⟩,⟨43,.guard⟩],some (43,false)⟩) (v:=?_) rfl ?_ hHeld ?_;rotate_left 1
 . rintro W ⟨s0,s1,s2,s3,s4,s5⟩;go_simp;try with_reducible rfl
 simp only[Act.put,zIB,zSZ,zSS];refine tkH (i:=48) (oi:=⟨some 69,.fieldAddr 29 (.tmp 2) 1,0, "ref.go:71",#[⟨43,.guard⟩],some (43,false)⟩) (v:=?_) rfl ?_ hHeld ?_;rotate_left 1
 . rintro W ⟨s0,s1,s2,s3,s4,s5⟩;go_simp;try with_reducible rfl
 simp only[Act.put,zIB,zSZ,zSS];refine tkH (i:=49) (oi:=⟨some 70,.load 3 (.tmp 69),3, "ref.go:71",#[⟨48,.data⟩,⟨43,.guard⟩],some (43,false)⟩) (v:=?_) rfl ?_ hHeld ?_;rotate_left 1
 . rintro W ⟨s0,s1,s2,s3,s4,s5⟩;go_simp;try with_reducible rfl
 simp only[Act.put,zIB,zSZ,zSS];refine tkH (i:=50) (oi:=⟨some 71,.binOp .lss 3 (.tmp 68) (.tmp 70) 3,4, "ref.go:71",#[⟨47,.data⟩,⟨49,.data⟩,⟨43,.guard⟩],some (43,false)⟩) (v:=?_) rfl ?_ hHeld ?_;rotate_left 1
 . rintro W ⟨s0,s1,s2,s3,s4,s5⟩;go_simp;try with_reducible rfl
 simp only[Act.put,zIB,zSZ,zSS];refine tkH (i:=51) (oi:=⟨some 72,.pick (.tmp 64) (.const (.bool true)) (.tmp 71),4, "ref.go:71",#[⟨43,.data⟩,⟨50,.data⟩],none⟩) (v:=?_) rfl ?_ hHeld ?_;rotate_left 1
 . rintro W ⟨s0,s1,s2,s3,s4,s5⟩;go_simp;try with_reducible rfl
 simp only[Act.put,zIB,zSZ,zSS];refine wpAnyH_done (by kernel_rfl) ?_ _;rw[<- HW3.out];clear HW3 t7 t7d t8d;have ha1:=HA1.out;subst ha1;have C2:=zA (rOne_any tx (W3.alloc (.cells #[.int .i64 0,.slice none 0 0,.slice none 0 0,.slice none 0 0] 36)) HTL.out);unfold OnE at C2;rw[HPK.out]at C2;obtain⟨pl,hpl⟩:∃pl,(onlyP tx).1=pl:=⟨_,rfl⟩
 rw[hpl]at C2;have HPL:=zA hpl;obtain⟨pb,hpb⟩:∃pb,W3.heap.size=pb:=⟨_,rfl⟩
 have HPB:=zA hpb;have hb34:Below W3.heap.size W3 (W3.alloc (.cells #[.int .i64 0,.slice none 0 0,.slice none 0 0,.slice none 0 0] 36)):=(zB W3.heap.size W3).alloc (zC _) _;have HT4:Hid (TkR T w e ao m cap b nb n (some ⟨g,o,none⟩) 4 c0 (some ⟨gt,ot,none⟩) 1 c1 a2 0 c2 (W3.alloc (.cells #[.int .i64 0,.slice none 0 0,.slice none 0 0,.slice none 0 0] 36))):=zA (HTD.out.keep hb34);have HBX:Hid ((W3.alloc (.cells #[.int .i64 0,.slice none 0 0,.slice none 0 0,.slice none 0 0] 36)).heap[pb]?=some (.cells #[.int .i64 0,.slice none 0 0,.slice none 0 0,.slice none 0 0] 36)):=zA (by rw[<- hpb];exact box_at W3 _);have HBP:Hid (b+1+1<=nb/\nb<pb):=zA ⟨HTD.out.nbb,by rw[<- hpb];exact lt_of_block HTD.out.nt⟩;have HSP:Hid ((W3.alloc (.cells #[.int .i64 0,.slice none 0 0,.slice none 0 0,.slice none 0 0] 36)).heap.size=pb+1):=zA (by rw[<- hpb];simp);obtain⟨⟨q0,-,q2,-⟩,-⟩:=HT4.out.cells;rw[HK.out]at q0;have q6:(W3.alloc (.cells #[.int .i64 0,.slice none 0 0,.slice none 0 0,.slice none 0 0] 36)).cell? ⟨gt,ot,none⟩=some (.string ⟨tx.toArray⟩):=by
  obtain⟨-,-,-,-,rt⟩:=own_read HT4.out.own;obtain⟨g2,o2,e2',hc⟩:=rt (by intro h0;have:=HTXT.out;rw[h0]at this;simp at this);injection e2' with e2';injection e2' with e3 e4;subst e3 e4;exact hc 0 tx HTXT.out
 clear hb34 HTK HTD hpl hpb;go_wp2_with fail;refine C2.out.mono ?_;clear C2;rintro y w5 ⟨v,rfl,hown5,hb5⟩;obtain⟨u0,v0,d0,u1,v1,d1,u2,v2,d2,rfl⟩:=own_parts hown5;obtain⟨W6,hW6⟩:∃W6,w5.alloc (.cells #[.int .i64 pl.kind,.slice u0 v0 d0,.slice u1 v1 d1,.slice u2 v2 d2] 36)=W6:=⟨_,rfl⟩
 have hb6:Below (W3.alloc (.cells #[.int .i64 0,.slice none 0 0,.slice none 0 0,.slice none 0 0] 36)).heap.size (W3.alloc (.cells #[.int .i64 0,.slice none 0 0,.slice none 0 0,.slice none 0 0] 36)) W6:=by rw[<- hW6];exact hb5.alloc hb5.size _
 have HT6p:Hid (TkR T w e ao m cap b nb n (some ⟨g,o,none⟩) 4 c0 (some ⟨gt,ot,none⟩) 1 c1 a2 0 c2 W6):=zA (HT4.out.keep hb6);have HBX6:Hid (W6.heap[pb]?=some (.cells #[.int .i64 0,.slice none 0 0,.slice none 0 0,.slice none 0 0] 36)):=zA ((hb6.block _ (lt_of_block HBX.out)).trans HBX.out);have HOW6:Hid (NoteOwn W6 (pb+1) (.agg #[.int .i64 pl.kind,.slice u0 v0 d0,.slice u1 v1 d1,.slice u2 v2 d2]) pl):=zA (by rw[<- HSP.out,<- hW6];exact hown5.below ((zB _ _).alloc (zC _) _));have HPX:Hid (W6.heap[w5.heap.size]?=some (.cells #[.int .i64 pl.kind,.slice u0 v0 d0,.slice u1 v1 d1,.slice u2 v2 d2] 36 (0,0))):=zA (by rw[<- hW6];exact box_at w5 _);have HW6:=zA hW6;obtain⟨pp,hpp⟩:∃pp,w5.heap.size=pp:=⟨_,rfl⟩
 have HPP:=zA hpp;clear hW6 hb6 hown5 hb5 hpp q0 q2 q6 HT4 HBX HSP;have HE:=zA (HT6p.out.same HT.out);have HZ:=zA (five_cells (set5_block HT6p.out.rs (.int .i64 e.ep) (.int .i64 e.ot) (.int .i64 e.fs) (.int .i64 e.wt) (.slice ao m cap))).1;obtain⟨⟨g0,g1,g2,g3,g4⟩,-⟩:=five_cells HT6p.out.lk;obtain⟨⟨y0,y1,y2,y3,y4⟩,⟨f0,f1,f2,f3,f4⟩⟩:=five_cells HT6p.out.rs;clear HT HT6p HBX6 HOW6 HPX;go_upto_region 8 with fail;rw[HW6.out];go_wp2;obtain⟨z0,z1,z2,z3,z4⟩:=HZ.out;refine bodyPost_ret (v:=.tuple #[rvE e (.slice ao m cap),.slice none 0 0,.slice none 0 0,.bool false]) ?_ rfl HE.out;simp[results,Try.results20,go_sem,z0,z1,z2,z3,z4]
end
end Go.Proofs.Ytjoddkeamboeoaa
