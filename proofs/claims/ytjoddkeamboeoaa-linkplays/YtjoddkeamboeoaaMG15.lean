/- WRead. -/
import Derived.Test.YtjoddkeamboeoaaMG14
import Derived.Deep.RegionLaw
set_option maxRecDepth 100000
namespace Go.Proofs.Ytjoddkeamboeoaa
open Go.RowKit
theorem infoInt:(Try.prog.info? 3).map (fun i=>(i.zero,i.size,i.bytes))=some (some (.int .i64 0),1,8):=by kernel_rfl
theorem infoRow:(Try.prog.info? 27).map (fun i=>(i.zero,i.size,i.bytes))=some (some (.slice none 0 0),1,24):=by kernel_rfl
theorem NInv.done{b:Nat}{w0 w:World}{s:St}{kind:Int}{vn vt vr:Value}{nums:List Int}{texts:List (List UInt8)}{rows:List (List (List UInt8))}(h:NInv b w0 w s kind vn vt vr nums texts rows)(u0 u1 u2 u3:Value)
 (h1:nums.length<=64) (h2:texts.length<=4096) (h3:rows.length<=4096) (h4:∀r∈rows,r.length<=4096):
 NoteOwn ((((w.setCell ⟨b+1,0,none⟩ u0).setCell ⟨b+1,1,none⟩ u1).setCell ⟨b+1,2,none⟩ u2).setCell ⟨b+1,3,none⟩ u3) b (.agg #[.int .i64 kind,vn,vt,vr]) ⟨kind,nums,texts,rows⟩/\
 Below b w0 ((((w.setCell ⟨b+1,0,none⟩ u0).setCell ⟨b+1,1,none⟩ u1).setCell ⟨b+1,2,none⟩ u2).setCell ⟨b+1,3,none⟩ u3):=by
 obtain⟨_,_,_,on,ot,orr,bel⟩:=h;have on2:=owns_set (u:=u3) (i:=3) (k:=b+1) (owns_set (u:=u2) (i:=2) (k:=b+1) (owns_set (u:=u1) (i:=1) (k:=b+1) (owns_set (u:=u0) (i:=0) (k:=b+1) on (by omega)) (by omega)) (by omega)) (by omega);have ot2:=owns_set (u:=u3) (i:=3) (k:=b+1) (owns_set (u:=u2) (i:=2) (k:=b+1) (owns_set (u:=u1) (i:=1) (k:=b+1) (owns_set (u:=u0) (i:=0) (k:=b+1) ot (by omega)) (by omega)) (by omega)) (by omega);have or2:=rowsOwn_set (u:=u3) (i:=3) (k:=b+1) (rowsOwn_set (u:=u2) (i:=2) (k:=b+1) (rowsOwn_set (u:=u1) (i:=1) (k:=b+1) (rowsOwn_set (u:=u0) (i:=0) (k:=b+1) orr (by omega)) (by omega)) (by omega)) (by omega);refine⟨NoteOwn.base (B:=b+6) ⟨vn,vt,vr,rfl,rowIn_own (by rw[intCs_len];exact on2),ot2,or2,h1,h2,h3,h4⟩ (by omega),(((bel.setCell (by simp only;omega) _).setCell (by simp only;omega) _).setCell (by simp only;omega) _).setCell (by simp only;omega) _⟩
theorem own_slice{w:World}{B n:Nat}{e:TypeId}{size:Nat}{v:Value}{xs:List Value}(h:w.ownsRow B e size v n xs):∃ao cap,v=.slice ao n cap:=by
 rcases h.2 with⟨rfl,rfl⟩|⟨g,cap,cur,rfl,_⟩
 . exact⟨_,_,rfl⟩
 . exact⟨_,_,rfl⟩
theorem own_oneCell{w:World}{B n:Nat}{e:TypeId}{size:Nat}{v:Value}{xs:List Value}(h:w.ownsRow B e size v n xs):v.oneCell'=true:=by
 rcases h.2 with⟨rfl,_⟩|⟨g,cap,cur,rfl,_⟩<;>rfl
theorem nums_snoc(i:Nat)(s:St):(numsS (i+1) s).1.map Int.ofNat=(numsS i s).1.map Int.ofNat++[((numP (numsS i s).2.b).1:Int)]:=by
 rw[numsS,List.map_append];rfl
set_option maxHeartbeats 4000000 in
theorem noteOf_any(l:List UInt8)(w:World)(hl:l.length<=1048576):
 Calls Try.prog 83 #[.string ⟨l.toArray⟩] w fun e w'=>Below w.heap.size w w'/\
  ((∃n v,readP l=some n/\e=.returned (.tuple #[v,.int .i64 0])/\NoteOwn w' w.heap.size v n)\/(readP l=none/\e=.returned (.tuple #[zeroN,.int .i64 31]))):=by
 have N0:=zA (nInv_start w l hl);have hst:∀(a:Addr) (m:Mode) (w:World) (fn:Fn) (f c:Array Value),(store a (.func fn f c) m).run Try.prog w=stored Try.prog w a (.func fn f c) m:=fun a m w fn f c=>run_store Try.prog w a _ m rfl
 obtain⟨i0,hi0,hz0,hz1,hz2⟩:=info_parts infoInt;obtain⟨j0,hj0,hy0,hy1,hy2⟩:=info_parts infoRow;go_enter Try.func83,Try.ntmps83;go_wp2_with fail;refine(numRead_any w.heap.size _ ⟨l,true⟩ N0.out.r).mono ?_;rintro e w1 ⟨rfl,hr1,hs1⟩;rw[<- rd1]at hr1;have n1:=N0.out.side hr1 hs1;obtain⟨⟨d0,d1,d2,d3⟩,⟨f0,f1,f2,f3⟩⟩:=four_cells n1.nb;have N1:=zA (n1.setKind (numP l).1);clear hst N0 hr1 hs1 n1;obtain⟨K,hK⟩:∃K,K=(numP l).1:=⟨_,rfl⟩
 rw[<- hK]at N1 ⊢;have HK:=zA hK;clear hK;go_wp2_with fail;refine(countRead_any w.heap.size _ (rd1 l) 64 N1.out.r).mono ?_;rintro e w2 ⟨rfl,hr2,hs2⟩;rw[<- rd2]at hr2 ⊢;have N2:=zA (N1.out.side hr2 hs2);have hc64:(rd2 l).1<=64:=by unfold rd2 St.count;split<;>simp only<;>omega
 obtain⟨C,hC⟩:∃C,C=(rd2 l).1:=⟨_,rfl⟩
 rw[<- hC]at hc64 ⊢;have HC:=zA hC;clear hC hr2 hs2 N1 d0 d1 d2 d3 f0 f1 f2 f3;go_wp2;go_loopw [19] (fun c wr=>∃(i:Nat) (vn:Value),i<=C/\c=.int .i64 i/\NInv w.heap.size w wr (numsS i (rd2 l).2).2 K vn (.slice none 0 0) (.slice none 0 0) ((numsS i (rd2 l).2).1.map Int.ofNat) [] []) (fun c _=>C-(intOf c).toNat)
 case atStart=>exact⟨0,_,zO _,rfl,N2.out⟩
 case round=>
  obtain⟨i,vn,hi,rfl,hin⟩:=hrel;have HI:=zA hin;clear hin N2;by_cases hlt:i<C
  . have hltI:(i:Int)<(C:Int):=by omega
    have hnl:((numsS i (rd2 l).2).1.map Int.ofNat).length=i:=by rw[List.length_map,numsS_len]
    obtain⟨⟨d0,d1,d2,d3⟩,⟨f0,f1,f2,f3⟩⟩:=four_cells HI.out.nb;have c5:=cell_of_one HI.out.r.num;go_wp2_with fail;go_region_law (first
     |(go_simp;refine(numRead_any w.heap.size _ _ HI.out.drew.r).mono ?_;rintro e w3 ⟨rfl,hr3,hs3⟩;have n3:=HI.out.drew.side hr3 hs3;have c6:=cell_of_one hr3.num;have hlt2:w.heap.size+1+1<w3.heap.size:=lt_of_block n3.nb;obtain⟨⟨e0,e1,e2,e3⟩,⟨k0,k1,k2,k3⟩⟩:=four_cells n3.nb)
     |(refine step_append_lies _ (by rfl) _ _ _ (by rfl) (w.heap.size+6) 3 i0 _ 1 8 Try.underlying33 hi0 hz0 hz1 hz2 rfl (by omega) vn _ _ (by rfl) (n3.on.alloc _) ⟨w3.heap.size,0,none⟩ 1 1 [.int .i64 _] (by rfl) (by rfl) (World.news_of_block (cs:=#[.int .i64 _]) (t:=3) (fr:=(0,0)) (heap_alloc_new w3 _)) (by simp[Value.oneCell']) (by omega) (by rw[hnl];unfold maxLen;omega) (by rw[hnl];omega) (by have:=lt_of_block n3.r.num;simp;omega) (w3.heap.size+1) (by simp) ?_;intro gg cap w4 hown4 hgrow hat hlt4;have n4:=n3.below ((zB _ _).alloc (zC _) (Obj.cells #[Value.int .i64 (numP (numsS i (rd2 l).2).2.b).1] 3));obtain⟨q1,q2,q3,q4⟩:=n4.grownNums hgrow;have c7:=cell_of_one q1.num;obtain⟨⟨m0,m1,m2,m3⟩,⟨j1,j2,j3,j4⟩⟩:=four_cells q3))
    all_goals (
     have n5:=n4.addNum hgrow hown4;rw[<- nums_snoc,hnl]at n5;have N5:=zA n5;clear n5 n4 hgrow hown4 hat hlt4 q1 q2 q3 q4 c7 m0 m1 m2 m3 j1 j2 j3 j4 hr3 hs3 n3 c6 hlt2 e0 e1 e2 e3 k0 k1 k2 k3 d0 d1 d2 d3 f0 f1 f2 f3 c5 HI hnl;go_wp2;go_roundw
     case rel=>exact⟨i+1,_,by omega,by go_num,N5.out⟩
     case measure=>simp[intOf];omega)
  . have hie:i=C:=by omega
    subst hie;have hin:=HI.out;rw[HC.out,<- rd3]at hin;have hn64:((rd3 l).1.map Int.ofNat).length<=64:=by rw[List.length_map,rd3,numsS_len,<- HC.out];exact hc64
    have N6:=zA hin;have HN64:=zA hn64;clear hin HI hn64;obtain⟨W6,hW6⟩:∃W,W=wr:=⟨_,rfl⟩
    subst hW6;go_wp2_with fail;refine(listRead_any w.heap.size _ (rd3 l).2 N6.out.r).mono ?_;rintro e w7 ⟨vt,rfl,ho7,hr7,hs7⟩;rw[<- rd4]at hr7;obtain⟨at7,cp7,rfl⟩:=own_slice ho7;have n7:=N6.out.side hr7 hs7;obtain⟨⟨d0,d1,d2,d3⟩,⟨f0,f1,f2,f3⟩⟩:=four_cells n7.nb;have N7:=zA (n7.setTexts ho7);have HTL:Hid ((listP (rd3 l).2.b).1.length<=4096):=zA (listP_len _);obtain⟨TS,hTS⟩:∃TS,TS=(listP (rd3 l).2.b).1:=⟨_,rfl⟩
    rw[<- hTS]at N7 HTL ⊢;have HTS:=zA hTS;clear hTS n7 ho7 hr7 hs7 N6;go_wp2_with fail;refine(countRead_any w.heap.size _ (rd4 l) 4096 N7.out.r).mono ?_;rintro e w8 ⟨rfl,hr8,hs8⟩;rw[<- rd5]at hr8 ⊢;have N8:=zA (N7.out.side hr8 hs8);have hc4:(rd5 l).1<=4096:=by unfold rd5 St.count;split<;>simp only<;>omega
    obtain⟨D,hD⟩:∃C,C=(rd5 l).1:=⟨_,rfl⟩
    rw[<- hD]at hc4 ⊢;have HD:=zA hD;clear hD hr8 hs8 N7 d0 d1 d2 d3 f0 f1 f2 f3 hlt hi;go_wp2;go_loopw [34] (fun c wr=>∃(j:Nat) (vr:Value),j<=D/\c=.int .i64 j/\NInv w.heap.size w wr (rowsS j (rd5 l).2).2 K vn (.slice at7 TS.length cp7) vr ((rd3 l).1.map Int.ofNat) TS (rowsS j (rd5 l).2).1) (fun c _=>D-(intOf c).toNat)
    case atStart=>exact⟨0,_,zO _,rfl,N8.out⟩
    case round=>
     obtain⟨j,vr,hj,rfl,hin⟩:=hrel;have HI:=zA hin;clear hin N8;by_cases hlt:j<D
     . have hltI:(j:Int)<(D:Int):=by omega
       have hnl:(rowsS j (rd5 l).2).1.length=j:=rowsS_len _ _;obtain⟨⟨d0,d1,d2,d3⟩,⟨f0,f1,f2,f3⟩⟩:=four_cells HI.out.nb;go_wp2_with fail;go_region_law (first
        |(refine step_append_lies _ (by rfl) _ _ _ (by rfl) (w.heap.size+6) 27 j0 _ 1 24 Try.underlying34 hj0 hy0 hy1 hy2 rfl (by omega) vr _ _ (by rfl) (hvs1.alloc _) ⟨w3.heap.size,0,none⟩ 1 1 [.slice at3 _ cp3] (by rfl) (by rfl) (World.news_of_block (cs:=#[.slice at3 _ cp3]) (t:=27) (fr:=(0,0)) (heap_alloc_new w3 _)) (by intro u hu;rw[zX]at hu;rw[hu];exact hx1) (by omega) (by rw[hnl];unfold maxLen;omega) (by rw[hnl];omega) (by have:=lt_of_block n3.r.num;simp;omega) (w3.heap.size+1) (by simp) ?_;intro gg cap w4 hown4 hgrow hat hlt4;have n4:=n3.below ((zB _ _).alloc (zC _) (Obj.cells #[.slice at3 (listP (rowsS j (rd5 l).2).2.b).1.length cp3] 27));obtain⟨q1,q2,q3,q4⟩:=n4.grownRows (hvs1.alloc _) hgrow;obtain⟨⟨m0,m1,m2,m3⟩,⟨j1,j2,j3,j4⟩⟩:=four_cells q3)
        |(go_simp;refine(listRead_any w.heap.size _ _ HI.out.drew.r).mono ?_;rintro e w3 ⟨x3,rfl,ho3,hr3,hs3⟩;obtain⟨at3,cp3,hx3⟩:=own_slice ho3;subst hx3;have n3:=HI.out.drew.side hr3 hs3;have hlt2:w.heap.size+1+1<w3.heap.size:=lt_of_block n3.nb;obtain⟨⟨e0,e1,e2,e3⟩,⟨k0,k1,k2,k3⟩⟩:=four_cells n3.nb;have hx1:=own_oneCell ho3;obtain⟨vs,hvs1,hvs2,hvs3⟩:=n3.orr))
       all_goals (
        have n5:=n4.addRow (hvs1.alloc _) hvs2 (fun a x r h1 h2=>(hvs3 a x r h1 h2).alloc _) (ho3.alloc _) hgrow hown4;rw[hnl]at n5;have N5:=zA n5;clear n5 n4 hgrow hown4 hat hlt4 q1 q2 q3 q4 m0 m1 m2 m3 j1 j2 j3 j4 hr3 hs3 n3 ho3 hx1 hvs1 hvs2 hvs3 hlt2 e0 e1 e2 e3 k0 k1 k2 k3 d0 d1 d2 d3 f0 f1 f2 f3 HI hnl;go_wp2;go_roundw
        case rel=>exact⟨j+1,_,by omega,by go_num,N5.out⟩
        case measure=>simp[intOf];omega)
     . have hje:j=D:=by omega
       subst hje;have hin:=HI.out;rw[HD.out,<- rd6]at hin;obtain⟨avn,lvn,cvn,rfl⟩:∃ao le cap,vn=.slice ao le cap:=by obtain⟨a,c,h⟩:=own_slice hin.on;exact⟨a,_,c,h⟩
       obtain⟨avr,lvr,cvr,rfl⟩:∃ao le cap,vr=.slice ao le cap:=by obtain⟨vs,h1,_⟩:=hin.orr;obtain⟨a,c,h⟩:=own_slice h1;exact⟨a,_,c,h⟩
       have hrl:(rd6 l).1.length<=4096:=by rw[rd6,rowsS_len,<- HD.out];exact hc4
       have hrs:∀r∈(rd6 l).1,r.length<=4096:=rowsS_sane _ _;have hnote:=hin.note HN64.out HTL.out hrl hrs;have eN:(⟨(K:Int),(rd3 l).1.map Int.ofNat,TS,(rd6 l).1⟩:NoteD)=rdNote l:=by rw[rdNote,HTS.out,HK.out]
       rw[eN]at hnote;have NN:=zA hnote;have HEN:=zA eN;have HRL:=zA hrl;have HRS:=zA hrs;have N9:=zA hin;have c0:=cell_of_one hin.r.body;have c3:=cell_of_one hin.r.whole;obtain⟨⟨d0,d1,d2,d3⟩,_⟩:=four_cells hin.nb;obtain⟨⟨r0,r1,r2,r3⟩,⟨f0,f1,f2,f3⟩⟩:=four_cells hin.res;obtain⟨W9,hW9⟩:∃W,W=wr:=⟨_,rfl⟩
       subst hW9;have hne:=zA (show w.heap.size+2≠w.heap.size+1 by omega);clear hin hrl hrs hnote eN HI hlt hj hc4 hc64 hi0 hz0 hz1 hz2 hj0 hy0 hy1 hy2;rcases rd_read l hl with⟨⟨g1,g2,g3,g4⟩,hread⟩|⟨hno,hread⟩
       . have HREAD:=zA hread;have e3:Hid (decide (rdNote l).numsOk=true):=zA (zM g3);have e4:Hid (decide (rdNote l).textsFit=true):=zA (zM g4);rw[g2]at c0;rw[g1]at c3;clear g1 g2 g3 g4 hread;go_wp2_with fail;refine(numsMayBe_any _ (rdNote l) _ NN.out).mono ?_;rintro e w10 ⟨rfl,hb10⟩;rw[e3.out];have N10:=zA (N9.out.below hb10);have NN10:=zA (NN.out.below hb10);clear hb10 c0 c3 d0 d1 d2 d3 r0 r1 r2 r3 f0 f1 f2 f3;obtain⟨⟨d0,d1,d2,d3⟩,_⟩:=four_cells N10.out.nb;go_wp2_with fail;refine(textsMayBe_any _ (rdNote l) _ NN10.out (rd_sane l)).mono ?_;rintro e w11 ⟨rfl,hb11⟩;rw[e4.out];have N11:=zA (N10.out.below hb11);have NN11:=zA (NN10.out.below hb11);clear hb11 d0 d1 d2 d3;obtain⟨⟨d0,d1,d2,d3⟩,_⟩:=four_cells N11.out.nb;obtain⟨⟨r0,r1,r2,r3⟩,⟨f0,f1,f2,f3⟩⟩:=four_cells N11.out.res;obtain⟨⟨z0,z1,z2,z3⟩,_⟩:=four_cells (four_set3 (v:=.slice avr lvr cvr) (four_set2 (v:=.slice at7 TS.length cp7) (four_set1 (v:=.slice avn lvn cvn) (four_set0 (v:=.int .i64 K) N11.out.res))));have Z0:=zA z0;have Z1:=zA z1;have Z2:=zA z2;have Z3:=zA z3;clear z0 z1 z2 z3;have D11:=zA (N11.out.done (.int .i64 K) (.slice avn lvn cvn) (.slice at7 TS.length cp7) (.slice avr lvr cvr) HN64.out HTL.out HRL.out HRS.out);rw[HEN.out]at D11;go_wp2;refine bodyPost_ret (v:=.tuple #[.agg #[.int .i64 K,.slice avn lvn cvn,.slice at7 TS.length cp7,.slice avr lvr cvr],.int .i64 0]) ?_ rfl ⟨D11.out.2,.inl ⟨rdNote l,_,HREAD.out,rfl,D11.out.1⟩⟩;simp[results,Try.results83,go_sem,Z0.out,Z1.out,Z2.out,Z3.out]
       . have HREAD:=zA hread;clear hread;cases hok:(rd6 l).2.ok with
         |false=>
          rw[hok]at c3;clear hok hno r0 r1 r2 r3 f0 f1 f2 f3;obtain⟨⟨z0,z1,z2,z3⟩,_⟩:=four_cells (four_set3 (v:=.slice none 0 0) (four_set2 (v:=.slice none 0 0) (four_set1 (v:=.slice none 0 0) (four_set0 (v:=.int .i64 0) N9.out.res))));obtain⟨⟨r0,r1,r2,r3⟩,⟨f0,f1,f2,f3⟩⟩:=four_cells N9.out.res;have DX:=zA (N9.out.done (.int .i64 0) (.slice none 0 0) (.slice none 0 0) (.slice none 0 0) HN64.out HTL.out HRL.out HRS.out).2;have Z0:=zA z0;have Z1:=zA z1;have Z2:=zA z2;have Z3:=zA z3;clear z0 z1 z2 z3;go_wp2;refine bodyPost_ret (v:=.tuple #[zeroN,.int .i64 31]) ?_ rfl ⟨DX.out,.inr ⟨HREAD.out,rfl⟩⟩;simp[results,Try.results83,go_sem,Z0.out,Z1.out,Z2.out,Z3.out]
         |true=>
          rw[hok]at c3;by_cases hbe:(rd6 l).2.b=[]
          . rw[hbe]at c0;by_cases hnum:(rdNote l).numsOk
            . have e3:Hid (decide (rdNote l).numsOk=true):=zA (zM hnum);have e4:Hid (decide (rdNote l).textsFit=false):=zA (decide_eq_false (fun h=>hno ⟨hok,hbe,hnum,h⟩));clear hok hbe hnum hno;go_wp2_with fail;refine(numsMayBe_any _ (rdNote l) _ NN.out).mono ?_;rintro e w10 ⟨rfl,hb10⟩;rw[e3.out];have N10:=zA (N9.out.below hb10);have NN10:=zA (NN.out.below hb10);clear hb10 c0 c3 d0 d1 d2 d3 r0 r1 r2 r3 f0 f1 f2 f3;obtain⟨⟨d0,d1,d2,d3⟩,_⟩:=four_cells N10.out.nb;go_wp2_with fail;refine(textsMayBe_any _ (rdNote l) _ NN10.out (rd_sane l)).mono ?_;rintro e w11 ⟨rfl,hb11⟩;rw[e4.out];have N11:=zA (N10.out.below hb11);clear hb11 d0 d1 d2 d3;obtain⟨⟨z0,z1,z2,z3⟩,_⟩:=four_cells (four_set3 (v:=.slice none 0 0) (four_set2 (v:=.slice none 0 0) (four_set1 (v:=.slice none 0 0) (four_set0 (v:=.int .i64 0) N11.out.res))));obtain⟨⟨r0,r1,r2,r3⟩,⟨f0,f1,f2,f3⟩⟩:=four_cells N11.out.res;have DX:=zA (N11.out.done (.int .i64 0) (.slice none 0 0) (.slice none 0 0) (.slice none 0 0) HN64.out HTL.out HRL.out HRS.out).2;have Z0:=zA z0;have Z1:=zA z1;have Z2:=zA z2;have Z3:=zA z3;clear z0 z1 z2 z3;go_wp2;refine bodyPost_ret (v:=.tuple #[zeroN,.int .i64 31]) ?_ rfl ⟨DX.out,.inr ⟨HREAD.out,rfl⟩⟩;simp[results,Try.results83,go_sem,Z0.out,Z1.out,Z2.out,Z3.out]
            . have e3:Hid (decide (rdNote l).numsOk=false):=zA (decide_eq_false hnum);clear hok hbe hnum hno;go_wp2_with fail;refine(numsMayBe_any _ (rdNote l) _ NN.out).mono ?_;rintro e w10 ⟨rfl,hb10⟩;rw[e3.out];have N10:=zA (N9.out.below hb10);clear hb10 c0 c3 d0 d1 d2 d3 r0 r1 r2 r3 f0 f1 f2 f3;obtain⟨⟨z0,z1,z2,z3⟩,_⟩:=four_cells (four_set3 (v:=.slice none 0 0) (four_set2 (v:=.slice none 0 0) (four_set1 (v:=.slice none 0 0) (four_set0 (v:=.int .i64 0) N10.out.res))));obtain⟨⟨r0,r1,r2,r3⟩,⟨f0,f1,f2,f3⟩⟩:=four_cells N10.out.res;have DX:=zA (N10.out.done (.int .i64 0) (.slice none 0 0) (.slice none 0 0) (.slice none 0 0) HN64.out HTL.out HRL.out HRS.out).2;have Z0:=zA z0;have Z1:=zA z1;have Z2:=zA z2;have Z3:=zA z3;clear z0 z1 z2 z3;go_wp2;refine bodyPost_ret (v:=.tuple #[zeroN,.int .i64 31]) ?_ rfl ⟨DX.out,.inr ⟨HREAD.out,rfl⟩⟩;simp[results,Try.results83,go_sem,Z0.out,Z1.out,Z2.out,Z3.out]
          . have hbe2:((rd6 l).2.b==[])=false:=by rw[beq_eq_false_iff_ne];exact hbe
            clear hok hno r0 r1 r2 r3 f0 f1 f2 f3;obtain⟨⟨z0,z1,z2,z3⟩,_⟩:=four_cells (four_set3 (v:=.slice none 0 0) (four_set2 (v:=.slice none 0 0) (four_set1 (v:=.slice none 0 0) (four_set0 (v:=.int .i64 0) N9.out.res))));obtain⟨⟨r0,r1,r2,r3⟩,⟨f0,f1,f2,f3⟩⟩:=four_cells N9.out.res;have DX:=zA (N9.out.done (.int .i64 0) (.slice none 0 0) (.slice none 0 0) (.slice none 0 0) HN64.out HTL.out HRL.out HRS.out).2;have Z0:=zA z0;have Z1:=zA z1;have Z2:=zA z2;have Z3:=zA z3;clear z0 z1 z2 z3;go_wp2;refine bodyPost_ret (v:=.tuple #[zeroN,.int .i64 31]) ?_ rfl ⟨DX.out,.inr ⟨HREAD.out,rfl⟩⟩;simp[results,Try.results83,go_sem,Z0.out,Z1.out,Z2.out,Z3.out]
end Go.Proofs.Ytjoddkeamboeoaa
