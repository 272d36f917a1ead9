/- ERPlay. -/
import Derived.Test.YtjoddkeamboeoaaMG38
import Derived.Test.YtjoddkeamboeoaaMG49
import Derived.Deep.CutRange
set_option maxRecDepth 100000
namespace Go.Proofs.Ytjoddkeamboeoaa
open Go.RowKit Go.Shelf Go.Joins
theorem opL_get{w:World}{ao:Option Addr}{os:List OpL}(h:os=[]\/∃b o,ao=some ⟨b,o,none⟩/\b<w.heap.size/\∀(j:Nat) p,os[j]?=some p->∃c2 c3 c4 c6,
 w.cell? ⟨b,o+j*8,none⟩=some (.int .i64 p.kind)/\w.cell? ⟨b,o+j*8+1,none⟩=some (.int .i64 p.n.kind)/\w.cell? ⟨b,o+j*8+2,none⟩=some c2/\w.cell? ⟨b,o+j*8+3,none⟩=some c3/\w.cell? ⟨b,o+j*8+4,none⟩=some c4/\w.cell? ⟨b,o+j*8+5,none⟩=some (.string ⟨p.text.toArray⟩)/\w.cell? ⟨b,o+j*8+6,none⟩=some c6/\w.cell? ⟨b,o+j*8+7,none⟩=some (.int .i64 p.number)/\
 OpLAt w (.agg #[.int .i64 p.kind,.int .i64 p.n.kind,c2,c3,c4,.string ⟨p.text.toArray⟩,c6,.int .i64 p.number]) p) {j:Nat} {p:OpL} (hj:os[j]?=some p):∃b o c2 c3 c4 c6,ao=some ⟨b,o,none⟩/\b<w.heap.size/\
 w.cell? ⟨b,o+j*8,none⟩=some (.int .i64 p.kind)/\w.cell? ⟨b,o+j*8+1,none⟩=some (.int .i64 p.n.kind)/\w.cell? ⟨b,o+j*8+2,none⟩=some c2/\w.cell? ⟨b,o+j*8+3,none⟩=some c3/\w.cell? ⟨b,o+j*8+4,none⟩=some c4/\w.cell? ⟨b,o+j*8+5,none⟩=some (.string ⟨p.text.toArray⟩)/\w.cell? ⟨b,o+j*8+6,none⟩=some c6/\w.cell? ⟨b,o+j*8+7,none⟩=some (.int .i64 p.number)/\
 OpLAt w (.agg #[.int .i64 p.kind,.int .i64 p.n.kind,c2,c3,c4,.string ⟨p.text.toArray⟩,c6,.int .i64 p.number]) p:=by
 rcases h with h|⟨b,o,h1,h2,h3⟩
 . rw[h]at hj;simp at hj
 . obtain⟨c2,c3,c4,c6,h4⟩:=h3 j p hj;exact⟨b,o,c2,c3,c4,c6,h1,h2,h4⟩
theorem eight_cells{w:World}{b:Nat}{c0 c1 c2 c3 c4 c5 c6 c7:Value}{t:TypeId}(h:w.heap[b]?=some (.cells #[c0,c1,c2,c3,c4,c5,c6,c7] t (0,0))):w.cell? ⟨b,0,none⟩=some c0/\w.cell? ⟨b,1,none⟩=some c1/\w.cell? ⟨b,2,none⟩=some c2/\w.cell? ⟨b,3,none⟩=some c3/\w.cell? ⟨b,4,none⟩=some c4/\w.cell? ⟨b,5,none⟩=some c5/\w.cell? ⟨b,6,none⟩=some c6/\w.cell? ⟨b,7,none⟩=some c7:=by
 simp[World.cell?,h]
theorem opL_slices{w:World}{kd nk nu:Int}{d2 d3 d4 d6:Value}{s:ByteArray}{o:OpL}(h:OpLAt w (.agg #[.int .i64 kd,.int .i64 nk,d2,d3,d4,.string s,d6,.int .i64 nu]) o):(∃a l c,d2=.slice a l c)/\(∃a l c,d3=.slice a l c)/\(∃a l c,d4=.slice a l c)/\(∃a l c,d6=.slice a l c)/\NoteAt w (.agg #[.int .i64 o.n.kind,d2,d3,d4]) o.n/\o.n.sane:=by
 obtain⟨x1,x2,x3,vi,hag,hna,hsn,hia,-⟩:=h;simp only[Value.agg.injEq,Array.mk.injEq,List.cons.injEq,and_true]at hag;obtain⟨-,-,rfl,rfl,rfl,-,rfl,-⟩:=hag;refine⟨?_,?_,?_,?_,hna,hsn⟩;all_goals (try (obtain⟨y1,y2,y3,e,h1,h2,h3⟩:=hna;simp only[Value.agg.injEq,Array.mk.injEq,List.cons.injEq,and_true,true_and]at e;obtain⟨rfl,rfl,rfl⟩:=e))
 . obtain⟨_,a,c,rfl,_⟩:=h1;exact⟨_,_,_,rfl⟩
 . obtain⟨_,a,c,rfl,_⟩:=h2;exact⟨_,_,_,rfl⟩
 . obtain⟨_,a,c,_,rfl,_⟩:=h3.parts;exact⟨_,_,_,rfl⟩
 . obtain⟨_,a,c,rfl,_⟩:=hia;exact⟨_,_,_,rfl⟩
theorem oneT_strs{w:World}{B:Nat}{v:Value}{ls:List (List UInt8)}(h:OneT w B v ls):StrsAt w v ls:=by
 rcases h with⟨rfl,rfl⟩|⟨g,t,rfl,rfl,-,h4⟩
 . exact⟨by simp,none,0,rfl,.inl rfl⟩
 . refine⟨by simp,some ⟨g,0,none⟩,1,rfl,.inr ⟨g,0,rfl,lt_of_block h4,fun j x hj=>?_⟩⟩
   match j with
   |0=>
    simp only[List.getElem?_cons_zero,Option.some.injEq]at hj;subst hj;simp[World.cell?,h4]
   |j+1=>simp at hj
theorem OpLAt.below{w w':World}{v:Value}{o:OpL}(h:OpLAt w v o)(hb:Below w.heap.size w w'):OpLAt w' v o:=by
 obtain⟨x1,x2,x3,vi,e,h1,h2,h3,h4⟩:=h;exact⟨x1,x2,x3,vi,e,h1.below hb,h2,h3.below hb,h4⟩
theorem lb_new{S:Nat->Prop}{W:World}{b k:Nat}(hk:LBlk W b (.slice none 0 0) (newE k))(h1:(newE k).ok)(hs:¬S b):LB S W b (.slice none 0 0) (newE k):=
 ⟨hk,hs,QRow.nil _,fun g hg=>(by cases hg),fun g hg=>(by cases hg),by simp[Value.ownBlock],h1⟩
abbrev zL:Obj:=.cells #[.int .i64 0,.int .i64 0,.int .i64 0,.int .i64 0,.slice none 0 0] 29
set_option maxHeartbeats 8000000 in
theorem linkPlays_walk(kk:Int)(vs:Value)(os:List OpL)(w:World)(_hk:(Lit.int .i64 kk).wf=true)(hv:OpLsAt w vs os):
 Calls Try.prog 3 #[.int .i64 kk,vs] w fun e w'=>e=.returned (.bool true)/\Below w.heap.size w w':=by
 obtain⟨hol,a2,c2,rfl,hos⟩:=hv;obtain⟨on,hn⟩:∃n,n=os.length:=⟨_,rfl⟩
 rw[<- hn]at hol ⊢;have HN:=zA hn;have HOS:=zA hos;have CN:Hid (Calls Try.prog 9 #[.int .i64 kk] w (NewE kk w)):=zA (new_any kk w);unfold NewE at CN;have CR:Hid (∀X,Calls Try.prog 10 #[.int .i64 kk] X (RNewE kk X)):=zA (fun X=>rNew_any kk X);unfold RNewE at CR;have CAW:=zA (fun w=>awake_any w);clear hn hos;go_enter Try.func3,Try.ntmps3;go_wp2_with fail;refine CN.out.mono ?_;rintro e w1 ⟨hb1,⟨hno,rfl⟩|⟨hep,b,rfl,hbb,hbl⟩⟩
 . have HB1:=zA hb1;have HNO:=zA hno;clear hb1 hno;go_wp2_with fail;refine(CR.out w1).mono ?_;rintro e w2 ⟨hb2,⟨-,rfl⟩|⟨hyes,-⟩⟩
   . have b3:Below w2.heap.size w2 (w2.alloc zL):=(zB _ _).alloc (zC _) _;have hb3:=hb2.trans (b3.mono hb2.size);have HB3:Hid (Below w.heap.size w (w2.alloc zL)):=zA (HB1.out.trans (hb3.mono HB1.out.size));have C:=zA (CAW.out (w2.alloc zL));clear hb2 b3 hb3 CR CN;go_wp2_with fail;refine C.out.mono ?_;rintro e w3 ⟨rfl,hb4⟩;have HB4:Hid (Below w.heap.size w w3):=zA (HB3.out.trans (hb4.mono HB3.out.size));clear hb4 C;go_wp2;go_ret;exact⟨rfl,HB4.out⟩
   . exact absurd hyes HNO.out
 obtain⟨kn,rfl⟩:∃kn:Nat,kk=(kn:Int):=⟨kk.toNat,by have:=hep.1;omega⟩
 rw[Int.toNat_natCast]at hbl;have HB1:=zA hb1;have HEP:=zA hep;have HBL:=zA hbl;have HBB:=zA hbb;clear hb1 hep hbl hbb CN;go_wp2_with fail;refine(CR.out w1).mono ?_;rintro e w2 ⟨hb2,⟨hno,-⟩|⟨-,rfl⟩⟩
 . exact absurd HEP.out hno
 have hok:(newE kn).ok:=newE_ok (by have:=HEP.out.1;omega) (by have:=HEP.out.2;omega);obtain⟨W3,hW3⟩:∃W3,W3=w2.alloc (.cells #[.int .i64 (kn:Int),.int .i64 0,.int .i64 1,.int .i64 1,.slice none 0 0] 29):=⟨_,rfl⟩
 have b3:Below w2.heap.size w2 W3:=by rw[hW3];exact(zB _ _).alloc (zC _) _
 have hq3:W3.heap[w2.heap.size]?=some (.cells #[.int .i64 (kn:Int),.int .i64 0,.int .i64 1,.int .i64 1,.slice none 0 0] 29):=by rw[hW3];exact box_at _ _
 have hb3:=hb2.trans (b3.mono hb2.size);obtain⟨rb,hrb⟩:∃rb,rb=w2.heap.size:=⟨_,rfl⟩
 rw[<- hrb]at hq3;have hl1:LB (fun k=>k<w.heap.size) w1 b (.slice none 0 0) (newE kn):=lb_new HBL.out hok (by have:=HBB.out;omega);have hlow1:Low (fun k=>k<w.heap.size) w1:=fun k hk=>zF hk HB1.out.size
 have HST:Hid (PM w (Nw (fun k=>k<w.heap.size) w1 W3) W3 b rb (newE kn) (newE kn) (.slice none 0 0)):=zA
  {lb:=⟨_,hl1.nw hb3⟩,q:=hq3,rS:=.inr ⟨by rw[hrb];exact hb2.size,lt_of_block hq3⟩,tx:=⟨none,0,rfl,fun _=>⟨rfl,rfl⟩,by simp[newE],.inl rfl⟩,low:=nw_low hlow1 hb3,sub:=fun k hk=>.inl hk,bel:=HB1.out.trans (hb3.mono HB1.out.size),r0:=by rw[hrb];exact zS HB1.out.size hb2.size }
 have HW3:=zA hW3;have HRB:=zA hrb;clear hb2 b3 hq3 hb3 hW3 hrb CR HBL HBB hl1 hlow1 hok;go_wp2_with fail;rw[<- HW3.out,<- HRB.out];go_loopw [9] (fun ci wr=>∃(i:Nat) (e:En) (lq:Value) (S:Nat->Prop),i<=100/\i<=on/\ci=.int .i64 (i:Int)/\PM w S wr b rb e e lq) (fun ci _=>100-(intOf ci).toNat)
 case atStart=>exact⟨0,_,_,_,by omega,by omega,rfl,HST.out⟩
 case round=>
  obtain⟨i,e,lq,S,hi3,hin,rfl,hst⟩:=hrel;obtain⟨wx,hwx⟩:∃wx,wx=wr:=⟨_,rfl⟩
  subst hwx;have HX:=zA hst;clear hst HST;by_cases hlt:i<on
  . have hltI:(i:Int)<(on:Int):=by omega
    by_cases hlt3:i<100
    . have hlt3I:(i:Int)<100:=by omega
      obtain⟨o,ho⟩:∃o,os[i]?=some o:=⟨_,zD (by rw[<- HN.out];exact hlt)⟩
      obtain⟨g,off,d2,d3,d4,d6,rfl,hg,r0,r1,r2,r3,r4,r5,r6,r7,hO⟩:=opL_get HOS.out ho;have cv:∀k,w.cell? ⟨g,k,none⟩=wx.cell? ⟨g,k,none⟩:=fun k=>(HX.out.bel.cell hg).symm
      rw[cv]at r0 r1 r2 r3 r4 r5 r6 r7;obtain⟨kd,hkd⟩:∃x:Int,x=o.kind:=⟨_,rfl⟩
      obtain⟨nk,hnk⟩:∃x:Int,x=o.n.kind:=⟨_,rfl⟩
      obtain⟨nu,hnu⟩:∃x:Int,x=o.number:=⟨_,rfl⟩
      obtain⟨s,hs⟩:∃s:ByteArray,s=⟨o.text.toArray⟩:=⟨_,rfl⟩
      have hsz:s.size=o.text.length:=by rw[hs];exact size_list _
      rw[<- hkd]at r0;rw[<- hnk]at r1;rw[<- hs]at r5;rw[<- hnu]at r7;rw[<- hkd,<- hnk,<- hs,<- hnu]at hO;obtain⟨⟨n0,n1,n2,rfl⟩,⟨t0,t1,t2,rfl⟩,⟨w0,w1',w2',rfl⟩,⟨m0,m1,m2,rfl⟩,hna,hsn⟩:=opL_slices hO;obtain⟨WO,hWO⟩:∃WO,WO=wx.alloc (.cells #[.int .i64 kd,.int .i64 nk,(.slice n0 n1 n2),(.slice t0 t1 t2),(.slice w0 w1' w2'),.string s,(.slice m0 m1 m2),.int .i64 nu] 38):=⟨_,rfl⟩
      have bO:Below wx.heap.size wx WO:=by rw[hWO];exact(zB _ _).alloc (zC _) _
      have qO:WO.heap[wx.heap.size]?=some (.cells #[.int .i64 kd,.int .i64 nk,(.slice n0 n1 n2),(.slice t0 t1 t2),(.slice w0 w1' w2'),.string s,(.slice m0 m1 m2),.int .i64 nu] 38):=by rw[hWO];exact box_at _ _
      obtain⟨oo,hoo⟩:∃oo,oo=wx.heap.size:=⟨_,rfl⟩
      obtain⟨S1,hS1⟩:∃S1,S1=Nw S wx WO:=⟨_,rfl⟩
      have HO:Hid (PM w S1 WO b rb e e lq):=zA (by rw[hS1];exact HX.out.nw bO);have HQO:Hid (WO.heap[oo]?=some (.cells #[.int .i64 kd,.int .i64 nk,(.slice n0 n1 n2),(.slice t0 t1 t2),(.slice w0 w1' w2'),.string s,(.slice m0 m1 m2),.int .i64 nu] 38)):=zA (by rw[hoo];exact qO);have HSO:Hid (S1 oo):=zA (by rw[hS1,hoo];exact .inr ⟨zC _,lt_of_block qO⟩);have HOP:Hid (OpLAt w (.agg #[.int .i64 kd,.int .i64 nk,(.slice n0 n1 n2),(.slice t0 t1 t2),(.slice w0 w1' w2'),.string s,(.slice m0 m1 m2),.int .i64 nu]) o):=zA hO;have HNA:Hid (NoteAt w (.agg #[.int .i64 o.n.kind,(.slice n0 n1 n2),(.slice t0 t1 t2),(.slice w0 w1' w2')]) o.n):=zA hna;have HSN:=zA hsn;have HWO:=zA hWO;have HOE:=zA hoo;have HS:=zA hs;have HSZ:=zA hsz;have HNK:=zA hnk;have HKD:=zA hkd;have CL:=zA (lightL_any (.agg #[.int .i64 nk,(.slice n0 n1 n2),(.slice t0 t1 t2),(.slice w0 w1' w2')]) o.n WO (by rw[hnk];exact(HNA.out.below HO.out.bel)));clear ho hkd hnk hnu hs hsz hWO bO qO hoo hS1 hna hsn hO cv;obtain⟨y0,y1,y2,y3,y4,y5,y6,y7⟩:=eight_cells HQO.out;rw[HWO.out,HOE.out]at y0 y1 y2 y3 y4 y5 y6 y7;rw[<- HWO.out]at y0 y1 y2 y3 y4 y5 y6 y7;go_upto_region 11 with fail;rw[<- HWO.out];go_cut [68]from 45 to 156 (fun c wz=>∃cb:Bool,c=.bool cb/\(cb=false->s.size<=4096)/\Hid (Below WO.heap.size WO wz))
      case first=>
       go_wp2_with fail;refine CL.out.mono ?_;rintro e wl ⟨⟨bl,rfl⟩,hbl⟩;have HBl:=zA hbl;obtain⟨y0,y1,y2,y3,y4,y5,y6,y7⟩:=eight_cells ((hbl.block _ (lt_of_block HQO.out)).trans HQO.out);rw[HOE.out]at y0 y1 y2 y3 y4 y5 y6 y7;clear hbl;cases bl
       . go_wp2_with fail;go_meet;exact⟨true,rfl,fun h=>(by cases h),HBl⟩
       . by_cases ht:4096<s.size
         . have ht1:(4096:Int)<(s.size:Int):=by omega
           go_wp2_with fail;go_meet;exact⟨true,rfl,fun h=>(by cases h),HBl⟩
         . have ht1:¬(4096:Int)<(s.size:Int):=by omega
           go_wp2_with fail;go_meet;exact⟨false,congrArg Value.bool (decide_eq_false (by omega)),fun _=>by omega,HBl⟩
      obtain⟨cb,rfl,hcb,HBl⟩:=hcut;clear CL y0 y1 y2 y3 y4 y5 y6 y7;have HCB:=zA hcb;clear hcb;cases cb
      . have HC:Hid (PM w S1 wc b rb e e lq):=zA (HO.out.below HBl.out);have HQC:Hid (wc.heap[oo]?=_):=zA ((HBl.out.block _ (lt_of_block HQO.out)).trans HQO.out);have hts:s.size<=4096:=HCB.out rfl;have HTS:=zA hts;obtain⟨vq,hl⟩:=HC.out.lb;obtain⟨y0,y1,y2,y3,y4,y5,y6,y7⟩:=eight_cells HQC.out;rw[HOE.out]at y0 y1 y2 y3 y4 y5 y6 y7;have HLB:=zA hl;clear hts hl HO HBl HCB HQO HX HWO;by_cases hk1:kd=1
        . subst hk1;have CP:=zA (putL_any HLB.out HC.out.low (.agg #[.int .i64 nk,.slice n0 n1 n2,.slice t0 t1 t2,.slice w0 w1' w2']) o.n (by rw[HNK.out];exact HNA.out.below HC.out.bel) HSN.out);unfold PtE at CP;go_wp2_with fail;refine CP.out.mono ?_;clear CP;rintro x w3 ⟨⟨a0,l0,c0,rfl,hps,vq',hl3⟩,hf3⟩;obtain⟨e',he'⟩:∃e',e'=(putE e o.n).1:=⟨_,rfl⟩
          obtain⟨er,her⟩:∃er,er=(putE e o.n).2.2:=⟨_,rfl⟩
          obtain⟨ps,hpsl⟩:∃ps,ps=(putE e o.n).2.1:=⟨_,rfl⟩
          rw[<- he']at hl3;rw[<- hpsl]at hps;rw[<- her];have HP3:Hid (PM w S1 w3 b rb e' e lq):=zA (HC.out.prog (hl3.sub (fun _ hk=>.inl hk)) hf3);have HPS:=zA hps;have CR:=zA (rPut_any HP3.out.tx HP3.out.low HLB.out.ok (.agg #[.int .i64 nk,.slice n0 n1 n2,.slice t0 t1 t2,.slice w0 w1' w2']) o.n (by rw[HNK.out];exact HNA.out.below HP3.out.bel));unfold RPutE at CR;rw[<- he',<- her,<- hpsl]at CR;obtain⟨y0,y1,y2,y3,y4,y5,y6,y7⟩:=eight_cells ((hf3.block _ HSO.out).trans HQC.out);rw[HOE.out]at y0 y1 y2 y3 y4 y5 y6 y7;obtain⟨⟨z0,z1,z2,z3,z4⟩,-⟩:=five_cells HP3.out.q;obtain⟨qa,qc,hqs⟩:=HP3.out.slice;clear hps hf3 hl3 he' her hpsl;subst hqs;go_wp2_with fail;refine CR.out.mono ?_;clear CR;rintro x w4 ⟨lq',b0,m0',k0,rfl,htx,hps2,hb4⟩;obtain⟨qa',qc',hlq⟩:∃a c,lq'=.slice a e'.q.length c:=by
           obtain⟨a,c,h,-⟩:=htx;exact⟨a,c,h⟩
          obtain⟨W5,hW5⟩:∃W5,W5=w4.alloc (.cells #[.int .i64 e'.ep,.int .i64 e'.ot,.int .i64 e'.fs,.int .i64 e'.wt,lq'] 29):=⟨_,rfl⟩
          have b5:Below w4.heap.size w4 W5:=by rw[hW5];exact(zB _ _).alloc (zC _) _
          have n5:W5.heap[w4.heap.size]?=some (.cells #[.int .i64 e'.ep,.int .i64 e'.ot,.int .i64 e'.fs,.int .i64 e'.wt,lq'] 29):=by rw[hW5];exact box_at _ _
          have hb5:=hb4.trans (b5.mono hb4.size);obtain⟨S6,hS6⟩:∃S6,S6=Nw S1 w3 W5:=⟨_,rfl⟩
          have HP5:Hid (PM w S6 W5 b rb e' e (.slice qa e.q.length qc)):=zA (by rw[hS6];exact HP3.out.nw hb5);have HT5:Hid (TxR S6 W5 lq' e'.q):=zA (by rw[hS6];exact htx.keep (fun _ _ hg ho=>⟨hg.elim .inl (fun h=>.inr ⟨h.1,zF h.2 b5.size⟩),(b5.block _ (lt_of_block ho)).trans ho⟩));have CSm:=zA (same_any _ _ ps ps W5 (oneT_strs (HPS.out.keep (fun k o _ h=>(hb5.block k (lt_of_block h)).trans h))) (oneT_strs (hps2.keep (fun k o _ h=>(b5.block k (lt_of_block h)).trans h))));rw[zM rfl]at CSm;have HN5:=zA n5;have HW5:=zA hW5;obtain⟨nb,hnb⟩:∃nb,nb=w4.heap.size:=⟨_,rfl⟩
          have HNB:=zA hnb;clear htx hps2 hb4 b5 n5 hb5 hS6 hW5 HP3 HPS hnb y0 y1 y2 y3 y4 y5 y6 y7 z0 z1 z2 z3 z4;subst hlq;go_upto_region 25 with fail;rw[<- HW5.out,<- HNB.out];go_wp2_with fail;refine CSm.out.mono ?_;clear CSm;rintro x w6 ⟨rfl,hb6⟩;have HP6:Hid (PM w S6 w6 b rb e' e (.slice qa e.q.length qc)):=zA (HP5.out.below hb6);have HT6:Hid (TxR S6 w6 (.slice qa' e'.q.length qc') e'.q):=zA (HT5.out.below hb6);obtain⟨⟨u0,u1,u2,u3,u4⟩,-⟩:=five_cells (by have h:=HN5.out;rw[<- HNB.out]at h;exact(hb6.block _ (lt_of_block h)).trans h);obtain⟨⟨z0,z1,z2,z3,z4⟩,⟨f0,f1,f2,f3,f4⟩⟩:=five_cells HP6.out.q;have HP7:=zA (HP6.out.store (e2':=e') HT6.out);clear hb6 HP5 HT5 HN5 HW5;go_upto_region 31 with fail;obtain⟨W7,hW7⟩:∃W7,W7=((((w6.setCell ⟨rb,0,none⟩ (.int .i64 e'.ep)).setCell ⟨rb,1,none⟩ (.int .i64 e'.ot)).setCell ⟨rb,2,none⟩ (.int .i64 e'.fs)).setCell ⟨rb,3,none⟩ (.int .i64 e'.wt)).setCell ⟨rb,4,none⟩ (.slice qa' e'.q.length qc'):=⟨_,rfl⟩
          rw[<- hW7];have HP8:Hid (PM w S6 W7.drew b rb e' e' (.slice qa' e'.q.length qc')):=zA (by rw[hW7];exact HP7.out.below (below_drewE (zB _ _)));clear hW7 HP7 HP6 HT6 u0 u1 u2 u3 u4 z0 z1 z2 z3 z4 f0 f1 f2 f3 f4;obtain⟨vq8,hl8⟩:=HP8.out.lb;have CWt:=zA (waits_any hl8);have COt:=zA (other_any hl8);obtain⟨L,hL⟩:∃L,L=e'.q.length:=⟨_,rfl⟩
          have K8:Hid (W7.drew.cell? ⟨rb,1,none⟩=some (.int .i64 (e'.ot:Int))/\W7.drew.cell? ⟨rb,4,none⟩=some (.slice qa' L qc')):=zA (by rw[hL];exact⟨(five_cells HP8.out.q).1.2.1,(five_cells HP8.out.q).1.2.2.2.2⟩);rw[<- hL]at CWt;clear hl8 hL;go_region_held3 (fun y=>y.cell? ⟨rb,1,none⟩=some (.int .i64 (e'.ot:Int))/\y.cell? ⟨rb,4,none⟩=some (.slice qa' L qc'))
           (with_reducible exact K8.out)
           (first
            |(with_reducible refine CWt.out.mono ?_;rintro x wA ⟨rfl,rfl⟩)
            |(with_reducible refine COt.out.mono ?_;rintro x wA ⟨rfl,rfl⟩))
          all_goals (
           go_wp2;go_roundw
           case rel=>exact⟨i+1,e',_,S6,by omega,by omega,by go_num,HP8.out⟩
           case measure=>simp[intOf];omega)
        by_cases hk2:kd=2
        . subst hk2;obtain⟨tk,htk⟩:∃tk,tk=tickE e:=⟨_,rfl⟩
          have htl:tk.length<=64:=by rw[htk,tickE_len];omega
          obtain⟨qa,qc,hqs⟩:=HC.out.slice;subst hqs;have HCX:Hid (∀X,Below wc.drew.heap.size wc.drew X->PM w S1 X b rb e e (.slice qa e.q.length qc)):=zA (fun X hX=>(HC.out.below (below_drewE (zB _ _))).below hX);have HB0:Hid (Below wc.drew.heap.size wc.drew wc.drew):=zA (zB _ _);have CT1:Hid (∀X,Below wc.drew.heap.size wc.drew X->Calls Try.prog 16 #[.pointer (some ⟨b,0,none⟩)] X fun x w'=>(∃v,x=.returned v/\StrsAt w' v tk)/\Below X.heap.size X w'):=zA (fun X hX=>by
           obtain⟨vq8,hl8⟩:=(HCX.out X hX).lb;refine(tickL_any hl8).mono ?_;rintro x w' ⟨⟨v,hr,ho⟩,hb⟩;rw[<- htk]at ho;exact⟨⟨v,hr,strsAt_own ho (by omega)⟩,hb⟩)
          have CT2:Hid (∀X,Below wc.drew.heap.size wc.drew X->Calls Try.prog 17 #[rvE e (.slice qa e.q.length qc)] X fun x w'=>(∃v,x=.returned v/\StrsAt w' v tk)/\Below X.heap.size X w'):=zA (fun X hX=>by
           refine(rTick_any (HCX.out X hX).tx HLB.out.ok).mono ?_;rintro x w' ⟨⟨v,hr,ho⟩,hb⟩;rw[<- htk]at ho;exact⟨⟨v,hr,strsAt_own ho (by omega)⟩,hb⟩)
          have KX:Hid (∀X,Below wc.drew.heap.size wc.drew X->X.cell? ⟨rb,0,none⟩=some (.int .i64 (e.ep:Int))/\X.cell? ⟨rb,1,none⟩=some (.int .i64 (e.ot:Int))/\X.cell? ⟨rb,2,none⟩=some (.int .i64 (e.fs:Int))/\X.cell? ⟨rb,3,none⟩=some (.int .i64 (e.wt:Int))/\X.cell? ⟨rb,4,none⟩=some (.slice qa e.q.length qc)):=zA (fun X hX=>(five_cells (HCX.out X hX).q).1);have K0:=zA (KX.out _ HB0.out);clear htk htl y0 y1 y2 y3 y4 y5 y6 y7;obtain⟨y0,y1,y2,y3,y4,y5,y6,y7⟩:=eight_cells HQC.out;rw[HOE.out]at y0 y1 y2 y3 y4 y5 y6 y7;go_upto_region 29 with fail;clear y0 y1 y2 y3 y4 y5 y6 y7;go_region_held3 (fun y=>y.cell? ⟨rb,0,none⟩=some (.int .i64 (e.ep:Int))/\y.cell? ⟨rb,1,none⟩=some (.int .i64 (e.ot:Int))/\y.cell? ⟨rb,2,none⟩=some (.int .i64 (e.fs:Int))/\y.cell? ⟨rb,3,none⟩=some (.int .i64 (e.wt:Int))/\y.cell? ⟨rb,4,none⟩=some (.slice qa e.q.length qc))
           (first|with_reducible exact KS.out|with_reducible exact KB.out|with_reducible exact KA.out|with_reducible exact K0.out)
           (first
            |(with_reducible refine (CT1.out _ HB0.out).mono ?_;rintro x wA ⟨⟨vA,rfl,hA⟩,hbA⟩;have HBA:Hid (Below wc.drew.heap.size wc.drew wA):=zA hbA;have KA:=zA (KX.out wA HBA.out))
            |(with_reducible refine (CT1.out _ HBB.out).mono ?_;rintro x wA ⟨⟨vA,rfl,hA⟩,hbA⟩;have HBA:Hid (Below wc.drew.heap.size wc.drew wA):=zA (HBB.out.trans (hbA.mono HBB.out.size));have KA:=zA (KX.out wA HBA.out))
            |(with_reducible refine (CT2.out _ HB0.out).mono ?_;rintro x wB ⟨⟨vB,rfl,hB⟩,hbB⟩;have HBB:Hid (Below wc.drew.heap.size wc.drew wB):=zA hbB;have KB:=zA (KX.out wB HBB.out))
            |(with_reducible refine (CT2.out _ HBA.out).mono ?_;rintro x wB ⟨⟨vB,rfl,hB⟩,hbB⟩;have HBB:Hid (Below wc.drew.heap.size wc.drew wB):=zA (HBA.out.trans (hbB.mono HBA.out.size));have KB:=zA (KX.out wB HBB.out))
            |(with_reducible refine (same_any _ _ tk tk _ (hA.below hbB) hB).mono ?_;rintro x wS ⟨rfl,hbS⟩;have HBS:Hid (Below wc.drew.heap.size wc.drew wS):=zA (HBB.out.trans (hbS.mono HBB.out.size));have KS:=zA (KX.out wS HBS.out);rw[zM rfl])
            |(with_reducible refine (same_any _ _ tk tk _ hA (hB.below hbA)).mono ?_;rintro x wS ⟨rfl,hbS⟩;have HBS:Hid (Below wc.drew.heap.size wc.drew wS):=zA (HBA.out.trans (hbS.mono HBA.out.size));have KS:=zA (KX.out wS HBS.out);rw[zM rfl]))
          all_goals (
           have HP7:=zA (HCX.out wS HBS.out);clear hA hbA hB hbB hbS KS KA KB K0 KX CT1 CT2 HCX;go_upto_region 31 with fail;have HP8:Hid (PM w S1 wS.drew b rb e e (.slice qa e.q.length qc)):=zA (by exact HP7.out.below (below_drewE (zB _ _)));obtain⟨vq8,hl8⟩:=HP8.out.lb;have CWt:=zA (waits_any hl8);have COt:=zA (other_any hl8);obtain⟨L,hL⟩:∃L,L=e.q.length:=⟨_,rfl⟩
           have K8:Hid (wS.drew.cell? ⟨rb,1,none⟩=some (.int .i64 (e.ot:Int))/\wS.drew.cell? ⟨rb,4,none⟩=some (.slice qa L qc)):=zA (by rw[hL];exact⟨(five_cells HP8.out.q).1.2.1,(five_cells HP8.out.q).1.2.2.2.2⟩);rw[<- hL]at CWt;clear hl8 hL;go_region_held3 (fun y=>y.cell? ⟨rb,1,none⟩=some (.int .i64 (e.ot:Int))/\y.cell? ⟨rb,4,none⟩=some (.slice qa L qc))
            (with_reducible exact K8.out)
            (first
             |(with_reducible refine CWt.out.mono ?_;rintro x wA ⟨rfl,rfl⟩)
             |(with_reducible refine COt.out.mono ?_;rintro x wA ⟨rfl,rfl⟩))
           all_goals (
            go_wp2;go_roundw
            case rel=>exact⟨i+1,e,_,S1,by omega,by omega,by go_num,HP8.out⟩
            case measure=>simp[intOf];omega))
        obtain⟨wd,hwd⟩:∃wd,wd=wc:=⟨_,rfl⟩
        subst hwd;have e1:(kd==1)=false:=by simpa using hk1
        have e2:(kd==2)=false:=by simpa using hk2
        have CM:=zA (made_any (.agg #[.int .i64 kd,.int .i64 nk,.slice n0 n1 n2,.slice t0 t1 t2,.slice w0 w1' w2',.string s,.slice m0 m1 m2,.int .i64 nu]) o wd (HOP.out.below HC.out.bel));unfold SomeT at CM;go_upto_if 76 with fail;go_cut [16]from 45 to 156 (fun c wz=>∃tl:List UInt8,c=.string ⟨tl.toArray⟩/\tl.length<=1048584/\Hid (Below wd.heap.size wd wz))
        case first=>
         by_cases hk4:kd=4
         . subst hk4;go_wp2_with fail;refine CM.out.mono ?_;rintro x w3 ⟨⟨tl,htl,rfl⟩,hb3⟩;have HB3:=zA hb3;clear hb3;go_wp2_with fail;go_meet;exact⟨tl,rfl,htl,HB3⟩
         . have e4:(kd==4)=false:=by simpa using hk4
           go_wp2_with fail;go_meet;exact⟨o.text,by rw[<- HS.out],by have h1:=HTS.out;have h2:=HSZ.out;omega,zA (zB _ _)⟩
        obtain⟨tl,rfl,htl,HBZ⟩:=hcut;have HD:Hid (PM w S1 wc b rb e e lq):=zA (HC.out.below HBZ.out);obtain⟨vq2,hl2⟩:=HD.out.lb;have CT:=zA (takeL_any hl2 HD.out.low tl (by omega));unfold TakE at CT;clear hl2 y0 y1 y2 y3 y4 y5 y6 y7 CM HLB;go_wp2_with fail;refine CT.out.mono ?_;clear CT;rintro x w3 ⟨⟨a0,l0,c0,a1,l1,c1,rfl,hpn,hpt⟩,vq3,hlf⟩;obtain⟨e',he'⟩:∃e',e'=(takeE e tl).1:=⟨_,rfl⟩
        obtain⟨ns,hns⟩:∃ns,ns=(takeE e tl).2.1:=⟨_,rfl⟩
        obtain⟨ps,hpsl⟩:∃ps,ps=(takeE e tl).2.2.1:=⟨_,rfl⟩
        obtain⟨an,han⟩:∃an,an=(takeE e tl).2.2.2:=⟨_,rfl⟩
        rw[<- he']at hlf;rw[<- hns]at hpn;rw[<- hpsl]at hpt;rw[<- han];have hP3:PM w S1 w3 b rb e' e lq:=HD.out.prog (hlf.lb.sub (fun k hk=>.inl hk)) (hlf.fr.sub (fun _ hk=>hk));have HPT:Hid (OneT w3 wc.heap.size (.slice a1 l1 c1) ps):=zA hpt;have HTL:Hid (tl.length<=140737488351232):=zA (by omega);obtain⟨W4,hW4⟩:∃W4,W4=w3.alloc (.cells #[.slice a0 l0 c0,.slice a1 l1 c1,.bool an] 50):=⟨_,rfl⟩
        have b4:Below w3.heap.size w3 W4:=by rw[hW4];exact(zB _ _).alloc (zC _) _
        have n4:W4.heap[w3.heap.size]?=some (.cells #[.slice a0 l0 c0,.slice a1 l1 c1,.bool an] 50 (0,0)):=by rw[hW4];exact box_at _ _
        obtain⟨ub,hub⟩:∃ub,ub=w3.heap.size:=⟨_,rfl⟩
        obtain⟨S4,hS4⟩:∃S4,S4=Nw S1 w3 W4:=⟨_,rfl⟩
        have HP4:Hid (PM w S4 W4 b rb e' e lq):=zA (by rw[hS4];exact hP3.nw b4);have HN4:Hid (W4.heap[ub]?=some (.cells #[.slice a0 l0 c0,.slice a1 l1 c1,.bool an] 50 (0,0))):=zA (by rw[hub];exact n4);have HPN4:Hid (NotesAt W4 (.slice a0 l0 c0) ns):=zA (hpn.at_.below b4);have HPT4:Hid (OneT W4 wc.heap.size (.slice a1 l1 c1) ps):=zA (hpt.keep (fun k o _ h=>(b4.block k (lt_of_block h)).trans h));have CR:=zA (rTake_any HP4.out.tx HP4.out.low tl HTL.out);unfold RTakE at CR;rw[<- he',<- hns,<- hpsl,<- han]at CR;have HW4:=zA hW4;have HUB:=zA hub;obtain⟨⟨z0,z1,z2,z3,z4⟩,-⟩:=five_cells HP4.out.q;obtain⟨qa,qc,hqs⟩:=HP4.out.slice;clear hP3 hpn hpt HPT hW4 b4 n4 hub hS4 he' hns hpsl han htl hlf HD HTL;subst hqs;go_upto_region 18 with fail;rw[<- HW4.out,<- HUB.out];go_wp2_with fail;refine CR.out.mono ?_;clear CR;rintro x w5 ⟨lq',p0,q0,r0',p1,q1,r1',rfl,htx,hnt,hot,hb5⟩;obtain⟨qa',qc',hlq⟩:∃a c,lq'=.slice a e'.q.length c:=by
         obtain⟨a,c,h,-⟩:=htx;exact⟨a,c,h⟩
        obtain⟨W6,hW6⟩:∃W6,W6=w5.alloc (.cells #[.int .i64 e'.ep,.int .i64 e'.ot,.int .i64 e'.fs,.int .i64 e'.wt,lq'] 29):=⟨_,rfl⟩
        have b6:Below w5.heap.size w5 W6:=by rw[hW6];exact(zB _ _).alloc (zC _) _
        have n6:W6.heap[w5.heap.size]?=some (.cells #[.int .i64 e'.ep,.int .i64 e'.ot,.int .i64 e'.fs,.int .i64 e'.wt,lq'] 29):=by rw[hW6];exact box_at _ _
        have hb6:=hb5.trans (b6.mono hb5.size);obtain⟨S6,hS6⟩:∃S6,S6=Nw S4 W4 W6:=⟨_,rfl⟩
        have HP6:Hid (PM w S6 W6 b rb e' e (.slice qa e.q.length qc)):=zA (by rw[hS6];exact HP4.out.nw hb6);have HT6:Hid (TxR S6 W6 lq' e'.q):=zA (by rw[hS6];exact htx.keep (fun _ _ hg ho=>⟨hg.elim .inl (fun h=>.inr ⟨h.1,zF h.2 b6.size⟩),(b6.block _ (lt_of_block ho)).trans ho⟩));have CS1:=zA (sameAll_any _ _ ns ns W6 (HPN4.out.below hb6) (hnt.at_.below b6));rw[zM rfl]at CS1;have CS2:Hid (∀X,Below W6.heap.size W6 X->Calls Try.prog 15 #[.slice a1 l1 c1,.slice p1 q1 r1'] X fun x w'=>x=.returned (.bool true)/\Below X.heap.size X w'):=zA (fun X hX=>by
         have h:=same_any (.slice a1 l1 c1) (.slice p1 q1 r1') ps ps X (oneT_strs (HPT4.out.keep (fun k o _ h=>((hb6.trans (hX.mono hb6.size)).block k (lt_of_block h)).trans h))) (oneT_strs (hot.keep (fun k o _ h=>((b6.trans (hX.mono b6.size)).block k (lt_of_block h)).trans h)));rw[zM rfl]at h;exact h)
        have HN6:=zA n6;have HW6:=zA hW6;have HU6:Hid (∀X,Below W6.heap.size W6 X->X.cell? ⟨ub,0,none⟩=some (.slice a0 l0 c0)/\X.cell? ⟨ub,1,none⟩=some (.slice a1 l1 c1)/\X.cell? ⟨ub,2,none⟩=some (.bool an)):=zA (fun X hX=>by
         have h:=((hb6.trans (hX.mono hb6.size)).block _ (lt_of_block HN4.out)).trans HN4.out;simp[World.cell?,h])
        obtain⟨nb,hnb⟩:∃nb,nb=w5.heap.size:=⟨_,rfl⟩
        have HNB:=zA hnb;clear htx hnt hot hb5 b6 n6 hb6 hS6 hW6 HP4 HPN4 HPT4 HN4 hnb z0 z1 z2 z3 z4;subst hlq;obtain⟨u0,u1,u2⟩:=HU6.out _ (zB _ _);go_upto_region 19 with fail;rw[<- HW6.out,<- HNB.out];go_wp2_with fail;refine CS1.out.mono ?_;clear CS1 u0 u1 u2;rintro x w7 ⟨rfl,hb7⟩;have HB7:=zA hb7;obtain⟨u0,u1,u2⟩:=HU6.out _ hb7;clear hb7;go_wp2_with fail;refine(CS2.out w7 HB7.out).mono ?_;clear CS2 u0 u1 u2;rintro x w8 ⟨rfl,hb8⟩;have HB8:Hid (Below W6.heap.size W6 w8):=zA (HB7.out.trans (hb8.mono HB7.out.size));obtain⟨u0,u1,u2⟩:=HU6.out _ HB8.out;have HP8:Hid (PM w S6 w8 b rb e' e (.slice qa e.q.length qc)):=zA (HP6.out.below HB8.out);have HT8:Hid (TxR S6 w8 (.slice qa' e'.q.length qc') e'.q):=zA (HT6.out.below HB8.out);obtain⟨⟨t0',t1',t2',t3',t4'⟩,-⟩:=five_cells (by have h:=HN6.out;rw[<- HNB.out]at h;exact(HB8.out.block _ (lt_of_block h)).trans h);obtain⟨⟨z0,z1,z2,z3,z4⟩,⟨f0,f1,f2,f3,f4⟩⟩:=five_cells HP8.out.q;have HP9:=zA (HP8.out.store (e2':=e') HT8.out);clear hb8 HP6 HT6 HN6 HW6 HU6;go_upto_region 31 with fail;obtain⟨W7,hW7⟩:∃W7,W7=((((w8.setCell ⟨rb,0,none⟩ (.int .i64 e'.ep)).setCell ⟨rb,1,none⟩ (.int .i64 e'.ot)).setCell ⟨rb,2,none⟩ (.int .i64 e'.fs)).setCell ⟨rb,3,none⟩ (.int .i64 e'.wt)).setCell ⟨rb,4,none⟩ (.slice qa' e'.q.length qc'):=⟨_,rfl⟩
        rw[<- hW7];have HPX:Hid (PM w S6 W7.drew b rb e' e' (.slice qa' e'.q.length qc')):=zA (by rw[hW7];exact HP9.out.below (below_drewE (zB _ _)));clear hW7 HP9 HP8 HT8 u0 u1 u2 t0' t1' t2' t3' t4' z0 z1 z2 z3 z4 f0 f1 f2 f3 f4;obtain⟨vq8,hl8⟩:=HPX.out.lb;have CWt:=zA (waits_any hl8);have COt:=zA (other_any hl8);obtain⟨L,hL⟩:∃L,L=e'.q.length:=⟨_,rfl⟩
        have K8:Hid (W7.drew.cell? ⟨rb,1,none⟩=some (.int .i64 (e'.ot:Int))/\W7.drew.cell? ⟨rb,4,none⟩=some (.slice qa' L qc')):=zA (by rw[hL];exact⟨(five_cells HPX.out.q).1.2.1,(five_cells HPX.out.q).1.2.2.2.2⟩);rw[<- hL]at CWt;clear hl8 hL;go_region_held3 (fun y=>y.cell? ⟨rb,1,none⟩=some (.int .i64 (e'.ot:Int))/\y.cell? ⟨rb,4,none⟩=some (.slice qa' L qc'))
         (with_reducible exact K8.out)
         (first
          |(with_reducible refine CWt.out.mono ?_;rintro x wA ⟨rfl,rfl⟩)
          |(with_reducible refine COt.out.mono ?_;rintro x wA ⟨rfl,rfl⟩))
        all_goals (
         go_wp2;go_roundw
         case rel=>exact⟨i+1,e',_,S6,by omega,by omega,by go_num,HPX.out⟩
         case measure=>simp[intOf];omega)
      . have C:=zA (CAW.out wc);go_wp2_with fail;refine C.out.mono ?_;rintro e w3 ⟨rfl,hb4⟩;have HB4:Hid (Below w.heap.size w w3):=zA (HO.out.bel.trans ((HBl.out.trans (hb4.mono HBl.out.size)).mono HO.out.bel.size));clear hb4 C;go_wp2;go_ret;exact⟨rfl,HB4.out⟩
    . have hlt3I:¬(i:Int)<100:=by omega
      have C:=zA (CAW.out wx);clear hlt3;go_wp2_with fail;refine C.out.mono ?_;rintro e w3 ⟨rfl,hb4⟩;have HB4:Hid (Below w.heap.size w w3):=zA (HX.out.bel.trans (hb4.mono HX.out.bel.size));clear hb4 C;go_wp2;go_ret;exact⟨rfl,HB4.out⟩
  . have hltI:¬(i:Int)<(on:Int):=by omega
    have C:=zA (CAW.out wx);go_wp2_with fail;refine C.out.mono ?_;rintro e w3 ⟨rfl,hb4⟩;have HB4:Hid (Below w.heap.size w w3):=zA (HX.out.bel.trans (hb4.mono HX.out.bel.size));clear hb4 C;go_wp2;go_ret;exact⟨rfl,HB4.out⟩
end Go.Proofs.Ytjoddkeamboeoaa
