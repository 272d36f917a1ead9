/- XNarW. -/
import Derived.Test.YtdalcipmpelifaaGreatDoorMG32
set_option maxRecDepth 100000
namespace Go.Proofs.YtdalcipmpelifaaGreatDoor
open Go.RowKit Go.Shelf
theorem sum_lenC:∀(c:Ch),(∀r∈c,r.length<=10000)->(c.map List.length).sum<=c.length*10000
 |[],_=>by simp
 |a::c,h=>by
  have h1:=sum_lenC c (fun r hr=>h r (zP _ hr));have h2:=h a (zL ..);simp only[List.map_cons,List.sum_cons,yE];omega
structure NSt (w:World) (O F:Nat->Prop) (v:Value) (ds:List Sy) (n:Nat) (M:Nat) (c:Ch) (T:List Nat) (u:Value) (G:Nat->Prop) (wr:World):Prop where
 mu:muC c T<=M
 ni:∃l Z rows,NI w O F G v ds n c wr l Z rows
 q:QRow w.heap.size wr u T
 tm:∀k∈T,k<c.length
set_option maxHeartbeats 32000000 in
theorem narrow_any{w:World}{O F:Nat->Prop}{v:Value}{ds:List Sy}{n:Nat}{c:Ch}{l:List Sx}{Z:Nat->Prop}{rows:List (Value×List Nat)}{jb:Nat}{lv chv:Value}{lks:List Lm}{ls:List Lk}{T0:List Nat}
 (h:NI w O F (fun _=>False) v ds n c w l Z rows) (hn:n<=10000) (hT:TabG w) (hF0:F 0) (hFl:Low F w) (hcl:c.length<=1000) (hj:w.cell? ⟨jb,3,none⟩=some lv) (hjF:F jb) (hlk:SlS csL 4 F w lv lks) (hlkl:lks.length<=1000) (hok:LinksOk ds n c.length lks ls) (hch:NatS F w chv T0) (hTne:T0≠[]) (hTl:T0.length<=1000) (hTm:∀k∈T0,k<c.length)
 (hst:∀l∈ls,(l.fr∈T0\/HC c l.fr l.to l.R)/\(l.to∈T0\/HC c l.to l.fr (fun v u=>l.R u v))):
 Calls Tryz.prog 52 #[.pointer (some ⟨jb,0,none⟩),v,chv] w (NarE w O F v ds n (narrowC ls c)):=by
 obtain⟨ka,kc,hlv⟩:=hlk.slice;obtain⟨nk,hnk⟩:∃k,k=lks.length:=⟨_,rfl⟩
 rw[<- hnk]at hlv hlkl;subst hlv;have HNK:=zA hnk;have C0:=zA (cloneI_any hch hTne (by omega));have HJ:Hid (∀u:World,Fr F w u->u.cell? ⟨jb,3,none⟩=some (.slice ka nk kc)):=zA (fun u hu=>by simpa only[World.cell?,hu.block jb hjF]using hj);have HLK:=zA hlk;have HOK:=zA hok;have HTAB:=zA (fun(u:World) (hu:Fr F w u)=>hT.fr hF0 hu);have HF0:=zA hF0;have HFL:=zA hFl;have HDN:=zA hn;have hsum:=sum_lenC c (fun r hr=>by
  rw[<- h.rc]at hr;obtain⟨r0,hr0,e0⟩:=zR.1 hr;rw[<- e0];exact(h.cb r0 hr0).2)
 obtain⟨M,hM⟩:∃M,M=muC c T0:=⟨_,rfl⟩
 have hMl:M<=100000000:=by rw[hM];unfold muC;omega
 obtain⟨m0,hm0⟩:∃m,m=c.length:=⟨_,rfl⟩
 rw[<- hm0]at hcl;have HM0:=zA hm0;have H1:Hid (∀u0 w1,w1.ownsRow w.heap.size 3 1 u0 T0.length (T0.flatMap csI)->Below w.heap.size w w1->NSt w O F v ds n M c T0 u0 (QB u0) w1):=zA (fun u0 w1 h1 hb=>by
  have hq:=QRow.of_own h1;exact⟨by rw[hM];exact zD _,⟨l,Z,rows,h.grow hb.size hb.os hb.tape hb.output (fun k hk _=>hb.block k hk) (fun k hk=>.inr (hq.lt hk)) hFl (zD _)⟩,hq,hTm⟩)
 have HNW:Hid (Nw ls c T0 c):=zA (Nw.start hst);clear h hn hT hF0 hj hjF hlk hok hch hTne hTl hTm hst hFl hsum hM hnk hm0;go_enter Tryz.func52,Tryz.ntmps52;go_wp2_with fail;refine C0.out.mono ?_;rintro e w1 ⟨u0,rfl,hown,hb⟩;have HS1:=zA (H1.out u0 w1 hown hb);clear hown hb;go_wp2_with fail;go_loopg [6] M (fun gg u wr=>∃(T:List Nat) (c':Ch),gg<=M/\Hid (Nw ls c T c')/\Hid (NSt w O F v ds n gg c' T u (QB u) wr))
 case atStart=>exact⟨T0,c,zD _,HNW,HS1⟩
 case round=>
  obtain⟨T,c',hgM,HW,HS⟩:=hrel;obtain⟨wx,hwx⟩:∃wx,wx=wr:=⟨_,rfl⟩
  subst hwx;cases T with
  |nil=>
   have HFIN:Hid (NarE w O F v ds n (narrowC ls c) (.returned (.tuple #[])) wx):=zA (by
    obtain⟨l',Z',rows',hni⟩:=HS.out.ni;rw[<- HW.out.done];exact⟨rfl,l',Z',rows',hni.grow (G':=fun _=>False) (zD _) rfl rfl rfl (fun _ _ _=>rfl) (fun _ hk=>hk.elim) HFL.out hni.fr.size⟩)
   rcases HS.out.q with⟨rfl,_⟩|⟨g,off,cap,cur,rfl,_⟩
   . go_wp2;go_end0;exact HFIN.out
   . go_wp2;go_end0;exact HFIN.out
  |cons a T'=>
   rcases HS.out.q with⟨_,hq0⟩|⟨g,off,cap,cur,rfl,hgB,hgb,hoc,hlc,hcells⟩
   . cases hq0
   . have hca:wx.cell? ⟨g,off,none⟩=some (.int .i64 (a:Int)):=by
      have:=hcells 0 a rfl;rw[yF]at this;simp only[World.cell?,hgb];exact this
     obtain⟨nt,hnt⟩:∃k,k=T'.length:=⟨_,rfl⟩
     have hlc2:nt+1<=cap:=by rw[hnt];simpa using hlc
     rw[yE,<- hnt];have hntl:nt<=100000000:=by
      have h1:=HS.out.mu;unfold muC at h1;rw[yE,<- hnt]at h1;omega
     have HQ2:Hid (cap=1->QRow w.heap.size wx (.slice (some ⟨g,off,none⟩) 0 0) T'):=zA (fun hc1=>by
      have h0:T'=[]:=yG.1 (by omega);subst h0;exact .inr ⟨g,off,0,cur,rfl,hgB,hgb,by omega,zD _,fun j x hx=>by simp at hx⟩)
     have HQ3:Hid (cap≠1->QRow w.heap.size wx (.slice (some ⟨g,off+1,none⟩) nt (cap-1)) T'):=zA (fun hc1=>.inr ⟨g,off+1,cap-1,cur,by rw[hnt],hgB,hgb,by omega,by omega,fun j x hx=>by
      have:=hcells (j+1) x (by simpa using hx);rw[show off+1+j=off+(j+1) by omega];exact this⟩)
     have hcapI:(nt:Int)+1<=(cap:Int):=by omega
     have hntI:(0:Int)<(nt:Int)+1:=by omega
     have HNT:=zA hnt;clear hcells hlc hnt;go_upto_region 3 with fail;go_cut [6] (fun s6 wz=>Hid (QRow w.heap.size wz s6 T')/\Hid (∀k,QB s6 k->k=g)/\wz=wx)
     case first=>
      by_cases hc1:cap=1
      . have HQ:=zA (HQ2.out hc1);subst hc1;have hnt0:nt=0:=by omega
        subst hnt0;go_wp2_with fail;go_meet;exact⟨HQ,zA (fun k hk=>by obtain⟨_,_,_,e⟩:=hk;injection e with e;injection e with e;injection e with e;exact e.symm),rfl⟩
      . have HQ:=zA (HQ3.out hc1);have hc2:¬(cap:Int)=1:=by omega
        go_wp2_with fail;go_meet;exact⟨HQ,zA (fun k hk=>by obtain⟨_,_,_,e⟩:=hk;injection e with e;injection e with e;injection e with e;exact e.symm),rfl⟩
     case rest=>
     obtain⟨HQR,HQG,rfl⟩:=hcut;have HNA:Hid (NwA ls c T' a 0 c'):=zA HW.out.pop;have hac:a<c'.length:=HS.out.tm a (zL ..);have hcl':c'.length=m0:=by rw[HM0.out];exact HW.out.len
     have ham:a<m0:=by omega
     have hgg1:1<=gk:=by have h1:=HS.out.mu;unfold muC at h1;rw[yE]at h1;omega
     have HST:Hid (NSt w O F v ds n (gk-1) c' T' u6 (QB u6) wc):=zA (by
      obtain⟨l',Z',rows',hni⟩:=HS.out.ni;refine⟨by have h1:=HS.out.mu;unfold muC at h1 ⊢;rw[yE]at h1;omega,⟨l',Z',rows',hni.grow (zD _) rfl rfl rfl (fun _ _ _=>rfl) (fun k hk=>.inl ?_) HFL.out hni.fr.size⟩,HQR.out,fun k hk=>HS.out.tm k (zP _ hk)⟩;rw[HQG.out k hk];exact⟨off,_,cap,rfl⟩)
     have HFRW:Hid (Fr F w wc):=zA (by obtain⟨l',Z',rows',hni⟩:=HS.out.ni;exact hni.fr);have q3:=HJ.out wc HFRW.out;have HCL:=zA hcl';have HAC:=zA ham;obtain⟨W0,hW0⟩:∃W,W=wc:=⟨_,rfl⟩
     subst hW0;clear HQ2 HQ3 HQR HQG hgb hca HS HW hcl' hac ham hcapI hntI hgB hoc hlc2 hntl HNT;go_wp2_with fail;go_loopw [6,25] (fun u k wr=>∃(i:Nat) (T2:List Nat) (c2:Ch),i<=nk/\k=.int .i64 i/\Hid (NwA ls c T2 a i c2)/\Hid (c2.length=m0)/\Hid (NSt w O F v ds n (gk-1) c2 T2 u (QB u) wr)) (fun _ k _=>nk-(intOf k).toNat)
     case atStart=>exact⟨0,T',c',zS _,rfl,HNA,HCL,HST⟩
     case round=>
      obtain⟨i,T2,c2,hi,rfl,HN2,HC2,HS2⟩:=hrel;obtain⟨wy,hwy⟩:∃wy,wy=wr:=⟨_,rfl⟩
      subst hwy;clear q3;by_cases hlt:i<nk
      . have hltI:(i:Int)<(nk:Int):=by omega
        obtain⟨⟨frx,tox,tb,bb⟩,hL⟩:∃x,lks[i]?=some x:=⟨_,zB (by rw[<- HNK.out];exact hlt)⟩
        obtain⟨lk,hlk⟩:∃x,ls[i]?=some x:=⟨_,zB (by rw[HOK.out.len,<- HNK.out];exact hlt)⟩
        obtain⟨k1,k2,k3,k4,k5,k6,k7⟩:=HOK.out.at_ i _ lk hL hlk;dsimp only at k1 k2 k3 k4 k5 k6 k7;rw[<- HM0.out]at k4 k5;obtain⟨lf,lt,lR⟩:=lk;dsimp only at k1 k2 k6 k7;subst k1 k2;have HFY:Hid (Fr F w wy):=zA (by obtain⟨l',Z',rows',hni⟩:=HS2.out.ni;exact hni.fr);obtain⟨kg,koff,hka,hkF,hkl,hcell⟩:=(HLK.out.fr HFY.out).get hL;subst hka;have c0:=hcell 0 _ rfl;have c1:=hcell 1 _ rfl;have c2':=hcell 2 _ rfl;have c3:=hcell 3 _ rfl;dsimp only at c0 c1 c2' c3;rw[yF]at c0;have HK6:=zA k6;have HK7:=zA k7;have HLKI:=zA hlk;obtain⟨lb,hlb⟩:∃b,b=wy.heap.size:=⟨_,rfl⟩
        obtain⟨o,ho⟩:∃o,o=Obj.cells #[.int .i64 (lf:Int),.int .i64 (lt:Int),.pointer (some ⟨tb,0,none⟩),.pointer (some ⟨bb,0,none⟩)] 120 (0,0):=⟨_,rfl⟩
        obtain⟨wz,hwz⟩:∃W,W=wy.alloc o:=⟨_,rfl⟩
        have hbz:Below wy.heap.size wy wz:=by rw[hwz];exact(zF _ _).alloc (zD _) _
        have hszz:wz.heap.size=wy.heap.size+1:=by rw[hwz];simp
        have hlbz:wz.heap[lb]?=some (.cells #[.int .i64 (lf:Int),.int .i64 (lt:Int),.pointer (some ⟨tb,0,none⟩),.pointer (some ⟨bb,0,none⟩)] 120 (0,0)):=by rw[hwz,hlb,<- ho];exact heap_alloc_new _ _
        have hQlb:¬QB u6 lb:=fun hk=>by have:=(HS2.out.q.lt hk).2;omega
        have HQLB:=zA hQlb;have HBOX:Hid (∀u:World,u.heap[lb]?=wz.heap[lb]?->u.cell? ⟨lb,0,none⟩=some (.int .i64 (lf:Int))/\u.cell? ⟨lb,1,none⟩=some (.int .i64 (lt:Int))/\u.cell? ⟨lb,2,none⟩=some (.pointer (some ⟨tb,0,none⟩))/\u.cell? ⟨lb,3,none⟩=some (.pointer (some ⟨bb,0,none⟩))):=zA (fun u hu=>by
         have h1:=hu.trans hlbz;simp[World.cell?,h1])
        have HNIz:Hid (∃l Z rows,NI w O F (fun k=>QB u6 k\/k=lb) v ds n c2 wz l Z rows):=zA (by
         obtain⟨l',Z',rows',hni⟩:=HS2.out.ni;exact⟨l',Z',rows',hni.grow hbz.size hbz.os hbz.tape hbz.output (fun k hk _=>hbz.block k hk) (fun k hk=>by
          rcases hk with hk|hk
          . exact .inl hk
          . exact .inr ⟨by omega,by omega⟩) HFL.out hni.fr.size⟩)
        have HQz:Hid (QRow w.heap.size wz u6 T2):=zA (HS2.out.q.keep (fun g _ hg=>hbz.block g (HS2.out.q.lt hg).2));have hT2l:T2.length<=100000000:=by have h1:=HS2.out.mu;unfold muC at h1;omega
        have HMU:=zA HS2.out.mu;have HTM:=zA HS2.out.tm;obtain⟨b0,b1,b2,b3⟩:=HBOX.out wz rfl;have HSZ:Hid (w.heap.size<=wz.heap.size):=zA (by have:=HFY.out.size;omega);have HFZ:Hid (Fr F w wz):=zA (by obtain⟨l',Z',rows',hni⟩:=HNIz.out;exact hni.fr);have HWZ:Hid (wy.alloc (.cells #[.int .i64 (lf:Int),.int .i64 (lt:Int),.pointer (some ⟨tb,0,none⟩),.pointer (some ⟨bb,0,none⟩)] 120)=wz):=zA (by rw[hwz,ho]);have HLBE:=zA hlb;have b0z:=b0;have b1z:=b1;have b2z:=b2;have b3z:=b3;rw[hwz,hlb,ho]at b0z b1z b2z b3z;clear hL hlk hcell hbz hlbz hQlb k6 k7 hwz ho hlb hszz;by_cases hfa:lf=a
        . have hta:¬lt=a:=fun e=>k3 (hfa.trans e.symm)
          subst hfa;have htaI:¬(lt:Int)=(lf:Int):=by omega
          have htaB:((lt:Int)==(lf:Int))=false:=by simp;omega
          have CS:=zA (fun(l':List Sx) (Z':Nat->Prop) (rows':List (Value×List Nat)) (hni:NI w O F (fun k=>QB u6 k\/k=lb) v ds n c2 wz l' Z' rows')=>hni.some_strike HDN.out (HTAB.out wz HFZ.out) HF0.out HK6.out (a:=lf) (b:=lt) (by rw[HC2.out];omega) (by rw[HC2.out];omega));obtain⟨lz,Zz,rz,hniz⟩:=HNIz.out;have CSz:=zA (CS.out lz Zz rz hniz);clear CS hniz;have HN3:=zA (HN2.out.there HLKI.out k3 rfl (by rw[HC2.out];omega));have HMU3:=zA (mu_strike (c:=c2) (a:=lf) (b:=lt) (Q:=lR) (T:=T2) (by rw[HC2.out];omega));have HL3:Hid ((strikeC c2 lf lt lR).length=m0):=zA (by rw[strike_len];exact HC2.out);dsimp only at HN3;obtain⟨ch,hch⟩:∃ch,ch=decide (((atC c2 lt).filter (leadB1 c2 lf lR)).length≠(atC c2 lt).length):=⟨_,rfl⟩
          rw[<- hch]at CSz;have HTD:Hid (todoC c2 lf lt lR T2=if ch=true then T2++[lt]else T2):=zA (by
           unfold todoC;rw[hch];by_cases e:((atC c2 lt).filter (leadB1 c2 lf lR)).length=(atC c2 lt).length
           . rw[if_pos e,if_neg (by simp[e])]
           . rw[if_neg e,if_pos (by simp[e])])
          obtain⟨c3,hc3⟩:∃x,x=strikeC c2 lf lt lR:=⟨_,rfl⟩
          obtain⟨T3,hT3⟩:∃x,x=todoC c2 lf lt lR T2:=⟨_,rfl⟩
          rw[<- hc3,<- hT3]at HN3 HMU3;rw[<- hc3]at HL3 CSz;rw[<- hT3]at HTD;clear hch hc3 hT3;go_wp2_with fail;rw[HWZ.out];refine CSz.out.mono ?_;rintro e w2 ⟨rfl,⟨l2,Z2,r2,hni2⟩,hf2⟩;have HNI2:Hid (∃l Z rows,NI w O F (fun k=>QB u6 k\/k=lb) v ds n c3 w2 l Z rows):=zA ⟨l2,Z2,r2,hni2⟩;have HQ2:Hid (QRow w.heap.size w2 u6 T2):=zA (HQz.out.keep (fun g _ hg=>hf2.block g (.inl hg)));have HSZ2:Hid (w.heap.size<=w2.heap.size):=zA (zQ HSZ.out hf2.size);have HLB2:Hid (w2.heap[lb]?=wz.heap[lb]?):=zA (hf2.block lb (.inr rfl));have hlbl2:lb<w2.heap.size:=by have:=hf2.size;have h3:=World.block_lt_of_cell? _ _ b0;have h3:lb<wz.heap.size:=h3;omega
          obtain⟨x0,x1,x2,x3⟩:=HBOX.out w2 HLB2.out;clear hni2 hf2 b0z b1z b2z b3z;rw[<- HLBE.out];cases ch with
          |false=>
           have HTT:Hid (T3=T2):=zA HTD.out;have HS3:Hid (NSt w O F v ds n (gk-1) c3 T3 u6 (QB u6) w2):=zA (by
            obtain⟨l',Z',rows',hni⟩:=HNI2.out;exact⟨zQ HMU3.out HMU.out,⟨l',Z',rows',hni.grow (zD _) rfl rfl rfl (fun _ _ _=>rfl) (fun k hk=>.inl (.inl hk)) HFL.out hni.fr.size⟩,by rw[HTT.out];exact HQ2.out,fun k hk=>by rw[HTT.out]at hk;rw[HL3.out,<- HC2.out];exact HTM.out k hk⟩)
           go_wp2;go_roundw
           case rel=>exact⟨i+1,T3,c3,by omega,by go_num,HN3,HL3,HS3⟩
           case measure=>simp[intOf];omega
          |true=>
           have HTT:Hid (T3=T2++[lt]):=zA HTD.out;obtain⟨w3,hw3⟩:∃W,W=w2.alloc (.cells #[.int .i64 (lt:Int)] 3):=⟨_,rfl⟩
           have hb3:Below w2.heap.size w2 w3:=by rw[hw3];exact(zF _ _).alloc (zD _) _
           have hy3:w3.cell? ⟨w2.heap.size,0,none⟩=some (.int .i64 (lt:Int)):=by
            have h1:w3.heap[w2.heap.size]?=some (.cells #[.int .i64 (lt:Int)] 3 (0,0)):=by rw[hw3];exact heap_alloc_new _ _
            simp[World.cell?,h1]
           have HY3:=zA hy3;have HQ3:Hid (QRow w.heap.size w3 u6 T2):=zA (HQ2.out.keep (fun g _ hg=>hb3.block g (HQ2.out.lt hg).2));have HB3:=zA hb3;have HSZ3:Hid (w.heap.size<=w3.heap.size):=zA (zQ HSZ2.out hb3.size);have HW3:Hid (w2.alloc (.cells #[.int .i64 (lt:Int)] 3)=w3):=zA hw3.symm;clear hy3 hb3 hw3;go_wp2_with (at_builtin;rw[HW3.out];refine wpList_append_q rfl _ _ rfl (by rfl) HQ3.out (by omega) ⟨w2.heap.size,0,none⟩ 1 lt (by rfl) HY3.out HSZ3.out ?_);intro u9 w9 q1 q2 q3 q4 q5 q6 q7;have hk9:∀k,k<w2.heap.size->¬QB u6 k->w9.heap[k]?=w2.heap[k]?:=fun k hk hne=>(q6 k (zO hk HB3.out.size) hne).trans (HB3.out.block k hk)
           have HS3:Hid (NSt w O F v ds n (gk-1) c3 T3 u9 (QB u9) w9):=zA (by
            obtain⟨l',Z',rows',hni⟩:=HNI2.out;refine⟨zQ HMU3.out HMU.out,⟨l',Z',rows',hni.grow (zQ HB3.out.size q2) (q3.trans HB3.out.os) (q4.trans HB3.out.tape) (q5.trans HB3.out.output) (fun k hk hne=>hk9 k hk (fun h2=>hne (.inl h2))) (fun k hk=>?_) HFL.out hni.fr.size⟩,by rw[HTT.out];exact q1,fun k hk=>?_⟩
            . rcases q7 k hk with h2|h2
              . exact .inl (.inl h2)
              . exact .inr ⟨zQ HB3.out.size h2.1,h2.2⟩
            . rw[HTT.out]at hk;rw[HL3.out];rcases zN.1 hk with hk|hk
              . rw[<- HC2.out];exact HTM.out k hk
              . rw[zJ.1 hk];omega)
           obtain⟨y0,y1,y2,y3⟩:=HBOX.out w9 ((hk9 lb hlbl2 HQLB.out).trans HLB2.out);clear q1 q2 q3 q4 q5 q6 q7 hk9 x0 x1 x2 x3;go_wp2;go_roundw
           case rel=>exact⟨i+1,T3,c3,by omega,by go_num,HN3,HL3,HS3⟩
           case measure=>simp[intOf];omega
        . have hfaI:¬(lf:Int)=(a:Int):=by omega
          have hfaB:((lf:Int)==(a:Int))=false:=by simp;omega
          by_cases hta:lt=a
          . subst hta;have CS:=zA (fun(l':List Sx) (Z':Nat->Prop) (rows':List (Value×List Nat)) (hni:NI w O F (fun k=>QB u6 k\/k=lb) v ds n c2 wz l' Z' rows')=>hni.some_strike HDN.out (HTAB.out wz HFZ.out) HF0.out HK7.out (a:=lt) (b:=lf) (by rw[HC2.out];omega) (by rw[HC2.out];omega));obtain⟨lz,Zz,rz,hniz⟩:=HNIz.out;have CSz:=zA (CS.out lz Zz rz hniz);clear CS hniz;have HN3:=zA (HN2.out.back HLKI.out k3 rfl (by rw[HC2.out];omega));have HMU3:=zA (mu_strike (c:=c2) (a:=lt) (b:=lf) (Q:=(fun v u=>lR u v)) (T:=T2) (by rw[HC2.out];omega));have HL3:Hid ((strikeC c2 lt lf (fun v u=>lR u v)).length=m0):=zA (by rw[strike_len];exact HC2.out);dsimp only at HN3;obtain⟨ch,hch⟩:∃ch,ch=decide (((atC c2 lf).filter (leadB1 c2 lt (fun v u=>lR u v))).length≠(atC c2 lf).length):=⟨_,rfl⟩
            rw[<- hch]at CSz;have HTD:Hid (todoC c2 lt lf (fun v u=>lR u v) T2=if ch=true then T2++[lf]else T2):=zA (by
             unfold todoC;rw[hch];by_cases e:((atC c2 lf).filter (leadB1 c2 lt (fun v u=>lR u v))).length=(atC c2 lf).length
             . rw[if_pos e,if_neg (by simp[e])]
             . rw[if_neg e,if_pos (by simp[e])])
            obtain⟨c3,hc3⟩:∃x,x=strikeC c2 lt lf (fun v u=>lR u v):=⟨_,rfl⟩
            obtain⟨T3,hT3⟩:∃x,x=todoC c2 lt lf (fun v u=>lR u v) T2:=⟨_,rfl⟩
            rw[<- hc3,<- hT3]at HN3 HMU3;rw[<- hc3]at HL3 CSz;rw[<- hT3]at HTD;clear hch hc3 hT3;go_wp2_with fail;rw[HWZ.out];refine CSz.out.mono ?_;rintro e w2 ⟨rfl,⟨l2,Z2,r2,hni2⟩,hf2⟩;have HNI2:Hid (∃l Z rows,NI w O F (fun k=>QB u6 k\/k=lb) v ds n c3 w2 l Z rows):=zA ⟨l2,Z2,r2,hni2⟩;have HQ2:Hid (QRow w.heap.size w2 u6 T2):=zA (HQz.out.keep (fun g _ hg=>hf2.block g (.inl hg)));have HSZ2:Hid (w.heap.size<=w2.heap.size):=zA (zQ HSZ.out hf2.size);have HLB2:Hid (w2.heap[lb]?=wz.heap[lb]?):=zA (hf2.block lb (.inr rfl));have hlbl2:lb<w2.heap.size:=by have:=hf2.size;have h3:=World.block_lt_of_cell? _ _ b0;have h3:lb<wz.heap.size:=h3;omega
            obtain⟨x0,x1,x2,x3⟩:=HBOX.out w2 HLB2.out;clear hni2 hf2 b0z b1z b2z b3z;rw[<- HLBE.out];cases ch with
            |false=>
             have HTT:Hid (T3=T2):=zA HTD.out;have HS3:Hid (NSt w O F v ds n (gk-1) c3 T3 u6 (QB u6) w2):=zA (by
              obtain⟨l',Z',rows',hni⟩:=HNI2.out;exact⟨zQ HMU3.out HMU.out,⟨l',Z',rows',hni.grow (zD _) rfl rfl rfl (fun _ _ _=>rfl) (fun k hk=>.inl (.inl hk)) HFL.out hni.fr.size⟩,by rw[HTT.out];exact HQ2.out,fun k hk=>by rw[HTT.out]at hk;rw[HL3.out,<- HC2.out];exact HTM.out k hk⟩)
             go_wp2;go_roundw
             case rel=>exact⟨i+1,T3,c3,by omega,by go_num,HN3,HL3,HS3⟩
             case measure=>simp[intOf];omega
            |true=>
             have HTT:Hid (T3=T2++[lf]):=zA HTD.out;obtain⟨w3,hw3⟩:∃W,W=w2.alloc (.cells #[.int .i64 (lf:Int)] 3):=⟨_,rfl⟩
             have hb3:Below w2.heap.size w2 w3:=by rw[hw3];exact(zF _ _).alloc (zD _) _
             have hy3:w3.cell? ⟨w2.heap.size,0,none⟩=some (.int .i64 (lf:Int)):=by
              have h1:w3.heap[w2.heap.size]?=some (.cells #[.int .i64 (lf:Int)] 3 (0,0)):=by rw[hw3];exact heap_alloc_new _ _
              simp[World.cell?,h1]
             have HY3:=zA hy3;have HQ3:Hid (QRow w.heap.size w3 u6 T2):=zA (HQ2.out.keep (fun g _ hg=>hb3.block g (HQ2.out.lt hg).2));have HB3:=zA hb3;have HSZ3:Hid (w.heap.size<=w3.heap.size):=zA (zQ HSZ2.out hb3.size);have HW3:Hid (w2.alloc (.cells #[.int .i64 (lf:Int)] 3)=w3):=zA hw3.symm;clear hy3 hb3 hw3;go_wp2_with (at_builtin;rw[HW3.out];refine wpList_append_q rfl _ _ rfl (by rfl) HQ3.out (by omega) ⟨w2.heap.size,0,none⟩ 1 lf (by rfl) HY3.out HSZ3.out ?_);intro u9 w9 q1 q2 q3 q4 q5 q6 q7;have hk9:∀k,k<w2.heap.size->¬QB u6 k->w9.heap[k]?=w2.heap[k]?:=fun k hk hne=>(q6 k (zO hk HB3.out.size) hne).trans (HB3.out.block k hk)
             have HS3:Hid (NSt w O F v ds n (gk-1) c3 T3 u9 (QB u9) w9):=zA (by
              obtain⟨l',Z',rows',hni⟩:=HNI2.out;refine⟨zQ HMU3.out HMU.out,⟨l',Z',rows',hni.grow (zQ HB3.out.size q2) (q3.trans HB3.out.os) (q4.trans HB3.out.tape) (q5.trans HB3.out.output) (fun k hk hne=>hk9 k hk (fun h2=>hne (.inl h2))) (fun k hk=>?_) HFL.out hni.fr.size⟩,by rw[HTT.out];exact q1,fun k hk=>?_⟩
              . rcases q7 k hk with h2|h2
                . exact .inl (.inl h2)
                . exact .inr ⟨zQ HB3.out.size h2.1,h2.2⟩
              . rw[HTT.out]at hk;rw[HL3.out];rcases zN.1 hk with hk|hk
                . rw[<- HC2.out];exact HTM.out k hk
                . rw[zJ.1 hk];omega)
             obtain⟨y0,y1,y2,y3⟩:=HBOX.out w9 ((hk9 lb hlbl2 HQLB.out).trans HLB2.out);clear q1 q2 q3 q4 q5 q6 q7 hk9 x0 x1 x2 x3;go_wp2;go_roundw
             case rel=>exact⟨i+1,T3,c3,by omega,by go_num,HN3,HL3,HS3⟩
             case measure=>simp[intOf];omega
          . have htaI:¬(lt:Int)=(a:Int):=by omega
            have htaB:((lt:Int)==(a:Int))=false:=by simp;omega
            have HN3:=zA (HN2.out.pass HLKI.out hfa hta);have HS3:Hid (NSt w O F v ds n (gk-1) c2 T2 u6 (QB u6) wz):=zA (by
             obtain⟨l',Z',rows',hni⟩:=HNIz.out;exact⟨HMU.out,⟨l',Z',rows',hni.grow (zD _) rfl rfl rfl (fun _ _ _=>rfl) (fun k hk=>.inl (.inl hk)) HFL.out hni.fr.size⟩,HQz.out,HTM.out⟩)
            go_wp2;rw[HWZ.out];go_roundw
            case rel=>exact⟨i+1,T2,c2,by omega,by go_num,HN3,HC2,HS3⟩
            case measure=>simp[intOf];omega
      . have hltI:¬(i:Int)<(nk:Int):=by omega
        have HN3:Hid (Nw ls c T2 c2):=zA (by
         have h1:=HN2.out;have h2:i=ls.length:=by rw[HOK.out.len,<- HNK.out];omega
         rw[h2]at h1;exact h1.end_)
        go_wp2;go_roundg (gk-1)
        case measure=>omega
        case rel=>exact⟨T2,c2,by omega,HN3,HS2⟩
end Go.Proofs.YtdalcipmpelifaaGreatDoor
