/- ECarW. -/
import Derived.Test.YtjoddkeamboeoaaMG31
set_option maxRecDepth 100000
namespace Go.Proofs.Ytjoddkeamboeoaa
open Go.RowKit Go.Shelf
theorem two_nw2{S:Nat->Prop}{w w':World}{b1 b2:Nat}{e1 e2:En}{row:Option Nat}(h:Two S w b1 e1 b2 e2)(hg:w.grownBy w' row)(hr:∀g,row=some g->S g):Two (Nw S w w') w' b1 e1 b2 e2:=by
 have h0:=h;obtain⟨v1,v2,h1,h2,h3⟩:=h;have key:∀ {b:Nat} {v:Value} {e:En},LB S w b v e->LB (Nw S w w') w' b v e:=fun {b v e} h=>by
  have hh:LB S w' b v e:={ h with blk:=(hg.block b (lt_of_block h.blk) (fun e=>h.out (hr b e.symm))).trans h.blk,row:=h.row.keep (fun g o hgg ho=>(hg.block g (lt_of_block ho) (fun e=>h.outq g hgg (hr g e.symm))).trans ho),lowq:=fun g hgg=>zF (h.lowq g hgg) hg.size }
  have hlt:=lt_of_block h.blk;exact hh.more (fun k hk=>hk.elim .inl (fun h1=>.inr ⟨by omega,fun e=>by have:=h.lowq k e;omega⟩))
 exact⟨v1,v2,key h1,key h2,h3⟩
structure CarI (S:Nat->Prop) (w:World) (b1:Nat) (f:En) (b2:Nat) (t:En) (vl:Value) (L:List (List UInt8)) (i:Nat) (T:Nat->Prop) (v:Value) (W:World):Prop where
 two:Two T W b1 (carS f t (L.take i)).1 b2 (carS f t (L.take i)).2.1
 sub:∀k,S k->T k
 low:Low T W
 fr:Fr S w W
 pay:Pay w.heap.size T W v (carS f t (L.take i)).2.2.1
 len:(carS f t (L.take i)).2.2.1.length<=i
 row:W.ownsRow w.heap.size 9 1 vl L.length (strCs L)
 rowT:∀g,vl.ownBlock=some g->T g
set_option maxHeartbeats 2000000 in
theorem carry_law{S:Nat->Prop}{w:World}{b1 b2:Nat}{f t:En}(h:Two S w b1 f b2 t)(hS:Low S w):
 Calls Try.prog 29 #[.pointer (some ⟨b1,0,none⟩),.pointer (some ⟨b2,0,none⟩)] w (CarE S w b1 f b2 t):=by
 obtain⟨i0,hi0,hz0,hz1,hz2⟩:=info_partsE infoN;have CT:=zA (tickT_any h);unfold TckE at CT;obtain⟨L,hL⟩:∃L,tickE f=L:=⟨_,rfl⟩
 rw[hL]at CT;have HLE:Hid (carC f t=carS f t L):=zA (by rw[carC,hL]);have HLS:Hid (∀p∈L,p.length<=1048584):=zA (by rw[<- hL];exact tickE_short f);have hL64:L.length<=64:=by rw[<- hL,tickE_len];omega
 have H:=zA h;have HSL:=zA hS;clear h hL hS;go_enter Try.func29,Try.ntmps29;go_wp2_with fail;refine CT.out.mono ?_;clear CT;rintro x w1 ⟨⟨vl,rfl,hrow⟩,hb⟩;obtain⟨la,lc,hvl⟩:=own_slice hrow;subst hvl;have C0:Hid (CarI S w b1 f b2 t (.slice la L.length lc) L 0 (Nw S w w1) (.slice none 0 0) w1):=zA ⟨by simpa[carS]using H.out.nw hb,fun k hk=>.inl hk,Nw.low HSL.out hb.size,fr_below HSL.out hb,by simpa[carS]using Pay.nil _ _ _,by simp[carS],hrow,fun g hg=>.inr (hrow.lt g hg)⟩;clear hrow hb;go_wp2_with fail;go_loopw [6,7,9] (fun vo va c wr=>∃(i:Nat) (T:Nat->Prop) (v:Value),i<=L.length/\c=.int .i64 i/\va=.bool (carS f t (L.take i)).2.2.2/\v=vo/\CarI S w b1 f b2 t (.slice la L.length lc) L i T v wr) (fun _ _ c _=>L.length-(intOf c).toNat)
 case atStart=>exact⟨0,_,_,zO _,rfl,rfl,rfl,C0.out⟩
 case round=>
  obtain⟨i,T,v,hi,rfl,rfl,rfl,ci⟩:=hrel;obtain⟨wx,hwx⟩:∃wx,wx=wr:=⟨_,rfl⟩
  subst hwx;have CI:=zA ci;obtain⟨ov,oc,hov⟩:∃ov oc,v=.slice ov (carS f t (L.take i)).2.2.1.length oc:=by
   obtain⟨cs,h1,_⟩:=ci.pay;obtain⟨a,c,e⟩:=own_slice h1;exact⟨a,c,e⟩
  subst hov;clear ci;by_cases hlt:i<L.length
  . have hltI:(i:Int)<(L.length:Int):=by omega
    obtain⟨p,hp⟩:∃p,L[i]?=some p:=⟨_,zD hlt⟩
    have HST0:Hid (carS f t (L.take (i+1))=stepR (carS f t (L.take i)) p):=zA (by rw[zW,hp,zY,carS_snoc]);obtain⟨f1,hf1⟩:∃x,(carS f t (L.take i)).1=x:=⟨_,rfl⟩
    obtain⟨t1,ht1⟩:∃x,(carS f t (L.take i)).2.1=x:=⟨_,rfl⟩
    obtain⟨out,hout⟩:∃x,(carS f t (L.take i)).2.2.1=x:=⟨_,rfl⟩
    obtain⟨an,han⟩:∃x,(carS f t (L.take i)).2.2.2=x:=⟨_,rfl⟩
    have h2:=CI.out.two;have hpay:=CI.out.pay;have hol:=CI.out.len;rw[hf1,ht1]at h2;rw[hout]at hpay hol;rw[hout]at CI;rw[hout,han];have CK:=zA (takT_any h2.swap CI.out.low p (by have:=HLS.out p (zJ hp);omega));unfold TakT at CK;have hlap:∃g,la=some ⟨g,0,none⟩/\wx.cell? ⟨g,i,none⟩=some (.string ⟨p.toArray⟩):=by
     obtain⟨_,ao,cap,e,h5⟩:=strsAt_own (ss:=L) CI.out.row (by omega);injection e with e;subst e;rcases CI.out.row.2 with⟨h0,h1⟩|⟨g,cap2,cur,e1,_⟩
     . omega
     . injection e1 with e1;refine⟨g,e1,?_⟩;rcases h5 with h5|⟨b,o,e2,_,h5⟩
       . rw[h5]at hp;simp at hp
       . rw[e1]at e2;injection e2 with e2;injection e2 with e2 e3;subst e2 e3;have:=h5 i p hp;rwa[Nat.zero_add]at this
    obtain⟨gl,rfl,hcl⟩:=hlap;obtain⟨t2,ht2⟩:∃x,(takeE t1 p).1=x:=⟨_,rfl⟩
    obtain⟨ms,hms⟩:∃x,(takeE t1 p).2.1=x:=⟨_,rfl⟩
    obtain⟨ps,hps⟩:∃x,(takeE t1 p).2.2.1=x:=⟨_,rfl⟩
    obtain⟨an1,han1⟩:∃x,(takeE t1 p).2.2.2=x:=⟨_,rfl⟩
    rw[ht2,hms,hps,han1]at CK;have HST:Hid (carS f t (L.take (i+1))=(backs f1 ps,t2,out++ms,an||an1)):=zA (by rw[HST0.out,stepR,hf1,ht1,hout,han,ht2,hms,hps,han1]);have HPS:Hid (∀q∈ps,q.length<=1048584):=zA (by rw[<- hps];exact takeE_short t1 p);have HPAY:=zA hpay;have HOL:=zA hol;clear hf1 ht1 hout han ht2 hms hps han1 HST0 h2 hpay hol hp;go_wp2_with fail;refine CK.out.mono ?_;clear CK;rintro x w1 ⟨⟨a0,l0,c0,a1,l1,c1,rfl,hN1,hT1⟩,h2,hf2⟩;have ba:Below w1.heap.size w1 (w1.alloc (.cells #[.slice a0 l0 c0,.slice a1 l1 c1,.bool an1] 50)):=(zB _ _).alloc (zC _) _;have hkA:∀k o,wx.heap.size<=k->w1.heap[k]?=some o->(w1.alloc (.cells #[.slice a0 l0 c0,.slice a1 l1 c1,.bool an1] 50)).heap[k]?=some o:=fun k o _ ho=>alloc_old ho
    obtain⟨T2,hT2⟩:∃T2,T2=Nw T wx (w1.alloc (.cells #[.slice a0 l0 c0,.slice a1 l1 c1,.bool an1] 50)):=⟨_,rfl⟩
    have hzz:(w1.alloc (.cells #[.slice a0 l0 c0,.slice a1 l1 c1,.bool an1] 50)).heap.size=w1.heap.size+1:=by simp
    have HZ1:Hid (wx.heap.size<=w1.heap.size):=zA hf2.size;have HZX:Hid (wx.heap.size<=(w1.alloc (.cells #[.slice a0 l0 c0,.slice a1 l1 c1,.bool an1] 50)).heap.size):=zA (by have:=HZ1.out;omega);have HZ2:Hid (w.heap.size<=(w1.alloc (.cells #[.slice a0 l0 c0,.slice a1 l1 c1,.bool an1] 50)).heap.size):=zA (by have:=CI.out.fr.size;have:=HZ1.out;omega);have HT2:Hid (Two T2 (w1.alloc (.cells #[.slice a0 l0 c0,.slice a1 l1 c1,.bool an1] 50)) b2 t2 b1 f1):=zA ((h2.nw ba).sub (fun k hk=>by
     rw[hT2]at hk;rcases hk with hk|hk
     . exact .inl (.inl hk)
     . by_cases h:k<w1.heap.size
       . exact .inl (.inr ⟨hk.1,h⟩)
       . exact .inr ⟨by omega,hk.2⟩))
    have HT2S:Hid (∀k,Nw T wx (w1.alloc (.cells #[.slice a0 l0 c0,.slice a1 l1 c1,.bool an1] 50)) k->T2 k):=zA (by rw[hT2];exact fun _ h=>h);have HT2R:Hid (∀k,T2 k->T k\/(wx.heap.size<=k/\k<(w1.alloc (.cells #[.slice a0 l0 c0,.slice a1 l1 c1,.bool an1] 50)).heap.size)):=zA (by rw[hT2];exact fun _ h=>h);have hFT:Fr T wx (w1.alloc (.cells #[.slice a0 l0 c0,.slice a1 l1 c1,.bool an1] 50)):=hf2.next CI.out.low ba
    have HFR2:Hid (Fr S w (w1.alloc (.cells #[.slice a0 l0 c0,.slice a1 l1 c1,.bool an1] 50))):=zA (CI.out.fr.trans (hFT.sub CI.out.sub));have hpay2:Pay w.heap.size T2 (w1.alloc (.cells #[.slice a0 l0 c0,.slice a1 l1 c1,.bool an1] 50)) (.slice ov out.length oc) out:=HPAY.out.fr hFT (fun k hk=>HT2S.out k (.inl hk));obtain⟨cs,hcs1,hcs2,hcs3⟩:=hpay2;have HPO:=zA hcs1;have HPT:=zA hcs2;have HPC:=zA hcs3;have HPL:Hid (cs.length=out.length*4):=zA hcs1.1;obtain⟨us,hu1,hu2,hu3,hu4,hu5,hu6,hu7⟩:=oneN_cells (T:=T2) (hN1.keep hkA) (fun g hg hl=>HT2S.out g (.inr ⟨hg,hl⟩));have HML:Hid (l0=ms.length):=zA hu1;have HMS:Hid (ms.length<=1):=zA (by omega);have HL0:Hid (l0<=1/\out.length<=64):=zA ⟨hu2,by have:=HOL.out;omega⟩;have HUL:=zA hu3;have HUN:=zA hu4;have HUC:Hid (∀ad,a0=some ad->∀j u,us[j]?=some u->(w1.alloc (.cells #[.slice a0 l0 c0,.slice a1 l1 c1,.bool an1] 50)).cell? (ad.add j)=some u):=zA (fun ad had j u hj=>by
     obtain⟨g,rfl,_,h⟩:=hu5 ad had;have e:(⟨g,0,none⟩:Addr).add j=⟨g,j,none⟩:=by cases j<;>simp[Addr.add]
     rw[e];exact h j u hj)
    have HU1:=zA hu6;have HUP:=zA hu7;obtain⟨hp1,hp2,hp3⟩:=oneT_cells (hT1.keep hkA);subst hp1;have HPK:=zA hp3;have hrow2:(w1.alloc (.cells #[.slice a0 l0 c0,.slice a1 ps.length c1,.bool an1] 50)).ownsRow w.heap.size 9 1 (.slice (some ⟨gl,0,none⟩) L.length lc) L.length (strCs L):=by
     refine⟨CI.out.row.1,?_⟩;rcases CI.out.row.2 with h0|⟨g,cap,cur,e1,e2,e3,e4⟩
     . exact .inl h0
     . exact .inr ⟨g,cap,cur,e1,e2,(hFT.block g (CI.out.rowT g (by rw[e1];rfl))).trans e3,e4⟩
    have HROW2:=zA hrow2;have hbx:=box_at w1 (.cells #[.slice a0 l0 c0,.slice a1 ps.length c1,.bool an1] 50);have HBX:=zA hbx;obtain⟨⟨x0,x1,x2⟩,-⟩:=three_cells hbx;clear hbx hrow2 hp2 hp3 hu1 hu2 hu3 hu4 hu5 hu6 hu7 hcs1 hcs2 hcs3 hFT ba hkA hN1 hT1 h2 hf2 hT2 hzz hcl;cases an with
    |false=>
     have HAN2:Hid ((false||an1)=an1):=zA (by simp);go_wp2_with (refine wpList_append_all rfl _ _ rfl Try.underlying48 hi0 hz0 hz1 hz2 rfl (by decide) (by rfl) HPO.out a0 us l0 c0 (by rfl) HUL.out HUN.out HUC.out HU1.out ?d1 ?d2 ?d3 ?_)
     case d1=>unfold maxLen;have:=HL0.out;omega
     case d2=>have:=HL0.out;omega
     case d3=>exact HZ2.out
     intro v3 w3 hown3 hg3 hv3;obtain⟨T3,hT3⟩:∃T3,T3=Nw T wx w3:=⟨_,rfl⟩
     have hz3:=hg3.size;have HS23:∀k,T3 k->Nw T2 (w1.alloc (.cells #[.slice a0 l0 c0,.slice a1 ps.length c1,.bool an1] 50)) w3 k:=fun k hk=>by
      rw[hT3]at hk;rcases hk with hk|hk
      . exact .inl (HT2S.out k (.inl hk))
      . by_cases h:k<(w1.alloc (.cells #[.slice a0 l0 c0,.slice a1 ps.length c1,.bool an1] 50)).heap.size
        . exact .inl (HT2S.out k (.inr ⟨hk.1,h⟩))
        . exact .inr ⟨by omega,hk.2⟩
     have HT23:∀k,T2 k->T3 k:=fun k hk=>by
      rw[hT3];rcases HT2R.out k hk with h|h
      . exact .inl h
      . exact .inr ⟨h.1,by omega⟩
     have HTW:=zA ((two_nw2 HT2.out hg3 (fun g hg=>HPT.out g hg)).sub HS23).swap;have hne:∀ {g:Nat} {cur:Array Value} {ty:TypeId} {fz:Nat×Nat},(w1.alloc (.cells #[.slice a0 l0 c0,.slice a1 ps.length c1,.bool an1] 50)).heap[g]?=some (.cells cur ty fz)->ty≠36->w3.heap[g]?=some (.cells cur ty fz):=fun {g cur ty fz} hg hty=>(hg3.block g (lt_of_block hg) (fun e=>by
      rcases HPO.out.2 with⟨h0,_⟩|⟨g',cap',cur',e1,_,e3,_⟩
      . rw[h0]at e;cases e
      . rw[e1]at e;simp only[Value.ownBlock,Option.some.injEq]at e;subst e;rw[hg]at e3;simp only[Option.some.injEq,Obj.cells.injEq]at e3;exact hty e3.2.1)).trans hg
     have HBX3:=zA (hne HBX.out (by decide));have HPK3:Hid (∀(j:Nat) q,ps[j]?=some q->∃g,a1=some ⟨g,0,none⟩/\T3 g/\w3.heap[g]?=some (.cells #[.string ⟨q.toArray⟩] 9 (0,0))/\j=0):=zA (fun j q hj=>by
      obtain⟨g,e1,e2,e3,e4⟩:=HPK.out j q hj;exact⟨g,e1,HT23 g (HT2S.out g (.inr ⟨e2,lt_of_block e3⟩)),hne e3 (by decide),e4⟩)
     have HLOW3:Hid (Low T3 w3):=zA (fun k hk=>by
      rw[hT3]at hk;rcases hk with hk|hk
      . have:=CI.out.low k hk;have:=HZX.out;omega
      . exact hk.2)
     have HFR3:Hid (Fr S w w3):=zA ⟨hg3.os.trans HFR2.out.os,hg3.tape.trans HFR2.out.tape,hg3.output.trans HFR2.out.output,zS HFR2.out.size hg3.size,fun k hk=>(hg3.block k (by have:=CI.out.low k (CI.out.sub k hk);have:=HZX.out;omega) (fun e=>by
      rcases HPO.out.2 with⟨h0,_⟩|⟨g',cap',cur',e1,e2,e3,_⟩
      . rw[h0]at e;cases e
      . rw[e1]at e;simp only[Value.ownBlock,Option.some.injEq]at e;subst e;have:=HSL.out k hk;omega)).trans (HFR2.out.block k hk)⟩
     have HIT:∀ {vn:Value} {xs:List Int},IntT T2 (w1.alloc (.cells #[.slice a0 l0 c0,.slice a1 ps.length c1,.bool an1] 50)) vn xs->IntT T3 w3 vn xs:=fun {vn xs} h=>h.keep (fun g cur fz hg ho=>⟨HT23 g hg,hne ho (by decide)⟩)
     have HPAY3:Hid (Pay w.heap.size T3 w3 v3 (out++ms)):=zA (Pay.more (by rw[<- HML.out];exact hown3) HPL.out (fun g hg=>by
      have hg0:=hg;rcases hv3 with e|e
      . rw[e]at hg;exact HT23 g (HPT.out g hg)
      . rw[e]at hg;have hgg:w1.heap.size+1=g:=by simpa using hg
        rw[hT3];exact .inr ⟨by have:=HZ1.out;omega,(hown3.lt g hg0).2⟩)
      (fun j n hj=>by obtain⟨k1,vn,k2,k3⟩:=HPC.out j n hj;exact⟨k1,vn,k2,HIT k3⟩) (fun j n hj=>by obtain⟨k1,vn,k2,k3⟩:=HUP.out j n hj;exact⟨k1,vn,k2,HIT k3⟩))
     have HROW3:Hid (w3.ownsRow w.heap.size 9 1 (.slice (some ⟨gl,0,none⟩) L.length lc) L.length (strCs L)):=zA (by
      refine⟨HROW2.out.1,?_⟩;rcases HROW2.out.2 with h0|⟨g,cap,cur,e1,e2,e3,e4⟩
      . exact .inl h0
      . exact .inr ⟨g,cap,cur,e1,e2,hne e3 (by decide),e4⟩)
     have HSUB3:Hid (∀k,T k->T3 k):=zA (fun k hk=>by rw[hT3];exact .inl hk);have HBT3:Hid (T3 w1.heap.size):=zA (HT23 _ (HT2S.out _ (.inr ⟨by have:=HZ1.out;omega,by simp⟩)));obtain⟨va,vc,hv3s⟩:∃va vc,v3=.slice va (out.length+ms.length) vc:=by
      obtain⟨va,vc,e⟩:=own_slice hown3;exact⟨va,vc,by rw[e,HML.out]⟩
     subst hv3s;clear hown3 hg3 hv3 hT3 HS23 HT23 hne HIT hz3 HPO HUL HUN HUC HU1 HL0 HZ2 HT2 HT2S HT2R HPT HPL HPC HUP HPK HROW2 HFR2 HBX x0 x1 x2;go_wp2_with fail;go_loopw [11] (fun c wr=>∃(k:Nat) (T':Nat->Prop),c=.int .i64 k/\k<=ps.length/\Two T' wr b1 (backs f1 (ps.take k)) b2 t2/\(∀j,T3 j->T' j)/\Low T' wr/\Fr T3 w3 wr) (fun c _=>ps.length-(intOf c).toNat)
     case atStart=>exact⟨0,T3,rfl,zO _,by simpa[backs]using HTW.out,fun _ h=>h,HLOW3.out,Fr.refl _ _⟩
     case round=>
      obtain⟨k,T',rfl,hk,htw,hsub,hlow,hfr⟩:=hrel;obtain⟨wy,hwy⟩:∃wy,wy=wr:=⟨_,rfl⟩
      subst hwy;have HTW4:=zA htw;have HSB4:=zA hsub;have HLW4:=zA hlow;have HFR4:=zA hfr;obtain⟨⟨y0,y1,y2⟩,-⟩:=three_cells ((hfr.block _ HBT3.out).trans HBX3.out);clear htw hsub hlow hfr;by_cases hlt:k<ps.length
      . have hltI:(k:Int)<(ps.length:Int):=by omega
        obtain⟨q,hq⟩:∃q,ps[k]?=some q:=⟨_,zD hlt⟩
        obtain⟨g,rfl,hTg,hbg,rfl⟩:=HPK3.out k q hq;have hcq:wy.cell? ⟨g,0,none⟩=some (.string ⟨q.toArray⟩):=by
         have h:=(HFR4.out.block g hTg).trans hbg;simp only[World.cell?,h];rfl
        have CT:=zA (takT_any HTW4.out HLW4.out q (by have:=HPS.out q (zJ hq);omega));have HQ:Hid (backs f1 (ps.take (0+1))=(takeE (backs f1 (ps.take 0)) q).1):=zA (by rw[zW,hq,zY,backs_snoc]);clear hq hbg hTg;go_wp2_with fail;refine CT.out.mono ?_;clear CT;rintro x w5 ⟨⟨d0,d1,d2,d3,d4,d5,rfl,-,-⟩,ht5,hf5⟩;have HTW5:=zA ht5;have HFR5:=zA hf5;clear ht5 hf5 hcq y0 y1 y2;go_wp2;go_roundw
        case rel=>exact⟨0+1,Nw T' wy w5,by go_num,by omega,by rw[HQ.out];exact HTW5.out,fun j hj=>.inl (HSB4.out j hj),Nw.low HLW4.out HFR5.out.size,HFR4.out.trans (HFR5.out.sub HSB4.out)⟩
        case measure=>simp[intOf];omega
      . have hltI:¬(k:Int)<(ps.length:Int):=by omega
        obtain rfl:k=ps.length:=by omega
        have hbk:backs f1 (ps.take ps.length)=backs f1 ps:=by rw[List.take_length]
        have HCI:Hid (CarI S w b1 f b2 t (.slice (some ⟨gl,0,none⟩) L.length lc) L (i+1) T' (.slice va (out.length+ms.length) vc) wy):=zA (by
         have h:=HTW4.out;rw[hbk]at h;refine⟨?_,fun j hj=>HSB4.out j (HSUB3.out j (CI.out.sub j hj)),HLW4.out,HFR3.out.trans (HFR4.out.sub (fun j hj=>HSUB3.out j (CI.out.sub j hj))),?_,?_,?_,fun g hg=>HSB4.out g (HSUB3.out g (CI.out.rowT g hg))⟩
         . rw[HST.out];exact h
         . rw[HST.out];exact HPAY3.out.fr HFR4.out HSB4.out
         . rw[HST.out];simp only[zE];have:=HOL.out;have:=HMS.out;omega
         . refine⟨HROW3.out.1,?_⟩;rcases HROW3.out.2 with h0|⟨g,cap,cur,e1,e2,e3,e4⟩
           . exact .inl h0
           . exact .inr ⟨g,cap,cur,e1,e2,(HFR4.out.block g (HSUB3.out g (CI.out.rowT g (by rw[e1];rfl)))).trans e3,e4⟩)
        have HAN3:Hid ((carS f t (L.take (i+1))).2.2.2=an1):=zA (by rw[HST.out];exact HAN2.out);clear hbk;go_wp2;go_roundw
        case rel=>exact⟨i+1,T',_,by omega,by go_num,by rw[HAN3.out],rfl,HCI.out⟩
        case measure=>simp[intOf];omega
    |true=>
     have HAN2:Hid ((true||an1)=true):=zA (by simp);go_wp2_with (refine wpList_append_all rfl _ _ rfl Try.underlying48 hi0 hz0 hz1 hz2 rfl (by decide) (by rfl) HPO.out a0 us l0 c0 (by rfl) HUL.out HUN.out HUC.out HU1.out ?d1 ?d2 ?d3 ?_)
     case d1=>unfold maxLen;have:=HL0.out;omega
     case d2=>have:=HL0.out;omega
     case d3=>exact HZ2.out
     intro v3 w3 hown3 hg3 hv3;obtain⟨T3,hT3⟩:∃T3,T3=Nw T wx w3:=⟨_,rfl⟩
     have hz3:=hg3.size;have HS23:∀k,T3 k->Nw T2 (w1.alloc (.cells #[.slice a0 l0 c0,.slice a1 ps.length c1,.bool an1] 50)) w3 k:=fun k hk=>by
      rw[hT3]at hk;rcases hk with hk|hk
      . exact .inl (HT2S.out k (.inl hk))
      . by_cases h:k<(w1.alloc (.cells #[.slice a0 l0 c0,.slice a1 ps.length c1,.bool an1] 50)).heap.size
        . exact .inl (HT2S.out k (.inr ⟨hk.1,h⟩))
        . exact .inr ⟨by omega,hk.2⟩
     have HT23:∀k,T2 k->T3 k:=fun k hk=>by
      rw[hT3];rcases HT2R.out k hk with h|h
      . exact .inl h
      . exact .inr ⟨h.1,by omega⟩
     have HTW:=zA ((two_nw2 HT2.out hg3 (fun g hg=>HPT.out g hg)).sub HS23).swap;have hne:∀ {g:Nat} {cur:Array Value} {ty:TypeId} {fz:Nat×Nat},(w1.alloc (.cells #[.slice a0 l0 c0,.slice a1 ps.length c1,.bool an1] 50)).heap[g]?=some (.cells cur ty fz)->ty≠36->w3.heap[g]?=some (.cells cur ty fz):=fun {g cur ty fz} hg hty=>(hg3.block g (lt_of_block hg) (fun e=>by
      rcases HPO.out.2 with⟨h0,_⟩|⟨g',cap',cur',e1,_,e3,_⟩
      . rw[h0]at e;cases e
      . rw[e1]at e;simp only[Value.ownBlock,Option.some.injEq]at e;subst e;rw[hg]at e3;simp only[Option.some.injEq,Obj.cells.injEq]at e3;exact hty e3.2.1)).trans hg
     have HBX3:=zA (hne HBX.out (by decide));have HPK3:Hid (∀(j:Nat) q,ps[j]?=some q->∃g,a1=some ⟨g,0,none⟩/\T3 g/\w3.heap[g]?=some (.cells #[.string ⟨q.toArray⟩] 9 (0,0))/\j=0):=zA (fun j q hj=>by
      obtain⟨g,e1,e2,e3,e4⟩:=HPK.out j q hj;exact⟨g,e1,HT23 g (HT2S.out g (.inr ⟨e2,lt_of_block e3⟩)),hne e3 (by decide),e4⟩)
     have HLOW3:Hid (Low T3 w3):=zA (fun k hk=>by
      rw[hT3]at hk;rcases hk with hk|hk
      . have:=CI.out.low k hk;have:=HZX.out;omega
      . exact hk.2)
     have HFR3:Hid (Fr S w w3):=zA ⟨hg3.os.trans HFR2.out.os,hg3.tape.trans HFR2.out.tape,hg3.output.trans HFR2.out.output,zS HFR2.out.size hg3.size,fun k hk=>(hg3.block k (by have:=CI.out.low k (CI.out.sub k hk);have:=HZX.out;omega) (fun e=>by
      rcases HPO.out.2 with⟨h0,_⟩|⟨g',cap',cur',e1,e2,e3,_⟩
      . rw[h0]at e;cases e
      . rw[e1]at e;simp only[Value.ownBlock,Option.some.injEq]at e;subst e;have:=HSL.out k hk;omega)).trans (HFR2.out.block k hk)⟩
     have HIT:∀ {vn:Value} {xs:List Int},IntT T2 (w1.alloc (.cells #[.slice a0 l0 c0,.slice a1 ps.length c1,.bool an1] 50)) vn xs->IntT T3 w3 vn xs:=fun {vn xs} h=>h.keep (fun g cur fz hg ho=>⟨HT23 g hg,hne ho (by decide)⟩)
     have HPAY3:Hid (Pay w.heap.size T3 w3 v3 (out++ms)):=zA (Pay.more (by rw[<- HML.out];exact hown3) HPL.out (fun g hg=>by
      have hg0:=hg;rcases hv3 with e|e
      . rw[e]at hg;exact HT23 g (HPT.out g hg)
      . rw[e]at hg;have hgg:w1.heap.size+1=g:=by simpa using hg
        rw[hT3];exact .inr ⟨by have:=HZ1.out;omega,(hown3.lt g hg0).2⟩)
      (fun j n hj=>by obtain⟨k1,vn,k2,k3⟩:=HPC.out j n hj;exact⟨k1,vn,k2,HIT k3⟩) (fun j n hj=>by obtain⟨k1,vn,k2,k3⟩:=HUP.out j n hj;exact⟨k1,vn,k2,HIT k3⟩))
     have HROW3:Hid (w3.ownsRow w.heap.size 9 1 (.slice (some ⟨gl,0,none⟩) L.length lc) L.length (strCs L)):=zA (by
      refine⟨HROW2.out.1,?_⟩;rcases HROW2.out.2 with h0|⟨g,cap,cur,e1,e2,e3,e4⟩
      . exact .inl h0
      . exact .inr ⟨g,cap,cur,e1,e2,hne e3 (by decide),e4⟩)
     have HSUB3:Hid (∀k,T k->T3 k):=zA (fun k hk=>by rw[hT3];exact .inl hk);have HBT3:Hid (T3 w1.heap.size):=zA (HT23 _ (HT2S.out _ (.inr ⟨by have:=HZ1.out;omega,by simp⟩)));obtain⟨va,vc,hv3s⟩:∃va vc,v3=.slice va (out.length+ms.length) vc:=by
      obtain⟨va,vc,e⟩:=own_slice hown3;exact⟨va,vc,by rw[e,HML.out]⟩
     subst hv3s;clear hown3 hg3 hv3 hT3 HS23 HT23 hne HIT hz3 HPO HUL HUN HUC HU1 HL0 HZ2 HT2 HT2S HT2R HPT HPL HPC HUP HPK HROW2 HFR2 HBX x0 x1 x2;go_wp2_with fail;go_loopw [11] (fun c wr=>∃(k:Nat) (T':Nat->Prop),c=.int .i64 k/\k<=ps.length/\Two T' wr b1 (backs f1 (ps.take k)) b2 t2/\(∀j,T3 j->T' j)/\Low T' wr/\Fr T3 w3 wr) (fun c _=>ps.length-(intOf c).toNat)
     case atStart=>exact⟨0,T3,rfl,zO _,by simpa[backs]using HTW.out,fun _ h=>h,HLOW3.out,Fr.refl _ _⟩
     case round=>
      obtain⟨k,T',rfl,hk,htw,hsub,hlow,hfr⟩:=hrel;obtain⟨wy,hwy⟩:∃wy,wy=wr:=⟨_,rfl⟩
      subst hwy;have HTW4:=zA htw;have HSB4:=zA hsub;have HLW4:=zA hlow;have HFR4:=zA hfr;obtain⟨⟨y0,y1,y2⟩,-⟩:=three_cells ((hfr.block _ HBT3.out).trans HBX3.out);clear htw hsub hlow hfr;by_cases hlt:k<ps.length
      . have hltI:(k:Int)<(ps.length:Int):=by omega
        obtain⟨q,hq⟩:∃q,ps[k]?=some q:=⟨_,zD hlt⟩
        obtain⟨g,rfl,hTg,hbg,rfl⟩:=HPK3.out k q hq;have hcq:wy.cell? ⟨g,0,none⟩=some (.string ⟨q.toArray⟩):=by
         have h:=(HFR4.out.block g hTg).trans hbg;simp only[World.cell?,h];rfl
        have CT:=zA (takT_any HTW4.out HLW4.out q (by have:=HPS.out q (zJ hq);omega));have HQ:Hid (backs f1 (ps.take (0+1))=(takeE (backs f1 (ps.take 0)) q).1):=zA (by rw[zW,hq,zY,backs_snoc]);clear hq hbg hTg;go_wp2_with fail;refine CT.out.mono ?_;clear CT;rintro x w5 ⟨⟨d0,d1,d2,d3,d4,d5,rfl,-,-⟩,ht5,hf5⟩;have HTW5:=zA ht5;have HFR5:=zA hf5;clear ht5 hf5 hcq y0 y1 y2;go_wp2;go_roundw
        case rel=>exact⟨0+1,Nw T' wy w5,by go_num,by omega,by rw[HQ.out];exact HTW5.out,fun j hj=>.inl (HSB4.out j hj),Nw.low HLW4.out HFR5.out.size,HFR4.out.trans (HFR5.out.sub HSB4.out)⟩
        case measure=>simp[intOf];omega
      . have hltI:¬(k:Int)<(ps.length:Int):=by omega
        obtain rfl:k=ps.length:=by omega
        have hbk:backs f1 (ps.take ps.length)=backs f1 ps:=by rw[List.take_length]
        have HCI:Hid (CarI S w b1 f b2 t (.slice (some ⟨gl,0,none⟩) L.length lc) L (i+1) T' (.slice va (out.length+ms.length) vc) wy):=zA (by
         have h:=HTW4.out;rw[hbk]at h;refine⟨?_,fun j hj=>HSB4.out j (HSUB3.out j (CI.out.sub j hj)),HLW4.out,HFR3.out.trans (HFR4.out.sub (fun j hj=>HSUB3.out j (CI.out.sub j hj))),?_,?_,?_,fun g hg=>HSB4.out g (HSUB3.out g (CI.out.rowT g hg))⟩
         . rw[HST.out];exact h
         . rw[HST.out];exact HPAY3.out.fr HFR4.out HSB4.out
         . rw[HST.out];simp only[zE];have:=HOL.out;have:=HMS.out;omega
         . refine⟨HROW3.out.1,?_⟩;rcases HROW3.out.2 with h0|⟨g,cap,cur,e1,e2,e3,e4⟩
           . exact .inl h0
           . exact .inr ⟨g,cap,cur,e1,e2,(HFR4.out.block g (HSUB3.out g (CI.out.rowT g (by rw[e1];rfl)))).trans e3,e4⟩)
        have HAN3:Hid ((carS f t (L.take (i+1))).2.2.2=true):=zA (by rw[HST.out];exact HAN2.out);clear hbk;go_wp2;go_roundw
        case rel=>exact⟨i+1,T',_,by omega,by go_num,by rw[HAN3.out],rfl,HCI.out⟩
        case measure=>simp[intOf];omega
  . have hltI:¬(i:Int)<(L.length:Int):=by omega
    obtain rfl:i=L.length:=by omega
    have hTL:L.take L.length=L:=List.take_length;have HE:Hid (CarE S w b1 f b2 t (.returned (.tuple #[.slice ov (carS f t L).2.2.1.length oc,.bool (carS f t L).2.2.2])) wx):=zA (by
     refine⟨.slice ov (carS f t L).2.2.1.length oc,T,?_,?_,CI.out.sub,CI.out.low,CI.out.fr,?_⟩
     . rw[HLE.out]
     . have h:=CI.out.two;rw[hTL]at h;rw[HLE.out];exact h
     . have h:=CI.out.pay;rw[HLE.out];rw[hTL]at h;exact h)
    clear hTL;go_wp2;go_ret2;exact HE.out
end Go.Proofs.Ytjoddkeamboeoaa
