/- XStrike, XStrk, XPool. -/
import Derived.Test.YtkbgmcmcpbegjabGreatDoorMG15
import Derived.Test.YtkbgmcmcpbegjabGreatDoorMG35
import Derived.ArgAppend
set_option maxRecDepth 100000
namespace Go.Proofs.YtkbgmcmcpbegjabGreatDoor
open Go.RowKit Go.Shelf
structure ChO (S:Nat->Prop) (w:World) (v:Value) (rows:List (Value×List Nat)):Prop where
 row:w.ownsRow 0 63 1 v rows.length (rows.flatMap csRow)
 own:∀g,v.ownBlock=some g->S g
 ats:∀r∈rows,NatC (fun k=>S k/\v.ownBlock≠some k) w r.1 r.2
theorem ChO.at_{S:Nat->Prop}{w:World}{v:Value}{rows:List (Value×List Nat)}(h:ChO S w v rows){i:Nat}{r:Value×List Nat}(hi:rows[i]?=some r):∃g cap,v=.slice (some ⟨g,0,none⟩) rows.length cap/\w.cell? ⟨g,i,none⟩=some r.1/\w.frozen? ⟨g,i,none⟩=false:=by
 have hil:=(zE.1 hi).1;have hrow:=h.row;rcases h.row.2 with⟨_,h0⟩|⟨g,cap,cur,e,_⟩
 . omega
 . rw[e]at hrow;have hc:=hrow.cellAt i (by omega);have hf:=flat_at csRow_len rows i 0 r hi (by omega);rw[yF,yJ]at hf;exact⟨g,cap,e,by rw[hc,hf];rfl,hrow.frozenAt i⟩
structure SInv (w0:World) (S0:Nat->Prop) (vl:Nat) (M:List Nat) (i:Nat) (S:Nat->Prop) (w:World):Prop where
 sub:∀k,S0 k->S k
 fr:Fr S0 w0 w
 svl:S vl
 ex:∃lv,w.heap[vl]?=some (.cells #[lv] 63 (0,0))/\(∀g,lv.ownBlock=some g->S g/\w0.heap.size<=g)/\((i=0/\lv=.slice none 0 0)\/(i=1/\w.ownsRow 0 3 1 lv M.length (M.flatMap csI)))
theorem SInv.keep{w0:World}{S0:Nat->Prop}{vl:Nat}{M:List Nat}{i:Nat}{S:Nat->Prop}{w w':World}(h:SInv w0 S0 vl M i S w)(hf:Fr S w w'):SInv w0 S0 vl M i S w':=by
 obtain⟨lv,h1,h2,h3⟩:=h.ex;refine⟨h.sub,h.fr.trans (hf.sub h.sub),h.svl,lv,(hf.block vl h.svl).trans h1,h2,?_⟩;rcases h3 with h3|⟨h3,h4⟩
 . exact .inl h3
 . exact .inr ⟨h3,owns_key h4 (fun g o hg ho=>(hf.block g (h2 g hg).1).trans ho)⟩
theorem ends_P{d:Sd}{s:Ss}{al:List Nat}(hd:∀v p,(s.came.getD v 0).testBit p=true↔d.Rch al v p){P:Nat->Bool}{x:Nat}(hP:P x=true↔d.leads al x):decide (s.came.getD x 0 &&& d.last≠0)=P x:=by
 cases hp:P x with
 |true=>
  apply yA;intro e;obtain⟨p,h1,h2⟩:=hP.1 hp;have:=and_none e p ((hd x p).2 h1);rw[h2]at this;cases this
 |false=>
  apply decide_eq_false;intro h;obtain⟨p,h1,h2⟩:=and_some h;have:=hP.2 ⟨p,(hd x p).1 h1,h2⟩;rw[hp]at this;cases this
set_option maxHeartbeats 16000000 in
theorem strike1_any{w0:World}{S0:Nat->Prop}{vc vt vs vl hb sb nr cap b:Nat}{d:Sd}{av bv:Value}{al bl:List Nat}{P:Nat->Bool}
 (hlow:Low S0 w0) (hvl:¬S0 vl) (hvc:w0.heap[vc]?=some (.cells #[.slice (some ⟨hb,0,none⟩) nr cap] 88 (0,0))/\S0 vc) (hvt:w0.heap[vt]?=some (.cells #[.int .i64 (b:Int)] 3 (0,0))/\S0 vt) (hvs:w0.heap[vs]?=some (.cells #[.pointer (some ⟨sb,0,none⟩)] 72 (0,0))/\S0 vs)
 (hcell:w0.cell? ⟨hb,b,none⟩=some bv/\S0 hb) (hb2:b<nr) (hbv:NatC S0 w0 bv bl) (hbl:∀x∈bl,x<d.n) (hbll:bl.length<=10000) (hP:∀x,x<d.n->(P x=true↔d.leads al x)) (hkp:∀k,d.kp k->S0 k):
 FoundC 96 #[.pointer (some ⟨vc,0,none⟩),.pointer (some ⟨vt,0,none⟩),.pointer (some ⟨vs,0,none⟩),.pointer (some ⟨vl,0,none⟩)] sb d [(av,al)] (SInv w0 S0 vl (bl.filter P)):=by
 intro i r S w s m hri hSl hsr hre hdo hinv;obtain⟨i0,hi0,hz0,hz1,hz2⟩:=info_partsG infoZG;obtain⟨rfl,rfl⟩:i=0/\r=(av,al):=by
  match i,hri with
  |0,h=>simp at h;exact⟨rfl,h.symm⟩
  |i+1,h=>simp at h
 dsimp only at hdo;obtain⟨lv,e1,e2,e3⟩:=hinv.ex;have hlv:lv=.slice none 0 0:=by
  rcases e3 with e3|⟨e3,_⟩
  . exact e3.2
  . omega
 subst hlv;have HSR:=zA hsr;have HRE:=zA hre;have HINV:=zA hinv;have HSL:=zA hSl;have HLOW:=zA hlow;have HVL:=zA hvl;have HVLB:=zA e1;have HKP:=zA hkp;have hsz0:w0.heap.size<=w.heap.size:=hinv.fr.size;obtain⟨ba,bc,hbe⟩:=hbv.1.slice;obtain⟨nb,hnb⟩:∃n,n=bl.length:=⟨_,rfl⟩
 rw[<- hnb]at hbe hbll;subst hbe;have HNB:=zA hnb;have HBL:=zA hbl;have HBV:Hid (NatS S0 w (.slice ba nb bc) bl):=zA (hbv.1.fr hinv.fr);have HC:Hid (∀wr x,Fr (fun k=>k<w.heap.size/\k≠vl) w wr->x<d.n->Calls Tryz.prog 57 #[.pointer (some ⟨sb,0,none⟩),.int .i64 (x:Int)] wr fun e w'=>e=.returned (.bool (P x))/\w'=wr.drew):=zA (fun wr x hf hx=>by
  rw[<- ends_P hdo (hP x hx)];have hkeep:SrS S wr sb d s m:=hsr.keep hf.size (fun k hk ho=>⟨hsr.own_no ho,hf.block k ⟨hk,fun e=>hsr.own_no ho (e▸hinv.svl)⟩⟩) (fun k hk hkp2=>hf.block k ⟨hk,fun e=>hvl (e▸hkp k hkp2)⟩) hsr.kS;exact endsAt_any hkeep hre.cl hre.cb hx)
 have hS0:∀k,S0 k->k<w.heap.size/\k≠vl:=fun k hk=>⟨zO (hlow k hk) hsz0,fun e=>hvl (e▸hk)⟩
 have HS0:=zA hS0;have qc:w.cell? ⟨vc,0,none⟩=some (.slice (some ⟨hb,0,none⟩) nr cap):=by
  have h1:=(hinv.fr.block vc hvc.2).trans hvc.1;simp[World.cell?,h1]
 have qt:w.cell? ⟨vt,0,none⟩=some (.int .i64 (b:Int)):=by
  have h1:=(hinv.fr.block vt hvt.2).trans hvt.1;simp[World.cell?,h1]
 have HVS:Hid (∀u:World,Fr (fun k=>k<w.heap.size/\k≠vl) w u->u.cell? ⟨vs,0,none⟩=some (.pointer (some ⟨sb,0,none⟩))):=zA (fun u hu=>by
  have h1:=(hu.block vs (hS0 vs hvs.2)).trans ((hinv.fr.block vs hvs.2).trans hvs.1);simp[World.cell?,h1])
 have qb:w.cell? ⟨hb,b,none⟩=some (.slice ba nb bc):=by
  have h1:=hinv.fr.block hb hcell.2;simpa only[World.cell?,h1]using hcell.1
 have hbI:(b:Int)<(nr:Int):=by omega
 have hvlw:vl<w.heap.size:=lt_of_block e1;obtain⟨M,hM⟩:∃M,M=bl.filter P:=⟨_,rfl⟩
 rw[<- hM]at HINV ⊢;have HM:=zA hM;clear hri hSl hsr hre hdo hinv e1 e2 e3 hlow hvl hvc hvt hvs hcell hbv hbl hP hkp hS0 hM hnb;show Calls Tryz.prog _ #[.int .i64 0,.pointer (some ⟨vc,0,none⟩),.pointer (some ⟨vt,0,none⟩),.pointer (some ⟨vs,0,none⟩),.pointer (some ⟨vl,0,none⟩)] w _;go_enter Tryz.func96,Tryz.ntmps96;go_wp2_with fail;go_loopw [13] (fun c wr=>∃(k:Nat) (lx:Value),k<=nb/\c=.int .i64 k/\Hid (wr.heap[vl]?=some (.cells #[lx] 63 (0,0)))/\Hid (wr.ownsRow w.heap.size 3 1 lx ((bl.take k).filter P).length (((bl.take k).filter P).flatMap csI))/\Hid (Fr (fun k=>k<w.heap.size/\k≠vl) w wr)) (fun c _=>nb-(intOf c).toNat)
 case atStart=>exact⟨0,.slice none 0 0,zR _,rfl,HVLB,zA (World.ownsRow_nil _ _ _ _),zA (Fr.refl _ _)⟩
 case round=>
  obtain⟨k,lx,hk,rfl,HVB,HROW,HFR⟩:=hrel;obtain⟨wx,hwx⟩:∃wx,wx=wr:=⟨_,rfl⟩
  subst hwx;obtain⟨X,hX⟩:∃X,X=(bl.take k).filter P:=⟨_,rfl⟩
  rw[<- hX]at HROW;have HX:=zA hX;have hXl:X.length<=10000:=by
   rw[hX];have h1:=yC P (bl.take k);rw[yH,<- HNB.out]at h1;omega
  clear hX;have hszx:w.heap.size<=wx.heap.size:=HFR.out.size;by_cases hlt:k<nb
  . have hltI:(k:Int)<(nb:Int):=by omega
    obtain⟨x,hx⟩:∃x,bl[k]?=some x:=⟨_,zB (by rw[<- HNB.out];exact hlt)⟩
    obtain⟨g,off,hba,hsg,hgl,hcell⟩:=HBV.out.get hx;subst hba;have q0:=getI hcell;rw[yF]at q0;have q0x:wx.cell? ⟨g,off+k,none⟩=some (.int .i64 (x:Int)):=by simpa only[World.cell?,HFR.out.block g (HS0.out g hsg)]using q0
    have qs:=HVS.out wx HFR.out;have C:=zA (HC.out wx x HFR.out (HBL.out x (zC hx)));have HT:=zA (filt_take (p:=P) hx);rw[<- HX.out]at HT;clear hx hcell q0;cases hp:P x with
    |true=>
     rw[hp]at C HT;rw[if_pos rfl]at HT;clear hp;obtain⟨ua,uc,hlx⟩:=own_slice HROW.out;obtain⟨nu,hnu⟩:∃n,n=X.length:=⟨_,rfl⟩
     rw[<- hnu]at hlx hXl;subst hlx;have HNU:=zA hnu;obtain⟨wy,hwy⟩:∃wy,wy=wx.drew:=⟨_,rfl⟩
     have HRY:Hid (wy.ownsRow w.heap.size 3 1 (.slice ua nu uc) nu (X.flatMap csI)):=zA (by
      have:=HROW.out.drew;rw[<- hwy,<- hnu]at this;exact this)
     have HVY:Hid (wy.heap[vl]?=some (.cells #[.slice ua nu uc] 63 (0,0))):=zA (by rw[hwy];exact HVB.out);have HFY:Hid (Fr (fun k=>k<w.heap.size/\k≠vl) w wy):=zA (by rw[hwy];exact⟨HFR.out.os,HFR.out.tape,HFR.out.output,HFR.out.size,HFR.out.block⟩);have hszy:w.heap.size<=wy.heap.size:=HFY.out.size;have qly:wy.cell? ⟨vl,0,none⟩=some (.slice ua nu uc):=by
      have:=HVY.out;simp[World.cell?,this]
     clear hnu;go_wp2_with fail;refine C.out.mono ?_;rintro e w1 ⟨rfl,rfl⟩;rw[<- hwy];clear hwy q0x qs;go_wp2_with (at_builtin;refine wpList_append_lies _ rfl _ _ _ rfl w.heap.size 3 i0 _ 1 8 Tryz.underlying63 hi0 hz0 hz1 hz2 rfl (by decide) (.slice ua nu uc) _ _ (by rfl) (HRY.out.alloc _) ⟨wy.heap.size,0,none⟩ 1 1 (csI x) (by rfl) (by rfl) ?d1 ?d2 (by decide) ?d3 ?d4 ?d5 (wy.heap.size+1) (by simp) ?_)
     case d1=>exact World.news_of_block (cs:=#[.int .i64 (x:Int)]) (t:=3) (fr:=(0,0)) (heap_alloc_new wy _)
     case d2=>simp[Value.oneCell']
     case d3=>unfold maxLen;omega
     case d4=>omega
     case d5=>simp;omega
     intro gg cap2 w9 hown9 hgrow9 hat9 hlt9;have hkeep9:=grown_keep hgrow9;have hv9:w9.heap[vl]?=some (.cells #[.slice ua nu uc] 63 (0,0)):=(hkeep9 vl (lt_of_block HVY.out) (own_neG HRY.out HVY.out (by decide))).trans HVY.out;have c9:w9.cell? ⟨vl,0,none⟩=some (.slice ua nu uc)/\w9.frozen? ⟨vl,0,none⟩=false:=by simp[World.cell?,World.frozen?,hv9]
     have hset:∀b,b≠vl->(w9.setCell ⟨vl,0,none⟩ (.slice (some ⟨gg,0,none⟩) (nu+1) cap2)).heap[b]?=w9.heap[b]?:=fun b hb=>zL _ _ _ _ hb
     have HVF:Hid ((w9.setCell ⟨vl,0,none⟩ (.slice (some ⟨gg,0,none⟩) (nu+1) cap2)).heap[vl]?=some (.cells #[.slice (some ⟨gg,0,none⟩) (nu+1) cap2] 63 (0,0))):=zA (by simp[World.setCell,Array.getElem?_modify,hv9]);have HRF:Hid ((w9.setCell ⟨vl,0,none⟩ (.slice (some ⟨gg,0,none⟩) (nu+1) cap2)).ownsRow w.heap.size 3 1 (.slice (some ⟨gg,0,none⟩) (nu+1) cap2) ((bl.take (k+1)).filter P).length (((bl.take (k+1)).filter P).flatMap csI)):=zA (by
      have h4:w9.ownsRow w.heap.size 3 1 (.slice (some ⟨gg,0,none⟩) (nu+1) cap2) ((bl.take (k+1)).filter P).length (((bl.take (k+1)).filter P).flatMap csI):=by
       rw[HT.out,zG,<- HNU.out,zT];exact hown9
      exact owns_key h4 (fun g o hg ho=>(hset g (fun e=>own_neG h4 hv9 (by decide) (by rw[hg,e]))).trans ho))
     have HFF:Hid (Fr (fun k=>k<w.heap.size/\k≠vl) w (w9.setCell ⟨vl,0,none⟩ (.slice (some ⟨gg,0,none⟩) (nu+1) cap2))):=zA (HFY.out.trans ⟨hgrow9.os,hgrow9.tape,hgrow9.output,by have:=hgrow9.size;simp at this ⊢;omega,fun b hb=>(hset b hb.2).trans (hkeep9 b (by omega) (fun e=>by have:=(HRY.out.lt b e).1;omega))⟩);obtain⟨c9a,c9b⟩:=c9;clear hown9 hgrow9 hat9 hlt9 hkeep9 hv9 hset qly;go_wp2;go_roundw
     case rel=>exact⟨k+1,_,by omega,by go_num,HVF,HRF,HFF⟩
     case measure=>simp[intOf];omega
    |false=>
     rw[hp]at C HT;rw[if_neg (by decide),List.append_nil]at HT;clear hp;have HVF:Hid (wx.drew.heap[vl]?=some (.cells #[lx] 63 (0,0))):=HVB;have HRF:Hid (wx.drew.ownsRow w.heap.size 3 1 lx ((bl.take (k+1)).filter P).length (((bl.take (k+1)).filter P).flatMap csI)):=zA (by rw[HT.out];exact HROW.out.drew);have HFF:Hid (Fr (fun k=>k<w.heap.size/\k≠vl) w wx.drew):=zA ⟨HFR.out.os,HFR.out.tape,HFR.out.output,HFR.out.size,HFR.out.block⟩;go_wp2_with fail;refine C.out.mono ?_;rintro e w1 ⟨rfl,rfl⟩;go_wp2;go_roundw
     case rel=>exact⟨k+1,_,by omega,by go_num,HVF,HRF,HFF⟩
     case measure=>simp[intOf];omega
  . have hltI:¬(k:Int)<(nb:Int):=by omega
    have HXM:Hid (X=M):=zA (by rw[HX.out,HM.out,zK (by rw[<- HNB.out];omega)]);have HFIN:Hid (∃T2:Nat->Prop,(∀k,S k->T2 k)/\Low T2 wx/\SrS T2 wx sb d s m/\SInv w0 S0 vl M (0+1) T2 wx):=zA (by
     refine⟨Plus S w.heap.size wx.heap.size,fun k hk=>.inl hk,HSL.out.plus hszx,?_,?_⟩
     . refine HSR.out.keep hszx (fun b hb ho=>⟨fun hp=>?_,?_⟩) (fun b hb hkb=>?_) (fun b hb=>.inl (HSR.out.kS b hb))
       . rcases hp with hp|hp
         . exact HSR.out.own_no ho hp
         . omega
       . exact HFR.out.block b ⟨hb,fun e=>HSR.out.own_no ho (e▸HINV.out.svl)⟩
       . exact HFR.out.block b (HS0.out b (HKP.out b hkb))
     . refine⟨fun k hk=>.inl (HINV.out.sub k hk),HINV.out.fr.trans (HFR.out.sub (fun k hk=>HS0.out k hk)),.inl HINV.out.svl,lx,HVB.out,fun g hg=>?_,.inr ⟨rfl,?_⟩⟩
       . have h1:=HROW.out.lt g hg;exact⟨.inr h1,by omega⟩
       . rw[<- HXM.out];have h2:=HROW.out;exact⟨h2.1,by
          rcases h2.2 with h3|⟨g,c,cur,a1,a2,a3⟩
          . exact .inl h3
          . exact .inr ⟨g,c,cur,a1,zR _,a3⟩⟩)
    go_wp2;go_end0;exact⟨rfl,HFIN.out⟩
def StrE(S Z:Nat->Prop)(w:World)(sb:Nat)(d:Sd)(v:Value)(rows:List (Value×List Nat))(b:Nat)(bl M:List Nat)(e:Ending)(w':World):Prop:=
 e=.returned (.bool (decide (M.length≠bl.length)))/\∃(T:Nat->Prop) (s':Ss) (m':Sp) (rows':List (Value×List Nat)),(∀k,S k->T k)/\Low T w'/\SrS T w' sb d s' m'/\Rest d s'/\ChO (fun k=>(Z k\/w.heap.size<=k)/\T k) w' v rows'/\rows'.map (·.2)=(rows.map (·.2)).set b M/\Fr (fun k=>S k/\v.ownBlock≠some k) w w'
theorem flat_set{rows:List (Value×List Nat)}{b:Nat}(x:Value×List Nat):(rows.set b x).flatMap csRow=(rows.flatMap csRow).set b x.1:=by
 rw[flat_row,flat_row,List.map_set]
set_option maxHeartbeats 16000000 in
theorem strike_any{S Z:Nat->Prop}{w:World}{sb:Nat}{d:Sd}{s:Ss}{m:Sp}{v:Value}{rows:List (Value×List Nat)}{a b:Nat}{ra rb:Value×List Nat}{P:Nat->Bool}
 (h:SrS S w sb d s m) (hS:Low S w) (hr:Rest d s) (hn:d.n<=10000) (hol:∀u,(d.out u).length<=1000000) (hT:TabG w) (h0:S 0) (h0v:v.ownBlock≠some 0) (hZ:∀k,Z k->S k) (hc:ChO Z w v rows) (hra:rows[a]?=some ra) (hrb:rows[b]?=some rb) (hl:∀r∈rows,(∀u∈r.2,u<d.n)/\r.2.length<=10000) (hP:∀x,x<d.n->(P x=true↔d.leads ra.2 x)) (hkv:∀k,d.kp k->v.ownBlock≠some k):
 Calls Tryz.prog 67 #[v,.pointer (some ⟨sb,0,none⟩),.int .i64 (a:Int),.int .i64 (b:Int)] w (StrE S Z w sb d v rows b rb.2 (rb.2.filter P)):=by
 obtain⟨hb,cap,hv,cb,fb⟩:=hc.at_ hrb;obtain⟨hb2,cap2,hv2,ca,_⟩:=hc.at_ hra;rw[hv]at hv2;injection hv2 with hv2 _ hv3;injection hv2 with hv2;injection hv2 with hv2;subst hv2 hv3;subst hv;have hbo:(Value.slice (some ⟨hb,0,none⟩) rows.length cap).ownBlock=some hb:=rfl;have hbZ:=hc.own hb hbo;have hbS:=hZ hb hbZ;have hbl:=hS hb hbS;obtain⟨nr,hnr⟩:∃n,n=rows.length:=⟨_,rfl⟩
 have hal:=(zE.1 hra).1;have hbl2:=(zE.1 hrb).1;rw[<- hnr]at hal hbl2 hc ⊢;have hna:=hc.ats ra (zC hra);have hnb:=hc.ats rb (zC hrb);have hla:=hl ra (zC hra);have hlb:=hl rb (zC hrb);obtain⟨av,al⟩:=ra;obtain⟨bv,bl⟩:=rb;dsimp only at ca cb hna hnb hla hlb hP ⊢;obtain⟨aa,ac,hav⟩:=hna.1.slice;obtain⟨ba,bc,hbv⟩:=hnb.1.slice;obtain⟨na,hnae⟩:∃n,n=al.length:=⟨_,rfl⟩
 obtain⟨nb,hnbe⟩:∃n,n=bl.length:=⟨_,rfl⟩
 rw[<- hnae]at hav;rw[<- hnbe]at hbv;subst hav hbv;obtain⟨o1,ho1⟩:∃o,o=Obj.cells #[.slice (some ⟨hb,0,none⟩) nr cap] 88 (0,0):=⟨_,rfl⟩
 obtain⟨o2,ho2⟩:∃o,o=Obj.cells #[.pointer (some ⟨sb,0,none⟩)] 72 (0,0):=⟨_,rfl⟩
 obtain⟨o3,ho3⟩:∃o,o=Obj.cells #[.int .i64 (b:Int)] 3 (0,0):=⟨_,rfl⟩
 obtain⟨o4,ho4⟩:∃o,o=Obj.cells #[.slice none 0 0] 63 (0,0):=⟨_,rfl⟩
 obtain⟨o5,ho5⟩:∃o,o=Obj.cells #[.slice aa na ac] 63 (0,0):=⟨_,rfl⟩
 obtain⟨w4,hw4⟩:∃W,W=(((w.alloc o1).alloc o2).alloc o3).alloc o4:=⟨_,rfl⟩
 have hs4:w4.heap.size=w.heap.size+4:=by rw[hw4];simp
 have hb4:Below w.heap.size w w4:=by rw[hw4];exact((((zF _ _).alloc (zD _) _).alloc (by simp) _).alloc (by simp;omega) _).alloc (by simp;omega) _
 obtain⟨w5,hw5⟩:∃W,W=w4.drew.alloc o5:=⟨_,rfl⟩
 have hs5:w5.heap.size=w.heap.size+5:=by rw[hw5];simp;omega
 have hb45:Below w4.heap.size w4 w5:=by rw[hw5];exact(zF _ _).drew.alloc (zD _) _
 have hb5:Below w.heap.size w w5:=hb4.trans (hb45.mono hb4.size);have g1:w4.heap[w.heap.size]?=some o1:=by rw[hw4];exact get_atG [o1,o2,o3,o4] w 0 (by simp)
 have g2:w4.heap[w.heap.size+1]?=some o2:=by rw[hw4];exact get_atG [o1,o2,o3,o4] w 1 (by simp)
 have g3:w4.heap[w.heap.size+2]?=some o3:=by rw[hw4];exact get_atG [o1,o2,o3,o4] w 2 (by simp)
 have g4:w4.heap[w.heap.size+3]?=some o4:=by rw[hw4];exact get_atG [o1,o2,o3,o4] w 3 (by simp)
 have g5:w5.heap[w.heap.size+4]?=some o5:=by
  rw[hw5,<- hs4];exact heap_alloc_new w4.drew o5
 obtain⟨T0,hT0⟩:∃T:Nat->Prop,T=Plus S w.heap.size w5.heap.size:=⟨_,rfl⟩
 obtain⟨S0,hS0⟩:∃T:Nat->Prop,T=fun k=>Plus S w.heap.size w5.heap.size k/\k≠w.heap.size+3:=⟨_,rfl⟩
 have HT0:Hid (∀k,T0 k↔(S k\/(w.heap.size<=k/\k<w5.heap.size))):=zA (fun k=>by rw[hT0];exact Iff.rfl);have HS0:Hid (∀k,S0 k↔((S k\/(w.heap.size<=k/\k<w5.heap.size))/\k≠w.heap.size+3)):=zA (fun k=>by rw[hS0];exact Iff.rfl);have hSS0:∀k,S k->S0 k:=fun k hk=>(HS0.out k).2 ⟨.inl hk,by have:=hS k hk;omega⟩
 have hLow0:Low S0 w5:=fun k hk=>by
  rcases ((HS0.out k).1 hk).1 with h1|h1
  . have:=hS k h1;omega
  . exact h1.2
 have hSR5:SrS T0 w5 sb d s m:=by rw[hT0];exact h.plus hb5
 have hbv5:NatC S0 w5 (.slice ba nb bc) bl:=hnb.keep hb5.size (fun k hk hlk=>⟨hSS0 k (hZ k hk.1),hb5.block k hlk⟩);have hav5:NatC S0 w5 (.slice aa na ac) al:=hna.keep hb5.size (fun k hk hlk=>⟨hSS0 k (hZ k hk.1),hb5.block k hlk⟩);have hLS:LstS S0 w5 (.slice (some ⟨w.heap.size+4,0,none⟩) 1 1) [(.slice aa na ac,al)]:=by
  refine⟨?_,fun r hr2=>by rw[zJ.1 hr2];exact hav5.1⟩;have hvr:VRow w5 (w.heap.size+4) 63 ([((.slice aa na ac:Value),al)].flatMap csRow):=by
   rw[ho5]at g5;exact g5
  exact(hvr.sl csRow_len rfl).sub (fun k hk _=>by subst hk;exact(HS0.out _).2 ⟨.inr ⟨by omega,by omega⟩,by omega⟩)
 have g1':=(hb45.block _ (lt_of_block g1)).trans g1;have g2':=(hb45.block _ (lt_of_block g2)).trans g2;have g3':=(hb45.block _ (lt_of_block g3)).trans g3;have g4':=(hb45.block _ (lt_of_block g4)).trans g4;rw[ho1]at g1';rw[ho2]at g2';rw[ho3]at g3';rw[ho4]at g4';have hfound:=strike1_any (av:=.slice aa na ac) (al:=al) (P:=P) (d:=d) hLow0 (fun hk=>((HS0.out _).1 hk).2 rfl) ⟨g1',(HS0.out _).2 ⟨.inr ⟨zD _,by omega⟩,by omega⟩⟩ ⟨g3',(HS0.out _).2 ⟨.inr ⟨by omega,by omega⟩,by omega⟩⟩ ⟨g2',(HS0.out _).2 ⟨.inr ⟨by omega,by omega⟩,by omega⟩⟩ ⟨(hb5.cell (p:=⟨hb,b,none⟩) hbl).trans cb,hSS0 hb hbS⟩ hbl2 hbv5 hlb.1 hlb.2 hP (fun k hk=>hSS0 k (h.kS k hk));have hT5:TabG w5:=hT.below (B:=w.heap.size) (hS 0 h0) hb5;have CE:=zA (each_any (fn:=96) (Inv:=SInv w5 S0 (w.heap.size+3) (bl.filter P)) (v:=.slice (some ⟨w.heap.size+4,0,none⟩) 1 1) (enters_of Tryz.func96 (by kernel_rfl) rfl) hSR5 (fun k hk=>by
  rcases (HT0.out k).1 hk with h1|h1
  . have:=hS k h1;omega
  . exact h1.2) hr hn hol (by simp) (fun r hr2=>by rw[zJ.1 hr2];exact hla) (fun i T x y hi hf=>hi.keep hf) (fun i T x hi=>⟨(hLS.fr hi.fr).sub (fun k hk _=>hi.sub k hk),hT5.fr (hSS0 0 h0) hi.fr,hi.sub 0 (hSS0 0 h0)⟩) hfound ⟨fun k hk=>(HT0.out k).2 ((HS0.out k).1 hk).1,Fr.refl _ _,(HT0.out _).2 (.inr ⟨by omega,by omega⟩),.slice none 0 0,g4',by intro g hg;simp[Value.ownBlock]at hg,.inl ⟨rfl,rfl⟩⟩)
 have KC:Hid (∀u:World,Fr S0 w5 u->u.cell? ⟨w.heap.size,0,none⟩=some (.slice (some ⟨hb,0,none⟩) nr cap)/\u.cell? ⟨w.heap.size+1,0,none⟩=some (.pointer (some ⟨sb,0,none⟩))/\u.cell? ⟨w.heap.size+2,0,none⟩=some (.int .i64 (b:Int))/\u.cell? ⟨hb,a,none⟩=some (.slice aa na ac)/\u.cell? ⟨hb,b,none⟩=some (.slice ba nb bc)/\u.frozen? ⟨hb,b,none⟩=false):=zA (fun u hu=>by
  have x1:=(hu.block _ ((HS0.out (w.heap.size)).2 ⟨.inr ⟨zD _,by omega⟩,by omega⟩)).trans g1';have x2:=(hu.block _ ((HS0.out (w.heap.size+1)).2 ⟨.inr ⟨by omega,by omega⟩,by omega⟩)).trans g2';have x3:=(hu.block _ ((HS0.out (w.heap.size+2)).2 ⟨.inr ⟨by omega,by omega⟩,by omega⟩)).trans g3';have x4:=(hu.block hb (hSS0 hb hbS)).trans (hb5.block hb hbl);exact⟨by simp[World.cell?,x1],by simp[World.cell?,x2],by simp[World.cell?,x3],by simpa only[World.cell?,x4]using ca,by simpa only[World.cell?,x4]using cb,by simpa only[World.frozen?,x4]using fb⟩)
 have KS:Hid (∀u,Below w4.heap.size w4 u->u.cell? ⟨w.heap.size,0,none⟩=some (.slice (some ⟨hb,0,none⟩) nr cap)/\u.cell? ⟨w.heap.size+1,0,none⟩=some (.pointer (some ⟨sb,0,none⟩))/\u.cell? ⟨hb,a,none⟩=some (.slice aa na ac)):=zA (fun u hu=>by
  have x1:=(hu.block _ (lt_of_block g1)).trans g1;have x2:=(hu.block _ (lt_of_block g2)).trans g2;rw[ho1]at x1;rw[ho2]at x2;have x4:=(hu.block hb (by omega)).trans (hb4.block hb hbl);exact⟨by simp[World.cell?,x1],by simp[World.cell?,x2],by simpa only[World.cell?,x4]using ca⟩)
 have HA0:Hid (Below w4.heap.size w4 w4.drew):=zA (zF _ _).drew;have HA1:Hid (Below w4.heap.size w4 (w4.drew.alloc (.cells #[.slice aa na ac] 63))):=zA ((zF _ _).drew.alloc (zD _) _);have HW5:Hid ((w4.alloc (.cells #[.slice aa na ac] 63)).drew=w5):=zA (by rw[hw5,ho5];rfl);have HS4:=zA hs4;have HFINF:Hid (∀(wE:World) (T:Nat->Prop) (sE:Ss) (mE:Sp),(∀k,T0 k->T k)->Low T wE->SrS T wE sb d sE mE->Rest d sE->SInv w5 S0 (w.heap.size+3) (bl.filter P) 1 T wE->∀lv,wE.heap[w.heap.size+3]?=some (.cells #[lv] 63 (0,0))->
  ((bl.filter P).length=nb->StrE S Z w sb d (.slice (some ⟨hb,0,none⟩) nr cap) rows b bl (bl.filter P) (.returned (.bool false)) wE.drew)/\(¬(bl.filter P).length=nb->StrE S Z w sb d (.slice (some ⟨hb,0,none⟩) nr cap) rows b bl (bl.filter P) (.returned (.bool true)) (wE.drew.setCell ⟨hb,b,none⟩ lv))):=zA (fun wE T sE mE t1 t2 t3 t4 t5 lv hlv=>by
  obtain⟨lv2,u1,u2,u3⟩:=t5.ex;rw[hlv]at u1;injection u1 with u1;injection u1 with u1;have u1:lv=lv2:=by simpa using u1
  subst u1;have hown:wE.ownsRow 0 3 1 lv (bl.filter P).length ((bl.filter P).flatMap csI):=by
   rcases u3 with⟨x,_⟩|⟨_,x⟩
   . omega
   . exact x
  have hST:∀k,S k->T k:=fun k hk=>t1 k ((HT0.out k).2 (.inl hk))
  have hfrw:Fr S w wE:=⟨t5.fr.os.trans hb5.os,t5.fr.tape.trans hb5.tape,t5.fr.output.trans hb5.output,zQ hb5.size t5.fr.size,fun k hk=>(t5.fr.block k (hSS0 k hk)).trans (hb5.block k (hS k hk))⟩
  have hch:ChO (fun k=>(Z k\/w.heap.size<=k)/\T k) wE (.slice (some ⟨hb,0,none⟩) nr cap) rows:=by
   refine⟨?_,fun g hg=>⟨.inl (hc.own g hg),hST g (hZ g (hc.own g hg))⟩,fun r hr2=>(hc.ats r hr2).keep hfrw.size (fun k hk _=>⟨⟨⟨.inl hk.1,hST k (hZ k hk.1)⟩,hk.2⟩,hfrw.block k (hZ k hk.1)⟩)⟩;exact owns_key hc.row (fun g o hg ho=>(hfrw.block g (hZ g (hc.own g hg))).trans ho)
  constructor
  . intro heq;refine⟨?_,T,sE,mE,rows,hST,t2,t3.below (zF _ _).drew,t4,⟨hch.row.drew,hch.own,fun r hr2=>(hch.ats r hr2).below (zF _ _).drew⟩,?_,?_⟩
    . rw[decide_eq_false];rw[heq,hnbe];simp
    . have hM:bl.filter P=bl:=List.filter_eq_self.2 (List.length_filter_eq_length_iff.1 (by rw[heq,hnbe]));rw[hM];apply List.ext_getElem?;intro j;rw[List.getElem?_set];by_cases ej:b=j
      . subst ej;rw[if_pos rfl,if_pos (by rw[zH];omega),zI,hrb];rfl
      . rw[if_neg ej]
    . exact⟨hfrw.os,hfrw.tape,hfrw.output,hfrw.size,fun k hk=>hfrw.block k hk.1⟩
  . intro hneq;have hset:∀k,k≠hb->(wE.drew.setCell ⟨hb,b,none⟩ lv).heap[k]?=wE.heap[k]?:=fun k hk=>zL wE.drew ⟨hb,b,none⟩ lv k hk
    have hszE:w5.heap.size<=wE.heap.size:=t5.fr.size;have hTb:T hb:=hST hb hbS;refine⟨?_,T,sE,mE,rows.set b (lv,bl.filter P),hST,by intro k hk;have:=t2 k hk;simpa using this,?_,t4,⟨?_,fun g hg=>hch.own g hg,fun r hr2=>?_⟩,?_,?_⟩
    . rw[yA];rw[hnbe]at hneq;exact hneq
    . exact t3.keep (by simp) (fun k hk ho=>⟨t3.own_no ho,hset k (fun e=>t3.own_no ho (e▸hTb))⟩) (fun k hk hkk=>hset k (fun e=>hkv k hkk (by rw[e];rfl))) t3.kS
    . have h1:wE.drew.ownsRow 0 63 1 (.slice (some ⟨hb,0,none⟩) nr cap) nr (rows.flatMap csRow):=by
       have:=hch.row.drew;rw[<- hnr]at this;exact this
      rw[List.length_set,flat_set,<- hnr];exact(h1.stored b lv).1
    . obtain⟨j,hj⟩:=List.getElem?_of_mem hr2;rw[List.getElem?_set]at hj;have hlift:∀ {q:Value} {L:List Nat},NatC (fun k=>((Z k\/w.heap.size<=k)/\T k)/\(Value.slice (some ⟨hb,0,none⟩) nr cap).ownBlock≠some k) wE q L->NatC (fun k=>((Z k\/w.heap.size<=k)/\T k)/\(Value.slice (some ⟨hb,0,none⟩) nr cap).ownBlock≠some k) (wE.drew.setCell ⟨hb,b,none⟩ lv) q L:=fun hq=>hq.keep (by simp) (fun k hk _=>⟨hk,hset k (fun e=>hk.2 (by rw[e];rfl))⟩)
      split at hj
      . split at hj
        . injection hj with hj;subst hj;exact hlift ((own_natC hown).sub (fun k hk _=>⟨⟨.inr (by have:=(u2 k hk).2;omega),(u2 k hk).1⟩,fun e=>by
           have h2:=(u2 k hk).2;have h3:hb=k:=by simpa[Value.ownBlock]using e
           omega⟩))
        . cases hj
      . exact hlift (hch.ats r (zC hj))
    . rw[List.map_set]
    . exact⟨hfrw.os,hfrw.tape,hfrw.output,by simpa using hfrw.size,fun k hk=>(hset k (fun e=>hk.2 (by rw[e];rfl))).trans (hfrw.block k hk.1)⟩)
 have HS5:=zA hs5;have haI:(a:Int)<(nr:Int):=by omega
 have hbI:(b:Int)<(nr:Int):=by omega
 obtain⟨M,hM⟩:∃M,M=bl.filter P:=⟨_,rfl⟩
 rw[<- hM]at CE HFINF ⊢;obtain⟨Q,hQ⟩:∃Q,Q=StrE S Z w sb d (.slice (some ⟨hb,0,none⟩) nr cap) rows b bl M:=⟨_,rfl⟩
 rw[<- hQ]at HFINF ⊢;have hMl:M.length<=10000:=by rw[hM];exact zQ (yC _ _) hlb.2
 clear h hS hr hn hol hT h0 hc hZ hbZ hra hrb hl hP hkv hbo hbS hnr hna hnb hla hlb ca cb fb hb4 hb45 hb5 g1 g2 g3 g4 g5 hT0 hS0 hSS0 hLow0 hSR5 hbv5 hav5 hLS g1' g2' g3' g4' hfound hT5 hs4 hs5 hnae hnbe hM hQ h0v;go_enter Tryz.func67,Tryz.ntmps67;go_wp2_with fail;rw[<- ho1,<- ho2,<- ho3,<- ho4,<- hw4];clear ho1 ho2 ho3 ho4 hw4 hw5 ho5;refine wp_region_held_drew (S:=fun u=>u.cell? ⟨w.heap.size,0,none⟩=some (.slice (some ⟨hb,0,none⟩) nr cap)/\u.cell? ⟨w.heap.size+1,0,none⟩=some (.pointer (some ⟨sb,0,none⟩))/\u.cell? ⟨hb,a,none⟩=some (.slice aa na ac)) (by kernel_rfl) ?_ (fun hHeld=>?_)
 . exact KS.out _ HA0.out
 refine tkH (i:=0) (oi:=⟨some 10,.load 72 (.tmp 5),72, "join.go:160",#[],none⟩) (v:=?_) rfl ?_ hHeld ?_;rotate_left 1
 . rintro W ⟨l1,l2,l3⟩;go_simp;try with_reducible rfl
 simp only[Act.put,zIB,zSZ,zSS];refine tkH (i:=1) (oi:=⟨some 11,.load 88 (.tmp 4),88, "join.go:160",#[],none⟩) (v:=?_) rfl ?_ hHeld ?_;rotate_left 1
 . rintro W ⟨l1,l2,l3⟩;go_simp;try with_reducible rfl
 simp only[Act.put,zIB,zSZ,zSS];refine tkH (i:=2) (oi:=⟨some 12,.move (.tmp 2),3, "join.go:160",#[],none⟩) (v:=?_) rfl ?_ hHeld ?_;rotate_left 1
 . rintro W ⟨l1,l2,l3⟩;go_simp;try with_reducible rfl
 simp only[Act.put,zIB,zSZ,zSS];refine tkH (i:=3) (oi:=⟨some 13,.indexAddr 88 (.tmp 11) (.tmp 12),0, "join.go:160",#[⟨1,.data⟩,⟨2,.data⟩],none⟩) (v:=?_) rfl ?_ hHeld ?_;rotate_left 1
 . rintro W ⟨l1,l2,l3⟩;go_simp;try with_reducible rfl
 simp only[Act.put,zIB,zSZ,zSS];refine tkH (i:=4) (oi:=⟨some 14,.load 63 (.tmp 13),63, "join.go:160",#[⟨3,.data⟩],none⟩) (v:=?_) rfl ?_ hHeld ?_;rotate_left 1
 . rintro W ⟨l1,l2,l3⟩;go_simp;try with_reducible rfl
 simp only[Act.put,zIB,zSZ,zSS];refine tkH (i:=6) (oi:=⟨some 16,.makeFunc (.func 96) #[] #[.tmp 4,.tmp 7,.tmp 5,.tmp 9],81, "join.go:160",#[],none⟩) (v:=?_) rfl ?_ hHeld ?_;rotate_left 1
 . rintro W ⟨l1,l2,l3⟩;go_simp;try with_reducible rfl
 simp only[Act.put,zIB,zSZ,zSS];refine wpAnyH_ready (rs:=[5]) (by kernel_rfl) (by simp) ?_;refine AllReadyH.cons (o:=⟨some 15,.buildSlice 59 1 #[(0,.tmp 14)],59, "join.go:160",#[⟨4,.data⟩],none⟩) rfl (fun K hK=>?_) AllReadyH.nil;go_simp;refine hK.out _ _ (KS.out _ HA1.out) (fun hHeld=>?_);clear hK K;refine wpAnyH_ready (rs:=[7]) (by kernel_rfl) (by simp) ?_;refine AllReadyH.cons (o:=⟨some 17,.call { callee:=.value (.func 28),args:=#[.tmp 10,.tmp 15,.tmp 16],argTypes:=#[72,59,81] },0, "join.go:160",#[⟨0,.data⟩,⟨5,.data⟩,⟨6,.data⟩],none⟩) rfl (fun K hK=>?_) AllReadyH.nil;go_simp;rw[HW5.out,HS4.out];refine CE.out.mono ?_;rintro e wE ⟨rfl,T,sE,mE,t1,t2,t3,t4,t5⟩;have HFE:=zA t5.fr;obtain⟨lv,u1,u2,u3⟩:=t5.ex;have hF:=HFINF.out wE T sE mE t1 t2 t3 t4 t5 lv u1;have HF:=zA hF;have hown:wE.ownsRow 0 3 1 lv M.length (M.flatMap csI):=by
  rcases u3 with⟨x,_⟩|⟨_,x⟩
  . simp at x
  . exact x
 obtain⟨la,lc,hlv⟩:=own_slice hown;obtain⟨nM,hnM⟩:∃n,n=M.length:=⟨_,rfl⟩
 rw[<- hnM]at hlv hMl;subst hlv;rw[<- hnM]at HF;obtain⟨k1,k2,k3,k4,k5,k6⟩:=KC.out wE HFE.out;have k7:wE.cell? ⟨w.heap.size+3,0,none⟩=some (.slice la nM lc):=by simp[World.cell?,u1]
 have hKE:wE.cell? ⟨w.heap.size,0,none⟩=some (.slice (some ⟨hb,0,none⟩) nr cap)/\wE.cell? ⟨w.heap.size+1,0,none⟩=some (.pointer (some ⟨sb,0,none⟩))/\wE.cell? ⟨hb,a,none⟩=some (.slice aa na ac):=⟨k1,k2,k4⟩
 refine hK.out _ _ hKE (fun hHeld=>?_);clear hK K t1 t2 t3 t4 t5 u1 u2 u3 hF hown hnM hKE;refine wpAnyH_done (by kernel_rfl) ?_ _;by_cases heq:nM=nb
 . have HX:=zA (HF.out.1 heq);subst heq;clear HF;go_wp2_with fail;go_region;go_wp2;exact HX.out
 . have HX:=zA (HF.out.2 heq);have hne1:¬(nM:Int)=(nb:Int):=by omega
   have hne2:((nM:Int)==(nb:Int))=false:=by simp;omega
   clear HF;go_wp2_with fail;go_region;go_wp2;exact HX.out
abbrev Sx:=Nat×Sd×Sp
abbrev OwnX(x:Sx)(k:Nat):Prop:=OwnB x.1 x.2.2 k
structure Pool (w:World) (l:List Sx):Prop where
 at_:∀x∈l,∃s,SrS (fun k=>k<w.heap.size/\¬OwnX x k) w x.1 x.2.1 s x.2.2/\Rest x.2.1 s
 apart:∀(i j:Nat) x y,l[i]?=some x->l[j]?=some y->i≠j->∀k,OwnX x k->¬OwnX y k
 kp:∀x∈l,∀y∈l,∀k,x.2.1.kp k->¬OwnX y k
theorem Pool.own_lt{w:World}{l:List Sx}(h:Pool w l){x:Sx}(hx:x∈l){k:Nat}(hk:OwnX x k):k<w.heap.size:=by
 obtain⟨s,hs,_⟩:=h.at_ x hx;exact hs.own_lt hk
theorem Pool.kp_lt{w:World}{l:List Sx}(h:Pool w l){x:Sx}(hx:x∈l){k:Nat}(hk:x.2.1.kp k):k<w.heap.size:=by
 obtain⟨s,hs,_⟩:=h.at_ x hx;exact(hs.kS k hk).1
theorem Pool.keep{w w':World}{l:List Sx}(h:Pool w l)(hz:w.heap.size<=w'.heap.size)(hk:∀x∈l,∀k,(OwnX x k\/x.2.1.kp k)->w'.heap[k]?=w.heap[k]?):Pool w' l:=
 ⟨fun x hx=>by
  obtain⟨s,hs,hr⟩:=h.at_ x hx;exact⟨s,hs.keep hz (fun k _ ho=>⟨fun h2=>h2.2 ho,hk x hx k (.inl ho)⟩) (fun k _ hkk=>hk x hx k (.inr hkk)) (fun k hkk=>⟨zO (h.kp_lt hx hkk) hz,h.kp x hx x hx k hkk⟩),hr⟩,h.apart,h.kp⟩
theorem Pool.below{w w':World}{l:List Sx}(h:Pool w l)(hb:Below w.heap.size w w'):Pool w' l:=
 h.keep hb.size (fun _ hx k hk=>hb.block k (hk.elim (h.own_lt hx) (h.kp_lt hx)))
theorem Pool.turn{w w':World}{l:List Sx}(h:Pool w l){i:Nat}{x:Sx}(hi:l[i]?=some x){T:Nat->Prop}{s':Ss}{m':Sp}(hT:∀k,(k<w.heap.size/\¬OwnX x k)->T k)(hTl:Low T w')(hs:SrS T w' x.1 x.2.1 s' m')(hr:Rest x.2.1 s')(hz:w.heap.size<=w'.heap.size)(hk:∀y∈l,∀k,(OwnX y k\/y.2.1.kp k)->¬OwnX x k->w'.heap[k]?=w.heap[k]?):Pool w' (l.set i (x.1,x.2.1,m')):=by
 have hil:=(zE.1 hi).1;have hset:∀j,(l.set i (x.1,x.2.1,m'))[j]?=if i=j then some (x.1,x.2.1,m')else l[j]?:=fun j=>by
  rw[List.getElem?_set];simp[hil]
 have hxm:=zC hi;have hcase:∀y∈l.set i (x.1,x.2.1,m'),y=(x.1,x.2.1,m')\/∃j,j≠i/\l[j]?=some y:=fun y hy=>by
  obtain⟨j,hj⟩:=List.getElem?_of_mem hy;rw[hset]at hj;split at hj
  . injection hj with hj;exact .inl hj.symm
  . rename_i hne;exact .inr ⟨j,fun e=>hne e.symm,hj⟩
 have hold:∀ {y:Sx} {j:Nat},j≠i->l[j]?=some y->∀k,OwnX y k->T k:=fun {y j} hne hj k hk2=>hT k ⟨h.own_lt (zC hj) hk2,fun h2=>h.apart j i y x hj hi hne k hk2 h2⟩
 have hkpT:∀y∈l,∀k,y.2.1.kp k->T k:=fun y hy k hk2=>hT k ⟨h.kp_lt hy hk2,h.kp y hy x hxm k hk2⟩
 have hnew:∀k,OwnX (x.1,x.2.1,m') k->¬T k:=fun k hk2=>hs.own_no hk2
 refine⟨fun y hy=>?_,fun a b y z hy hz2 hab k h1 h2=>?_,fun y hy z hz2 k h1 h2=>?_⟩
 . rcases hcase y hy with rfl|⟨j,hne,hj⟩
   . exact⟨s',hs.keep (zD _) (fun k _ ho=>⟨fun h2=>h2.2 ho,rfl⟩) (fun _ _ _=>rfl) (fun k hkk=>⟨hTl k (hs.kS k hkk),fun ho=>hnew k ho (hs.kS k hkk)⟩),hr⟩
   . have hym:=zC hj;obtain⟨s,hs2,hr2⟩:=h.at_ y hym;exact⟨s,hs2.keep hz (fun k _ ho=>⟨fun h2=>h2.2 ho,hk y hym k (.inl ho) (fun h2=>h.apart j i y x hj hi hne k ho h2)⟩) (fun k _ hkk=>hk y hym k (.inr hkk) (h.kp y hym x hxm k hkk)) (fun k hkk=>⟨zO (h.kp_lt hym hkk) hz,h.kp y hym y hym k hkk⟩),hr2⟩
 . rw[hset]at hy hz2;split at hy
   . rename_i ea;injection hy with hy;subst hy;rw[if_neg (fun e=>hab (ea.symm.trans e))]at hz2;exact hnew k h1 (hold (fun e=>hab (ea.symm.trans e.symm)) hz2 k h2)
   . rename_i ea;split at hz2
     . rename_i eb;injection hz2 with hz2;subst hz2;exact hnew k h2 (hold (fun e=>ea e.symm) hy k h1)
     . exact h.apart a b y z hy hz2 hab k h1 h2
 . rcases hcase z hz2 with rfl|⟨j,_,hj⟩
   . rcases hcase y hy with rfl|⟨j2,_,hj2⟩
     . exact hnew k h2 (hkpT x hxm k h1)
     . exact hnew k h2 (hkpT y (zC hj2) k h1)
   . rcases hcase y hy with rfl|⟨j2,_,hj2⟩
     . exact h.kp x hxm z (zC hj) k h1 h2
     . exact h.kp y (zC hj2) z (zC hj) k h1 h2
def QRow(B:Nat)(w:World)(v:Value)(L:List Nat):Prop:=
 (v=.slice none 0 0/\L=[])\/∃g off cap cur,v=.slice (some ⟨g,off,none⟩) L.length cap/\B<=g/\w.heap[g]?=some (.cells cur 3 (0,0))/\off+cap<=cur.size/\L.length<=cap/\∀(j:Nat) x,L[j]?=some x->cur[off+j]?=some (.int .i64 (x:Int))
theorem QRow.of_own{B:Nat}{w:World}{v:Value}{L:List Nat}(h:w.ownsRow B 3 1 v L.length (L.flatMap csI)):QRow B w v L:=by
 rcases h.2 with⟨e,h0⟩|⟨g,cap,cur,e1,e2,e3,e4,e5,e6,e7⟩
 . exact .inl ⟨e,yP.1 h0⟩
 . refine .inr ⟨g,0,cap,cur,e1,e2,e3,by omega,e4,fun j x hx=>?_⟩;have hj:=(zE.1 hx).1;have h8:(L.flatMap csI)[j]?=some (.int .i64 (x:Int)):=by
    rw[flat_mapI,zI,zI,hx];rfl
   rw[<- e7,List.getElem?_take]at h8;split at h8
   . rw[Nat.zero_add,<- Array.getElem?_toList];exact h8
   . cases h8
theorem QRow.keep{B:Nat}{w w':World}{v:Value}{L:List Nat}(h:QRow B w v L)(hk:∀g,B<=g->(∃off n c,v=.slice (some ⟨g,off,none⟩) n c)->w'.heap[g]?=w.heap[g]?):QRow B w' v L:=by
 rcases h with h|⟨g,off,cap,cur,e1,e2,e3,e4,e5,e6⟩
 . exact .inl h
 . exact .inr ⟨g,off,cap,cur,e1,e2,(hk g e2 ⟨off,_,cap,e1⟩).trans e3,e4,e5,e6⟩
end Go.Proofs.YtkbgmcmcpbegjabGreatDoor
