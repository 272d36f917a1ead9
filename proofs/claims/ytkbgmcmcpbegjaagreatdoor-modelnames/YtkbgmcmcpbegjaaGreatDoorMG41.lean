/- MNames, MSmall. -/
import Derived.Test.YtkbgmcmcpbegjaaGreatDoorMG38
import Derived.Test.YtkbgmcmcpbegjaaGreatDoorMG27
import Derived.Test.YtkbgmcmcpbegjaaGreatDoorMG3
import Derived.Test.YtkbgmcmcpbegjaaGreatDoorMG11
set_option maxRecDepth 100000
namespace Go.Proofs.YtkbgmcmcpbegjaaGreatDoor
open Go.RowKit Go.Shelf
set_option maxHeartbeats 2000000 in
theorem rInQ_any{S:Nat->Prop}{w:World}{v:Value}{L:List Wd}(h:TxtS S w v L)(hl:L.length<=9223372036854775806)(s:Wd):
 Calls Tryz.prog 69 #[v,.string ⟨s.toArray⟩] w fun e w'=>e=.returned (.bool (decide (s∈L)))/\w'=w:=by
 obtain⟨la,lc,rfl⟩:=h.slice;have H:=zA h;obtain⟨n,hn⟩:∃n,n=L.length:=⟨_,rfl⟩
 rw[<- hn]at H hl ⊢;have HN:=zA hn;obtain⟨r,hr⟩:∃r,r=decide (s∈L):=⟨_,rfl⟩
 rw[<- hr];have HR:=zA hr;clear h hn hr;go_enter Tryz.func69,Tryz.ntmps69;go_wp2_with fail;go_loopw [5] (fun c wr=>∃k:Nat,k<=n/\c=.int .i64 k/\(∀j,j<k->L[j]?≠some s)/\wr=w) (fun c _=>n-(intOf c).toNat)
 case atStart=>exact⟨0,zO _,rfl,fun j hj=>absurd hj (by omega),rfl⟩
 case round=>
  obtain⟨k,hk,rfl,hall,rfl⟩:=hrel;have HAll:=zA hall;clear hall;by_cases hlt:k<n
  . have hltI:(k:Int)<(n:Int):=by omega
    obtain⟨x,hx⟩:∃x,L[k]?=some x:=⟨_,zB (by rw[<- HN.out];exact hlt)⟩
    obtain⟨g,off,hla,_,_,hcell⟩:=H.out.get hx;subst hla;have q0:=hcell 0 _ rfl;rw[yD,yA]at q0;have HX:=zA hx;clear hx hcell;by_cases exs:x=s
    . have HT:Hid (r=true):=zA (by rw[HR.out];exact zU (by rw[<- exs];exact zC HX.out));subst exs;go_wp2;go_ret;exact⟨by rw[HT.out];rfl,rfl⟩
    . obtain⟨e1,e2⟩:=not_bothW exs;have HA3:Hid (∀j,j<k+1->L[j]?≠some s):=zA (fun j hj=>by
       by_cases e:j=k
       . subst e;rw[HX.out];intro h;injection h with h;exact exs h
       . exact HAll.out j (by omega))
      clear exs;go_wp2;go_roundw
      case rel=>exact⟨k+1,by omega,by go_num,HA3.out,by trivial⟩
      case measure=>simp[intOf];omega
  . have hltI:¬(k:Int)<(n:Int):=by omega
    have HT:Hid (r=false):=zA (by
     rw[HR.out];refine decide_eq_false (fun h=>?_);obtain⟨j,hj⟩:=List.getElem?_of_mem h;have:=(zF.1 hj).1;rw[<- HN.out]at this;exact HAll.out j (by omega) hj)
    go_wp2;go_ret;exact⟨by rw[HT.out];rfl,rfl⟩
theorem own_monoM{w:World}{B B':Nat}{e:TypeId}{size:Nat}{v:Value}{n:Nat}{xs:List Value}(h:w.ownsRow B e size v n xs)(hb:B'<=B):w.ownsRow B' e size v n xs:=by
 refine⟨h.1,?_⟩;rcases h.2 with h0|⟨g,cap,cur,e1,e2,e3⟩
 . exact .inl h0
 . exact .inr ⟨g,cap,cur,e1,zT hb e2,e3⟩
theorem names_lenM(l:List Pa):(namesP l).length<=2*l.length:=by
 have key:∀(l:List Pa) (n:List (List UInt8)),(l.foldl (fun n a=>addN (addN n a.1) a.2.2) n).length<=n.length+2*l.length:=by
  intro l;induction l with
  |nil=>intro n;simp
  |cons a l ih=>
   intro n;rw[yM];have h1:=ih (addN (addN n a.1) a.2.2);have h2:=addN_len (addN n a.1) a.2.2;have h3:=addN_len n a.1;simp only[yG];omega
 have:=key l [];simpa[namesP]using this
theorem atomC{w:World}{b:Nat}{c0 c1 c2 c3 c4 c5 c6:Value}{t:TypeId}(h:w.heap[b]?=some (.cells #[c0,c1,c2,c3,c4,c5,c6] t (0,0))):
 w.cell? ⟨b,0,none⟩=some c0/\w.cell? ⟨b,1,none⟩=some c1/\w.cell? ⟨b,5,none⟩=some c5/\w.cell? ⟨b,6,none⟩=some c6:=by
 simp[World.cell?,h]
set_option maxHeartbeats 40000000 in
theorem rNames_any{S:Nat->Prop}{w:World}{q:Qm}(h:QOk S w q)(hal:q.atoms.length<=1500000000000):
 Calls Tryz.prog 38 #[encQ q] w fun e w'=>∃v,e=.returned v/\w'.ownsRow w.heap.size 9 1 v (namesP (q.atoms.map Am.pa)).length ((namesP (q.atoms.map Am.pa)).flatMap csT)/\Below w.heap.size w w':=by
 obtain⟨i0,hi0,hz0,hz1,hz2⟩:=info_parts infoSM;obtain⟨va,vc,hvv⟩:=h.vs.slice;obtain⟨aa,ac,hav⟩:=h.ats.slice;have HA:=zA h.ats;have HOK:=zA h.ok;obtain⟨na,hna⟩:∃n,n=q.atoms.length:=⟨_,rfl⟩
 obtain⟨nv,hnv⟩:∃n,n=q.vars.length:=⟨_,rfl⟩
 rw[<- hna]at hav hal;rw[<- hnv]at hvv;rw[hav]at HA;have HNA:=zA hna;obtain⟨R,hR⟩:∃R,R=namesP (q.atoms.map Am.pa):=⟨_,rfl⟩
 rw[<- hR];have HR:=zA hR;show Calls Tryz.prog _ #[.agg #[q.vv,q.av]] w _;rw[hvv,hav];clear h hvv hav hna hnv hR;obtain⟨o,ho⟩:∃o,o=Obj.cells #[.slice va nv vc,.slice aa na ac] 38:=⟨_,rfl⟩
 have HOB:=zA ho;have HC:Hid (∀wr,Below (w.alloc o).heap.size (w.alloc o) wr->wr.cell? ⟨w.heap.size,0,none⟩=some (.slice va nv vc)/\wr.cell? ⟨w.heap.size,1,none⟩=some (.slice aa na ac)):=zA (fun wr hb=>by
  have h:=box_keptQ hb;rw[HOB.out]at h;simp[World.cell?,h])
 have HB0:Hid (Below (w.alloc o).heap.size (w.alloc o) (w.alloc (.cells #[.slice va nv vc,.slice aa na ac] 38))):=zA (by rw[HOB.out];exact zE _ _);clear ho;go_enter Tryz.func38,Tryz.ntmps38;go_wp2_with fail;go_loopw [3,4] (fun vl c wr=>∃(i:Nat) (u:Value),u=vl/\i<=na/\c=.int .i64 i/\wr.ownsRow (w.heap.size+1) 9 1 u (namesP ((q.atoms.take i).map Am.pa)).length ((namesP ((q.atoms.take i).map Am.pa)).flatMap csT)/\Below (w.alloc o).heap.size (w.alloc o) wr) (fun _ c _=>na-(intOf c).toNat)
 case atStart=>exact⟨0,.slice none 0 0,rfl,zO _,rfl,World.ownsRow_nil _ _ _ _,HB0.out⟩
 case round=>
  obtain⟨i,u,rfl,hi,rfl,hrow,hbq⟩:=hrel;obtain⟨wx,hwx⟩:∃wx,wx=wr:=⟨_,rfl⟩
  subst hwx;obtain⟨N,hN⟩:∃N,N=namesP ((q.atoms.take i).map Am.pa):=⟨_,rfl⟩
  have hNl:N.length<=3000000000000:=by rw[hN];have:=names_lenM ((q.atoms.take i).map Am.pa);rw[zH,zX]at this;omega
  rw[<- hN]at hrow;obtain⟨ua,uc,hu⟩:=own_slice hrow;obtain⟨nu,hnu⟩:∃n,n=N.length:=⟨_,rfl⟩
  rw[<- hnu]at hu hNl;subst hu;have HROW:=zA hrow;have HBQ:=zA hbq;have HNN:=zA hN;have HLU:=zA hnu;clear hrow hbq hN hnu;obtain⟨c0,c1⟩:=HC.out _ HBQ.out;by_cases hlt:i<na
  . have hltI:(i:Int)<(na:Int):=by omega
    obtain⟨a,ha⟩:∃x,q.atoms[i]?=some x:=⟨_,zB (by rw[<- HNA.out];exact hlt)⟩
    have HT:Hid (namesP ((q.atoms.take (i+1)).map Am.pa)=addN (addN N a.1) a.2.2):=zA (by
     rw[zS,ha,yK,HNN.out];exact namesP_snoc _ _)
    obtain⟨g,off,haa,_,_,hcell⟩:=(HA.out.below (below_boxQ HBQ.out)).get ha;subst haa;obtain⟨q0,q1,q2,q3,q4,q5,q6⟩:=getA hcell;obtain⟨pa,pc,hpv⟩:=(HOK.out a (zC ha)).parts.1.slice;obtain⟨pn,hpn⟩:∃n,n=a.2.1.kids.length:=⟨_,rfl⟩
    rw[<- hpn]at hpv;obtain⟨⟨av,an⟩,⟨pk,pw,pv,pl⟩,⟨bv,bn⟩⟩:=a;dsimp only at q0 q1 q2 q3 q4 q5 q6 hpv HT;subst hpv;have HS:Hid (NmR w (wx.alloc (.cells #[.bool av,.string ⟨an.toArray⟩,.int .i64 pk,.string ⟨pw.toArray⟩,.slice pa pn pc,.bool bv,.string ⟨bn.toArray⟩] 55)) o wx.heap.size #[.bool av,.string ⟨an.toArray⟩,.int .i64 pk,.string ⟨pw.toArray⟩,.slice pa pn pc,.bool bv,.string ⟨bn.toArray⟩] (.slice ua nu uc) N):=zA (by
     exact⟨HBQ.out.alloc HBQ.out.size _,heap_alloc_new _ _,HROW.out.alloc _⟩)
    clear ha hcell hpn;cases av with
    |false=>
     have HNa:Hid (addN N (false,an)=N):=zA (by simp[addN]);obtain⟨d0,d1,d5,d6⟩:=atomC HS.out.blk;cases bv with
     |false=>
      have HNb:Hid (addN N (false,bn)=N):=zA (by simp[addN]);obtain⟨d0,d1,d5,d6⟩:=atomC HS.out.blk;have HE:Hid (namesP ((q.atoms.take (i+1)).map Am.pa)=N):=zA (by rw[HT.out,HNa.out,HNb.out]);go_wp2;go_roundw
      case rel=>exact⟨i+1,_,rfl,by omega,by go_num,by rw[HE.out];exact HS.out.row,HS.out.bel⟩
      case measure=>simp[intOf];omega
     |true=>
      obtain⟨d0,d1,d5,d6⟩:=atomC HS.out.blk;have CIb:=zA (rInQ_any (Src.own csT_lenM HS.out.row rfl).sl (by rw[<- HLU.out];omega) bn);by_cases hinb:bn∈N
      . have HNb:Hid (addN N (true,bn)=N):=zA (by simp[addN,hinb]);rw[zU hinb]at CIb;clear hinb;go_wp2_with fail;refine CIb.out.mono ?_;rintro e w5 ⟨rfl,hw5⟩;rw[hw5];clear d0 d1 d5 d6 hw5;have HE:Hid (namesP ((q.atoms.take (i+1)).map Am.pa)=N):=zA (by rw[HT.out,HNa.out,HNb.out]);go_wp2;go_roundw
        case rel=>exact⟨i+1,_,rfl,by omega,by go_num,by rw[HE.out];exact HS.out.row,HS.out.bel⟩
        case measure=>simp[intOf];omega
      . have HNb:Hid (addN N (true,bn)=N++[bn]):=zA (by simp[addN,hinb]);rw[decide_eq_false hinb]at CIb;clear hinb;obtain⟨Xb,hX⟩:∃l,l=N.flatMap csT:=⟨_,rfl⟩
        have HXb:=zA hX;have HRb:Hid ((wx.alloc (.cells #[.bool false,.string ⟨an.toArray⟩,.int .i64 pk,.string ⟨pw.toArray⟩,.slice pa pn pc,.bool true,.string ⟨bn.toArray⟩] 55)).ownsRow (w.heap.size+1) 9 1 (.slice ua nu uc) nu Xb):=zA (by
         have h:=HS.out.row;rw[<- HLU.out,<- hX]at h;exact h)
        have hszb:(w.alloc o).heap.size<=(wx.alloc (.cells #[.bool false,.string ⟨an.toArray⟩,.int .i64 pk,.string ⟨pw.toArray⟩,.slice pa pn pc,.bool true,.string ⟨bn.toArray⟩] 55)).heap.size:=HS.out.bel.size;have hbkb:((wx.alloc (.cells #[.bool false,.string ⟨an.toArray⟩,.int .i64 pk,.string ⟨pw.toArray⟩,.slice pa pn pc,.bool true,.string ⟨bn.toArray⟩] 55)).alloc (.cells #[.string ⟨bn.toArray⟩] 9)).heap[wx.heap.size+1]?=some (.cells #[.string ⟨bn.toArray⟩] 9 (0,0)):=by
         have h:=heap_alloc_new (wx.alloc (.cells #[.bool false,.string ⟨an.toArray⟩,.int .i64 pk,.string ⟨pw.toArray⟩,.slice pa pn pc,.bool true,.string ⟨bn.toArray⟩] 55)) (.cells #[.string ⟨bn.toArray⟩] 9);have e:(wx.alloc (.cells #[.bool false,.string ⟨an.toArray⟩,.int .i64 pk,.string ⟨pw.toArray⟩,.slice pa pn pc,.bool true,.string ⟨bn.toArray⟩] 55)).heap.size=wx.heap.size+1:=by simp
         rw[e]at h;exact h
        have HBKb:=zA hbkb;have HSZb:Hid (w.heap.size+1<=((wx.alloc (.cells #[.bool false,.string ⟨an.toArray⟩,.int .i64 pk,.string ⟨pw.toArray⟩,.slice pa pn pc,.bool true,.string ⟨bn.toArray⟩] 55)).alloc (.cells #[.string ⟨bn.toArray⟩] 9)).heap.size):=zA (by simp at hszb ⊢;omega);clear hX hbkb hszb;go_wp2_with fail;refine CIb.out.mono ?_;rintro e w5 ⟨rfl,hw5⟩;rw[hw5];clear hw5;go_wp2_with (at_builtin;refine wpList_append_lies _ rfl _ _ _ rfl (w.heap.size+1) 9 i0 _ 1 16 Tryz.underlying34 hi0 hz0 hz1 hz2 rfl (by decide) (.slice ua nu uc) _ _ (by rfl) (HRb.out.alloc _) ⟨wx.heap.size+1,0,none⟩ 1 1 (csT bn) (by rfl) (by rfl) (World.news_of_block (cs:=#[.string ⟨bn.toArray⟩]) (t:=9) (fr:=(0,0)) HBKb.out) (by simp[Value.oneCell']) (by decide) (by unfold maxLen;omega) (by omega) HSZb.out _ rfl ?_);intro g9b c9b w9b hown9 hgrow9 hat9 hlt9;obtain⟨N9b,hN2⟩:∃l,l=N++[bn]:=⟨_,rfl⟩
        obtain⟨n9b,hn2⟩:∃n,n=nu+1:=⟨_,rfl⟩
        have HLb:Hid (n9b=N9b.length):=zA (by rw[hN2,hn2,zG,<- HLU.out];rfl);have hnbb:n9b<=nu+1:=by omega
        rw[<- hn2]at hown9 ⊢;have HR9b:Hid (NmR w w9b o wx.heap.size #[.bool false,.string ⟨an.toArray⟩,.int .i64 pk,.string ⟨pw.toArray⟩,.slice pa pn pc,.bool true,.string ⟨bn.toArray⟩] (.slice (some ⟨g9b,0,none⟩) n9b c9b) N9b):=zA (by
         have h:=HS.out.grow (s:=bn) hgrow9 (by
          rw[<- hN2,<- HLb.out,hN2,zR,<- HXb.out];exact hown9)
         rw[<- hN2]at h;exact h)
        have HMb:Hid (addN N (true,bn)=N9b):=zA (by rw[HNb.out,hN2]);clear hown9 hgrow9 hat9 hlt9 hN2 hn2 d0 d1 d5 d6;have HE:Hid (namesP ((q.atoms.take (i+1)).map Am.pa)=N9b):=zA (by rw[HT.out,HNa.out,HMb.out]);go_wp2;go_roundw
        case rel=>exact⟨i+1,_,rfl,by omega,by go_num,by rw[HE.out];exact HR9b.out.row,HR9b.out.bel⟩
        case measure=>simp[intOf];omega
    |true=>
     obtain⟨d0,d1,d5,d6⟩:=atomC HS.out.blk;have CIa:=zA (rInQ_any (Src.own csT_lenM HS.out.row rfl).sl (by rw[<- HLU.out];omega) an);by_cases hina:an∈N
     . have HNa:Hid (addN N (true,an)=N):=zA (by simp[addN,hina]);rw[zU hina]at CIa;clear hina;go_wp2_with fail;refine CIa.out.mono ?_;rintro e w5 ⟨rfl,hw5⟩;rw[hw5];clear d0 d1 d5 d6 hw5;cases bv with
       |false=>
        have HNb:Hid (addN N (false,bn)=N):=zA (by simp[addN]);obtain⟨d0,d1,d5,d6⟩:=atomC HS.out.blk;have HE:Hid (namesP ((q.atoms.take (i+1)).map Am.pa)=N):=zA (by rw[HT.out,HNa.out,HNb.out]);go_wp2;go_roundw
        case rel=>exact⟨i+1,_,rfl,by omega,by go_num,by rw[HE.out];exact HS.out.row,HS.out.bel⟩
        case measure=>simp[intOf];omega
       |true=>
        obtain⟨d0,d1,d5,d6⟩:=atomC HS.out.blk;have CIb:=zA (rInQ_any (Src.own csT_lenM HS.out.row rfl).sl (by rw[<- HLU.out];omega) bn);by_cases hinb:bn∈N
        . have HNb:Hid (addN N (true,bn)=N):=zA (by simp[addN,hinb]);rw[zU hinb]at CIb;clear hinb;go_wp2_with fail;refine CIb.out.mono ?_;rintro e w5 ⟨rfl,hw5⟩;rw[hw5];clear d0 d1 d5 d6 hw5;have HE:Hid (namesP ((q.atoms.take (i+1)).map Am.pa)=N):=zA (by rw[HT.out,HNa.out,HNb.out]);go_wp2;go_roundw
          case rel=>exact⟨i+1,_,rfl,by omega,by go_num,by rw[HE.out];exact HS.out.row,HS.out.bel⟩
          case measure=>simp[intOf];omega
        . have HNb:Hid (addN N (true,bn)=N++[bn]):=zA (by simp[addN,hinb]);rw[decide_eq_false hinb]at CIb;clear hinb;obtain⟨Xb,hX⟩:∃l,l=N.flatMap csT:=⟨_,rfl⟩
          have HXb:=zA hX;have HRb:Hid ((wx.alloc (.cells #[.bool true,.string ⟨an.toArray⟩,.int .i64 pk,.string ⟨pw.toArray⟩,.slice pa pn pc,.bool true,.string ⟨bn.toArray⟩] 55)).ownsRow (w.heap.size+1) 9 1 (.slice ua nu uc) nu Xb):=zA (by
           have h:=HS.out.row;rw[<- HLU.out,<- hX]at h;exact h)
          have hszb:(w.alloc o).heap.size<=(wx.alloc (.cells #[.bool true,.string ⟨an.toArray⟩,.int .i64 pk,.string ⟨pw.toArray⟩,.slice pa pn pc,.bool true,.string ⟨bn.toArray⟩] 55)).heap.size:=HS.out.bel.size;have hbkb:((wx.alloc (.cells #[.bool true,.string ⟨an.toArray⟩,.int .i64 pk,.string ⟨pw.toArray⟩,.slice pa pn pc,.bool true,.string ⟨bn.toArray⟩] 55)).alloc (.cells #[.string ⟨bn.toArray⟩] 9)).heap[wx.heap.size+1]?=some (.cells #[.string ⟨bn.toArray⟩] 9 (0,0)):=by
           have h:=heap_alloc_new (wx.alloc (.cells #[.bool true,.string ⟨an.toArray⟩,.int .i64 pk,.string ⟨pw.toArray⟩,.slice pa pn pc,.bool true,.string ⟨bn.toArray⟩] 55)) (.cells #[.string ⟨bn.toArray⟩] 9);have e:(wx.alloc (.cells #[.bool true,.string ⟨an.toArray⟩,.int .i64 pk,.string ⟨pw.toArray⟩,.slice pa pn pc,.bool true,.string ⟨bn.toArray⟩] 55)).heap.size=wx.heap.size+1:=by simp
           rw[e]at h;exact h
          have HBKb:=zA hbkb;have HSZb:Hid (w.heap.size+1<=((wx.alloc (.cells #[.bool true,.string ⟨an.toArray⟩,.int .i64 pk,.string ⟨pw.toArray⟩,.slice pa pn pc,.bool true,.string ⟨bn.toArray⟩] 55)).alloc (.cells #[.string ⟨bn.toArray⟩] 9)).heap.size):=zA (by simp at hszb ⊢;omega);clear hX hbkb hszb;go_wp2_with fail;refine CIb.out.mono ?_;rintro e w5 ⟨rfl,hw5⟩;rw[hw5];clear hw5;go_wp2_with (at_builtin;refine wpList_append_lies _ rfl _ _ _ rfl (w.heap.size+1) 9 i0 _ 1 16 Tryz.underlying34 hi0 hz0 hz1 hz2 rfl (by decide) (.slice ua nu uc) _ _ (by rfl) (HRb.out.alloc _) ⟨wx.heap.size+1,0,none⟩ 1 1 (csT bn) (by rfl) (by rfl) (World.news_of_block (cs:=#[.string ⟨bn.toArray⟩]) (t:=9) (fr:=(0,0)) HBKb.out) (by simp[Value.oneCell']) (by decide) (by unfold maxLen;omega) (by omega) HSZb.out _ rfl ?_);intro g9b c9b w9b hown9 hgrow9 hat9 hlt9;obtain⟨N9b,hN2⟩:∃l,l=N++[bn]:=⟨_,rfl⟩
          obtain⟨n9b,hn2⟩:∃n,n=nu+1:=⟨_,rfl⟩
          have HLb:Hid (n9b=N9b.length):=zA (by rw[hN2,hn2,zG,<- HLU.out];rfl);have hnbb:n9b<=nu+1:=by omega
          rw[<- hn2]at hown9 ⊢;have HR9b:Hid (NmR w w9b o wx.heap.size #[.bool true,.string ⟨an.toArray⟩,.int .i64 pk,.string ⟨pw.toArray⟩,.slice pa pn pc,.bool true,.string ⟨bn.toArray⟩] (.slice (some ⟨g9b,0,none⟩) n9b c9b) N9b):=zA (by
           have h:=HS.out.grow (s:=bn) hgrow9 (by
            rw[<- hN2,<- HLb.out,hN2,zR,<- HXb.out];exact hown9)
           rw[<- hN2]at h;exact h)
          have HMb:Hid (addN N (true,bn)=N9b):=zA (by rw[HNb.out,hN2]);clear hown9 hgrow9 hat9 hlt9 hN2 hn2 d0 d1 d5 d6;have HE:Hid (namesP ((q.atoms.take (i+1)).map Am.pa)=N9b):=zA (by rw[HT.out,HNa.out,HMb.out]);go_wp2;go_roundw
          case rel=>exact⟨i+1,_,rfl,by omega,by go_num,by rw[HE.out];exact HR9b.out.row,HR9b.out.bel⟩
          case measure=>simp[intOf];omega
     . have HNa:Hid (addN N (true,an)=N++[an]):=zA (by simp[addN,hina]);rw[decide_eq_false hina]at CIa;clear hina;obtain⟨Xa,hX⟩:∃l,l=N.flatMap csT:=⟨_,rfl⟩
       have HXa:=zA hX;have HRa:Hid ((wx.alloc (.cells #[.bool true,.string ⟨an.toArray⟩,.int .i64 pk,.string ⟨pw.toArray⟩,.slice pa pn pc,.bool bv,.string ⟨bn.toArray⟩] 55)).ownsRow (w.heap.size+1) 9 1 (.slice ua nu uc) nu Xa):=zA (by
        have h:=HS.out.row;rw[<- HLU.out,<- hX]at h;exact h)
       have hsza:(w.alloc o).heap.size<=(wx.alloc (.cells #[.bool true,.string ⟨an.toArray⟩,.int .i64 pk,.string ⟨pw.toArray⟩,.slice pa pn pc,.bool bv,.string ⟨bn.toArray⟩] 55)).heap.size:=HS.out.bel.size;have hbka:((wx.alloc (.cells #[.bool true,.string ⟨an.toArray⟩,.int .i64 pk,.string ⟨pw.toArray⟩,.slice pa pn pc,.bool bv,.string ⟨bn.toArray⟩] 55)).alloc (.cells #[.string ⟨an.toArray⟩] 9)).heap[wx.heap.size+1]?=some (.cells #[.string ⟨an.toArray⟩] 9 (0,0)):=by
        have h:=heap_alloc_new (wx.alloc (.cells #[.bool true,.string ⟨an.toArray⟩,.int .i64 pk,.string ⟨pw.toArray⟩,.slice pa pn pc,.bool bv,.string ⟨bn.toArray⟩] 55)) (.cells #[.string ⟨an.toArray⟩] 9);have e:(wx.alloc (.cells #[.bool true,.string ⟨an.toArray⟩,.int .i64 pk,.string ⟨pw.toArray⟩,.slice pa pn pc,.bool bv,.string ⟨bn.toArray⟩] 55)).heap.size=wx.heap.size+1:=by simp
        rw[e]at h;exact h
       have HBKa:=zA hbka;have HSZa:Hid (w.heap.size+1<=((wx.alloc (.cells #[.bool true,.string ⟨an.toArray⟩,.int .i64 pk,.string ⟨pw.toArray⟩,.slice pa pn pc,.bool bv,.string ⟨bn.toArray⟩] 55)).alloc (.cells #[.string ⟨an.toArray⟩] 9)).heap.size):=zA (by simp at hsza ⊢;omega);clear hX hbka hsza;go_wp2_with fail;refine CIa.out.mono ?_;rintro e w5 ⟨rfl,hw5⟩;rw[hw5];clear hw5;go_wp2_with (at_builtin;refine wpList_append_lies _ rfl _ _ _ rfl (w.heap.size+1) 9 i0 _ 1 16 Tryz.underlying34 hi0 hz0 hz1 hz2 rfl (by decide) (.slice ua nu uc) _ _ (by rfl) (HRa.out.alloc _) ⟨wx.heap.size+1,0,none⟩ 1 1 (csT an) (by rfl) (by rfl) (World.news_of_block (cs:=#[.string ⟨an.toArray⟩]) (t:=9) (fr:=(0,0)) HBKa.out) (by simp[Value.oneCell']) (by decide) (by unfold maxLen;omega) (by omega) HSZa.out _ rfl ?_);intro g9a c9a w9a hown9 hgrow9 hat9 hlt9;obtain⟨N9a,hN2⟩:∃l,l=N++[an]:=⟨_,rfl⟩
       obtain⟨n9a,hn2⟩:∃n,n=nu+1:=⟨_,rfl⟩
       have HLa:Hid (n9a=N9a.length):=zA (by rw[hN2,hn2,zG,<- HLU.out];rfl);have hnba:n9a<=nu+1:=by omega
       rw[<- hn2]at hown9 ⊢;have HR9a:Hid (NmR w w9a o wx.heap.size #[.bool true,.string ⟨an.toArray⟩,.int .i64 pk,.string ⟨pw.toArray⟩,.slice pa pn pc,.bool bv,.string ⟨bn.toArray⟩] (.slice (some ⟨g9a,0,none⟩) n9a c9a) N9a):=zA (by
        have h:=HS.out.grow (s:=an) hgrow9 (by
         rw[<- hN2,<- HLa.out,hN2,zR,<- HXa.out];exact hown9)
        rw[<- hN2]at h;exact h)
       have HMa:Hid (addN N (true,an)=N9a):=zA (by rw[HNa.out,hN2]);clear hown9 hgrow9 hat9 hlt9 hN2 hn2 d0 d1 d5 d6;cases bv with
       |false=>
        have HNb:Hid (addN N9a (false,bn)=N9a):=zA (by simp[addN]);obtain⟨d0,d1,d5,d6⟩:=atomC HR9a.out.blk;have HE:Hid (namesP ((q.atoms.take (i+1)).map Am.pa)=N9a):=zA (by rw[HT.out,HMa.out,HNb.out]);go_wp2;go_roundw
        case rel=>exact⟨i+1,_,rfl,by omega,by go_num,by rw[HE.out];exact HR9a.out.row,HR9a.out.bel⟩
        case measure=>simp[intOf];omega
       |true=>
        obtain⟨d0,d1,d5,d6⟩:=atomC HR9a.out.blk;have CIb:=zA (rInQ_any (Src.own csT_lenM HR9a.out.row rfl).sl (by rw[<- HLa.out];omega) bn);by_cases hinb:bn∈N9a
        . have HNb:Hid (addN N9a (true,bn)=N9a):=zA (by simp[addN,hinb]);rw[zU hinb]at CIb;clear hinb;go_wp2_with fail;refine CIb.out.mono ?_;rintro e w5 ⟨rfl,hw5⟩;rw[hw5];clear d0 d1 d5 d6 hw5;have HE:Hid (namesP ((q.atoms.take (i+1)).map Am.pa)=N9a):=zA (by rw[HT.out,HMa.out,HNb.out]);go_wp2;go_roundw
          case rel=>exact⟨i+1,_,rfl,by omega,by go_num,by rw[HE.out];exact HR9a.out.row,HR9a.out.bel⟩
          case measure=>simp[intOf];omega
        . have HNb:Hid (addN N9a (true,bn)=N9a++[bn]):=zA (by simp[addN,hinb]);rw[decide_eq_false hinb]at CIb;clear hinb;obtain⟨Xb,hX⟩:∃l,l=N9a.flatMap csT:=⟨_,rfl⟩
          have HXb:=zA hX;have HRb:Hid (w9a.ownsRow (w.heap.size+1) 9 1 (.slice (some ⟨g9a,0,none⟩) n9a c9a) n9a Xb):=zA (by
           have h:=HR9a.out.row;rw[<- HLa.out,<- hX]at h;exact h)
          have hszb:(w.alloc o).heap.size<=w9a.heap.size:=HR9a.out.bel.size;have hbkb:(w9a.alloc (.cells #[.string ⟨bn.toArray⟩] 9)).heap[w9a.heap.size]?=some (.cells #[.string ⟨bn.toArray⟩] 9 (0,0)):=by
           have h:=heap_alloc_new w9a (.cells #[.string ⟨bn.toArray⟩] 9);have e:w9a.heap.size=w9a.heap.size:=by simp
           rw[e]at h;exact h
          have HBKb:=zA hbkb;have HSZb:Hid (w.heap.size+1<=(w9a.alloc (.cells #[.string ⟨bn.toArray⟩] 9)).heap.size):=zA (by simp at hszb ⊢;omega);clear hX hbkb hszb;go_wp2_with fail;refine CIb.out.mono ?_;rintro e w5 ⟨rfl,hw5⟩;rw[hw5];clear hw5;go_wp2_with (at_builtin;refine wpList_append_lies _ rfl _ _ _ rfl (w.heap.size+1) 9 i0 _ 1 16 Tryz.underlying34 hi0 hz0 hz1 hz2 rfl (by decide) (.slice (some ⟨g9a,0,none⟩) n9a c9a) _ _ (by rfl) (HRb.out.alloc _) ⟨w9a.heap.size,0,none⟩ 1 1 (csT bn) (by rfl) (by rfl) (World.news_of_block (cs:=#[.string ⟨bn.toArray⟩]) (t:=9) (fr:=(0,0)) HBKb.out) (by simp[Value.oneCell']) (by decide) (by unfold maxLen;omega) (by omega) HSZb.out _ rfl ?_);intro g9b c9b w9b hown9 hgrow9 hat9 hlt9;obtain⟨N9b,hN2⟩:∃l,l=N9a++[bn]:=⟨_,rfl⟩
          obtain⟨n9b,hn2⟩:∃n,n=n9a+1:=⟨_,rfl⟩
          have HLb:Hid (n9b=N9b.length):=zA (by rw[hN2,hn2,zG,<- HLa.out];rfl);have hnbb:n9b<=n9a+1:=by omega
          rw[<- hn2]at hown9 ⊢;have HR9b:Hid (NmR w w9b o wx.heap.size #[.bool true,.string ⟨an.toArray⟩,.int .i64 pk,.string ⟨pw.toArray⟩,.slice pa pn pc,.bool true,.string ⟨bn.toArray⟩] (.slice (some ⟨g9b,0,none⟩) n9b c9b) N9b):=zA (by
           have h:=HR9a.out.grow (s:=bn) hgrow9 (by
            rw[<- hN2,<- HLb.out,hN2,zR,<- HXb.out];exact hown9)
           rw[<- hN2]at h;exact h)
          have HMb:Hid (addN N9a (true,bn)=N9b):=zA (by rw[HNb.out,hN2]);clear hown9 hgrow9 hat9 hlt9 hN2 hn2 d0 d1 d5 d6;have HE:Hid (namesP ((q.atoms.take (i+1)).map Am.pa)=N9b):=zA (by rw[HT.out,HMa.out,HMb.out]);go_wp2;go_roundw
          case rel=>exact⟨i+1,_,rfl,by omega,by go_num,by rw[HE.out];exact HR9b.out.row,HR9b.out.bel⟩
          case measure=>simp[intOf];omega
  . have hltI:¬(i:Int)<(na:Int):=by omega
    have HT:Hid (N=R):=zA (by rw[HNN.out,HR.out,zJ (by rw[<- HNA.out];omega)]);rw[HT.out]at HROW;go_wp2;go_ret;exact⟨_,rfl,own_monoM HROW.out (by omega),below_boxQ HBQ.out⟩
def FewB(fs:List Fa)(e:Ending):Prop:=∃b:Bool,e=.returned (.bool b)/\(b=true->fs.length<=40)
set_option maxHeartbeats 8000000 in
theorem rSmall_any{S:Nat->Prop}{w:World}{vf:Value}{fs:List Fa}{q:Qm}(hf:FasS S w vf fs)(hq:QOk (fun _=>True) w q)(hal:q.atoms.length<=1500000000000)(hfl:fs.length<=9223372036854775807):
 Calls Tryz.prog 17 #[vf,encQ q] w fun e w'=>FewB fs e/\Below w.heap.size w w':=by
 obtain⟨fa,fc,rfl⟩:=hf.slice;have HF:=zA hf;obtain⟨nf,hnf⟩:∃n,n=fs.length:=⟨_,rfl⟩
 have CN:Hid (∀u,Below w.heap.size w u->Calls Tryz.prog 38 #[.agg #[q.vv,q.av]] u fun e w'=>∃v,e=.returned v/\w'.ownsRow u.heap.size 9 1 v (namesP (q.atoms.map Am.pa)).length ((namesP (q.atoms.map Am.pa)).flatMap csT)/\Below u.heap.size u w'):=zA (fun u hu=>rNames_any (hq.below hu) hal);obtain⟨NM,hNM⟩:∃N,N=namesP (q.atoms.map Am.pa):=⟨_,rfl⟩
 rw[<- hNM]at CN;obtain⟨va,vc,hvv⟩:=hq.vs.slice;obtain⟨aa,ac,hav⟩:=hq.ats.slice;obtain⟨na,hna⟩:∃n,n=q.atoms.length:=⟨_,rfl⟩
 obtain⟨nv,hnv⟩:∃n,n=q.vars.length:=⟨_,rfl⟩
 rw[<- hna]at hav;rw[<- hnv]at hvv;rw[hvv,hav]at CN;rw[<- hnf]at HF hfl ⊢;have HNF:=zA hnf;show Calls Tryz.prog _ #[_,.agg #[q.vv,q.av]] w _;rw[hvv,hav];obtain⟨nn,hnn⟩:∃n,n=NM.length:=⟨_,rfl⟩
 rw[<- hnn]at CN;clear hf hq hal hnf hNM hvv hav hna hnv hnn;obtain⟨o,ho⟩:∃o,o=Obj.cells #[.slice va nv vc,.slice aa na ac] 38:=⟨_,rfl⟩
 have HOB:=zA ho;have HC:Hid (∀wr,Below (w.alloc o).heap.size (w.alloc o) wr->wr.cell? ⟨w.heap.size,0,none⟩=some (.slice va nv vc)/\wr.cell? ⟨w.heap.size,1,none⟩=some (.slice aa na ac)):=zA (fun wr hb=>by
  have h:=box_keptQ hb;rw[HOB.out]at h;simp[World.cell?,h])
 have HB0:Hid (Below (w.alloc o).heap.size (w.alloc o) (w.alloc (.cells #[.slice va nv vc,.slice aa na ac] 38))):=zA (by rw[HOB.out];exact zE _ _);clear ho;by_cases hlt:(40:Int)<(nf:Int)
 . go_enter Tryz.func17,Tryz.ntmps17;go_wp2;go_ret;exact⟨⟨false,rfl,by simp⟩,below_boxQ HB0.out⟩
 . have hf40:nf<=40:=by omega
   have HYES:Hid (∀b:Bool,b=true->fs.length<=40):=zA (fun _ _=>by rw[<- HNF.out];exact hf40);go_enter Tryz.func17,Tryz.ntmps17;go_wp2_with fail;refine(rVert_any (HF.out.below (below_boxQ HB0.out)) (by rw[<- HNF.out];omega)).mono ?_;rintro e w1 ⟨v1,rfl,hs1,hb1⟩;obtain⟨_,a1,c1,hv1,_⟩:=hs1;obtain⟨nV,hnV⟩:∃n,n=(vertsL fs).length:=⟨_,rfl⟩
   have hV80:nV<=80:=by rw[hnV];have:=verts_len fs;rw[<- HNF.out]at this;omega
   rw[<- hnV]at hv1;subst hv1;have HB1:=zA (HB0.out.trans (hb1.mono HB0.out.size));clear hb1 hnV;go_wp2_with fail;go_loopw [6,7] (fun c d wr=>∃(a i:Nat),a<=20000/\i<=8/\c=.int .i64 a/\d=.int .i64 i/\Below (w.alloc o).heap.size (w.alloc o) wr) (fun _ d _=>8-(intOf d).toNat)
   case atStart=>exact⟨1,0,by omega,by omega,rfl,rfl,HB1.out⟩
   case round=>
    obtain⟨a,i,ha,hi,rfl,rfl,hbq⟩:=hrel;have HBQ:=zA hbq;clear hbq;obtain⟨c0,c1'⟩:=HC.out _ HBQ.out;go_wp2_with fail;refine(CN.out _ (below_boxQ HBQ.out)).mono ?_;rintro e w3 ⟨v3,rfl,ho3,hb3⟩;obtain⟨a3,k3,hv3⟩:=own_slice ho3;subst hv3;have HB3:=zA (HBQ.out.trans (hb3.mono HBQ.out.size));clear ho3 hb3 c0 c1';by_cases t1:(i:Int)<(nn:Int)
    . have t1b:decide ((i:Int)<(nn:Int))=true:=zU t1;by_cases t2:(i:Int)<8
      . have t2b:decide ((i:Int)<8)=true:=zU t2;obtain⟨p,hp⟩:∃p,p=a*nV:=⟨_,rfl⟩
        have hpb:p<=20000*80:=by rw[hp];exact Nat.mul_le_mul ha hV80
        have hmul:(a:Int)*(nV:Int)=(p:Int):=by rw[hp];simp
        have hwr:IntKind.i64.wrap ((a:Int)*(nV:Int))=(p:Int):=by rw[hmul,IntKind.wrap_i64];omega
        clear hp;by_cases t3:(20000:Int)<(p:Int)
        . go_wp2;go_ret;exact⟨⟨false,rfl,by simp⟩,below_boxQ HB3.out⟩
        . go_wp2;go_roundw
          case rel=>exact⟨p,i+1,by omega,by omega,rfl,by go_num,HB3.out⟩
          case measure=>simp[intOf];omega
      . have t2b:decide ((i:Int)<8)=false:=decide_eq_false t2;go_wp2;go_ret;exact⟨⟨true,rfl,HYES.out true⟩,below_boxQ HB3.out⟩
    . have t1b:decide ((i:Int)<(nn:Int))=false:=decide_eq_false t1;go_wp2;go_ret;exact⟨⟨true,rfl,HYES.out true⟩,below_boxQ HB3.out⟩
end Go.Proofs.YtkbgmcmcpbegjaaGreatDoor
