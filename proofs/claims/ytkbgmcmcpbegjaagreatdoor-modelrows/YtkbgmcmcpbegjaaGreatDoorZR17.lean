/- MNames, MSmall, MCho. -/
import Derived.Test.YtkbgmcmcpbegjaaGreatDoorZR11
set_option maxRecDepth 100000
set_option maxHeartbeats 40000000
namespace Go.Proofs.YtkbgmcmcpbegjaaGreatDoor
open Go.RowKit Go.Shelf
theorem jlL{w:World}{B n b:Nat}{e t:TypeId}{size:Nat}{v:Value}{xs:List Value}{cs:Array Value}{fz:Nat×Nat}(h:w.ownsRow B e size v n xs)(hb:w.heap[b]?=some (.cells cs t fz))(hne:e≠t):v.ownBlock≠some b:=by
 intro hv;rcases h.2 with⟨rfl,_⟩|⟨g,cap,cur,rfl,_,e3,_⟩
 . simp[Value.ownBlock]at hv
 . have:g=b:=by simpa[Value.ownBlock]using hv
   subst this;rw[hb]at e3;injection e3 with e3;injection e3 with _ e4;exact hne e4.symm
theorem jcO{S:Nat->Prop}{w:World}{v:Value}{L:List Wd}(h:TxtS S w v L)(hl:L.length<=9223372036854775806)(s:Wd):
 Calls Tryz.prog 69 #[v,.string ⟨s.toArray⟩] w fun e w'=>e=.returned (.bool (decide (s∈L)))/\w'=w:=by
 obtain⟨la,lc,rfl⟩:=h.slice;have H:=zA h;obtain⟨n,hn⟩:=eX L.length;rw[<- hn]at H hl ⊢;have HN:=zA hn;obtain⟨r,hr⟩:=eX (decide (s∈L));rw[<- hr];have HR:=zA hr;clear h hn hr;go_enter Tryz.func69,Tryz.ntmps69;go_wp2_with fail;go_loopw [5] (fun c wr=>∃k:Nat,k<=n/\c=.int .i64 k/\(∀j,j<k->L[j]?≠some s)/\wr=w) (fun c _=>n-(intOf c).toNat)
 case atStart=>exact⟨0,zO _,rfl,fun j hj=>absurd hj (by omega),rfl⟩
 case round=>
  obtain⟨k,hk,rfl,ac,rfl⟩:=hrel;have ab:=zA ac;clear ac;by_cases hlt:k<n
  . have ad:(k:Int)<(n:Int):=by omega
    obtain⟨x,hx⟩:∃x,L[k]?=some x:=⟨_,zB (by rw[<- HN.out];exact hlt)⟩
    obtain⟨g,off,ae,_,_,aa⟩:=H.out.get hx;subst ae;have q0:=aa 0 _ rfl;rw[yC,yA]at q0;have HX:=zA hx;clear hx aa;by_cases exs:x=s
    . have HT:Hid (r=true):=zA (by rw[HR.out];exact zU (by rw[<- exs];exact zC HX.out));subst exs;go_wp2;go_ret;exact⟨by rw[HT.out];rfl,rfl⟩
    . obtain⟨e1,e2⟩:=jbW exs;have af:Hid (∀j,j<k+1->L[j]?≠some s):=zA (fun j hj=>by
       by_cases e:j=k
       . subst e;rw[HX.out];intro h;injection h with h;exact exs h
       . exact ab.out j (by omega))
      clear exs;go_wp2;go_roundw
      case rel=>exact⟨k+1,by omega,by go_num,af.out,by trivial⟩
      case measure=>simp[intOf];omega
  . have ad:¬(k:Int)<(n:Int):=by omega
    have HT:Hid (r=false):=zA (by
     rw[HR.out];refine decide_eq_false (fun h=>?_);obtain⟨j,hj⟩:=List.getElem?_of_mem h;have:=(zE.1 hj).1;rw[<- HN.out]at this;exact ab.out j (by omega) hj)
    go_wp2;go_ret;exact⟨by rw[HT.out];rfl,rfl⟩
structure NmR (w W:World) (o:Obj) (ab:Nat) (cs:Array Value) (u:Value) (N:List Wd):Prop where
 bel:Below (w.alloc o).heap.size (w.alloc o) W
 blk:W.heap[ab]?=some (.cells cs 55 (0,0))
 row:W.ownsRow (w.heap.size+1) 9 1 u N.length (N.flatMap csT)
theorem NmR.grow{w W w9:World}{o:Obj}{ab:Nat}{cs:Array Value}{u v:Value}{N:List Wd}{s:Wd}{o2:Obj}(h:NmR w W o ab cs u N)(hg:(W.alloc o2).grownBy w9 u.ownBlock)(ho:w9.ownsRow (w.heap.size+1) 9 1 v (N++[s]).length ((N++[s]).flatMap csT)):NmR w w9 o ab cs v (N++[s]):=by
 have ba:Below W.heap.size W (W.alloc o2):=(zF _ _).alloc (zD _) _;have hb:=h.bel.trans (ba.mono h.bel.size);have aa:=(ba.block ab (lt_of_block h.blk)).trans h.blk;have ac:=jao h.row ba;exact⟨hb.grown hg hb.size (fun k e=>by have:=(h.row.lt k e).1;simp;omega),(hg.block ab (lt_of_block aa) (fun e=>jlL ac aa (by decide) e.symm)).trans aa,ho⟩
theorem jjM{w:World}{B B':Nat}{e:TypeId}{size:Nat}{v:Value}{n:Nat}{xs:List Value}(h:w.ownsRow B e size v n xs)(hb:B'<=B):w.ownsRow B' e size v n xs:=by
 refine⟨h.1,?_⟩;rcases h.2 with h0|⟨g,aa,ab,e1,e2,e3⟩
 . exact .inl h0
 . exact .inr ⟨g,aa,ab,e1,zT hb e2,e3⟩
theorem je4(l:List Pa):(jai l).length<=2*l.length:=by
 have aa:∀(l:List Pa) (n:List (List UInt8)),(l.foldl (fun n a=>addN (addN n a.1) a.2.2) n).length<=n.length+2*l.length:=by
  intro l;induction l with
  |nil=>intro n;simp
  |cons a l ih=>
   intro n;rw[yN];have h1:=ih (addN (addN n a.1) a.2.2);have h2:=jcM (addN n a.1) a.2.2;have h3:=jcM n a.1;simp only[yI];omega
 have:=aa l [];simpa[jai]using this
theorem jfZ{w:World}{b:Nat}{c0 c1 c2 c3 c4 c5 c6:Value}{t:TypeId}(h:w.heap[b]?=some (.cells #[c0,c1,c2,c3,c4,c5,c6] t (0,0))):
 w.cell? ⟨b,0,none⟩=some c0/\w.cell? ⟨b,1,none⟩=some c1/\w.cell? ⟨b,5,none⟩=some c5/\w.cell? ⟨b,6,none⟩=some c6:=by
 simp[World.cell?,h]
theorem jdA{S:Nat->Prop}{w:World}{q:Qm}(h:QOk S w q)(hal:q.atoms.length<=1500000000000):
 Calls Tryz.prog 38 #[encQ q] w fun e w'=>∃v,e=.returned v/\w'.ownsRow w.heap.size 9 1 v (jai (q.atoms.map Am.pa)).length ((jai (q.atoms.map Am.pa)).flatMap csT)/\Below w.heap.size w w':=by
 obtain⟨i0,aT,aS,aW,aV⟩:=info_parts jjD;obtain⟨va,vc,a4⟩:=h.vs.slice;obtain⟨aa,ac,aU⟩:=h.ats.slice;have HA:=zA h.ats;have bk:=zA h.ok;obtain⟨na,aX⟩:=eX q.atoms.length;obtain⟨nv,a7⟩:=eX q.vars.length;rw[<- aX]at aU hal;rw[<- a7]at a4;rw[aU]at HA;have bb:=zA aX;obtain⟨R,hR⟩:=eX (jai (q.atoms.map Am.pa));rw[<- hR];have HR:=zA hR;show Calls Tryz.prog _ #[.agg #[q.vv,q.av]] w _;rw[a4,aU];clear h a4 aU aX a7 hR;obtain⟨o,ho⟩:=eX (Obj.cells #[.slice va nv vc,.slice aa na ac] 38);have a9:=zA ho;have HC:Hid (∀wr,Below (w.alloc o).heap.size (w.alloc o) wr->wr.cell? ⟨w.heap.size,0,none⟩=some (.slice va nv vc)/\wr.cell? ⟨w.heap.size,1,none⟩=some (.slice aa na ac)):=zA (fun wr hb=>by
  have h:=jav hb;rw[a9.out]at h;simp[World.cell?,h])
 have bg:Hid (Below (w.alloc o).heap.size (w.alloc o) (w.alloc (.cells #[.slice va nv vc,.slice aa na ac] 38))):=zA (by rw[a9.out];exact zF _ _);clear ho;go_enter Tryz.func38,Tryz.ntmps38;go_wp2_with fail;go_loopw [3,4] (fun vl c wr=>∃(i:Nat) (u:Value),u=vl/\i<=na/\c=.int .i64 i/\wr.ownsRow (w.heap.size+1) 9 1 u (jai ((q.atoms.take i).map Am.pa)).length ((jai ((q.atoms.take i).map Am.pa)).flatMap csT)/\Below (w.alloc o).heap.size (w.alloc o) wr) (fun _ c _=>na-(intOf c).toNat)
 case atStart=>exact⟨0,.slice none 0 0,rfl,zO _,rfl,World.ownsRow_nil _ _ _ _,bg.out⟩
 case round=>
  obtain⟨i,u,rfl,hi,rfl,az,ba⟩:=hrel;obtain⟨wx,bd⟩:=eX wr;subst bd;obtain⟨N,hN⟩:=eX (jai ((q.atoms.take i).map Am.pa));have bf:N.length<=3000000000000:=by rw[hN];have:=je4 ((q.atoms.take i).map Am.pa);rw[zH,zX]at this;omega
  rw[<- hN]at az;obtain⟨ua,uc,hu⟩:=jab az;obtain⟨nu,a6⟩:=eX N.length;rw[<- a6]at hu bf;subst hu;have aE:=zA az;have aG:=zA ba;have a8:=zA hN;have aB:=zA a6;clear az ba hN a6;obtain⟨c0,c1⟩:=HC.out _ aG.out;by_cases hlt:i<na
  . have aZ:(i:Int)<(na:Int):=by omega
    obtain⟨a,ha⟩:∃x,q.atoms[i]?=some x:=⟨_,zB (by rw[<- bb.out];exact hlt)⟩
    have HT:Hid (jai ((q.atoms.take (i+1)).map Am.pa)=addN (addN N a.1) a.2.2):=zA (by
     rw[zS,ha,yG,a8.out];exact jeO _ _)
    obtain⟨g,off,bi,_,_,aC⟩:=(HA.out.below (jaa aG.out)).get ha;subst bi;obtain⟨q0,q1,q2,q3,q4,q5,q6⟩:=getA aC;obtain⟨pa,pc,aY⟩:=(bk.out a (zC ha)).parts.1.slice;obtain⟨pn,bc⟩:=eX a.2.1.kids.length;rw[<- bc]at aY;obtain⟨⟨av,an⟩,⟨pk,pw,pv,pl⟩,⟨bv,bn⟩⟩:=a;dsimp only at q0 q1 q2 q3 q4 q5 q6 aY HT;subst aY;have HS:Hid (NmR w (wx.alloc (.cells #[.bool av,.string ⟨an.toArray⟩,.int .i64 pk,.string ⟨pw.toArray⟩,.slice pa pn pc,.bool bv,.string ⟨bn.toArray⟩] 55)) o wx.heap.size #[.bool av,.string ⟨an.toArray⟩,.int .i64 pk,.string ⟨pw.toArray⟩,.slice pa pn pc,.bool bv,.string ⟨bn.toArray⟩] (.slice ua nu uc) N):=zA (by
     exact⟨aG.out.alloc aG.out.size _,heap_alloc_new _ _,aE.out.alloc _⟩)
    clear ha aC bc;cases av with
    |false=>
     have aA:Hid (addN N (false,an)=N):=zA (by simp[addN]);obtain⟨d0,d1,d5,d6⟩:=jfZ HS.out.blk;cases bv with
     |false=>
      have aj:Hid (addN N (false,bn)=N):=zA (by simp[addN]);obtain⟨d0,d1,d5,d6⟩:=jfZ HS.out.blk;have HE:Hid (jai ((q.atoms.take (i+1)).map Am.pa)=N):=zA (by rw[HT.out,aA.out,aj.out]);go_wp2;go_roundw
      case rel=>exact⟨i+1,_,rfl,by omega,by go_num,by rw[HE.out];exact HS.out.row,HS.out.bel⟩
      case measure=>simp[intOf];omega
     |true=>
      obtain⟨d0,d1,d5,d6⟩:=jfZ HS.out.blk;have ar:=zA (jcO (Src.own jat HS.out.row rfl).sl (by rw[<- aB.out];omega) bn);by_cases hinb:bn∈N
      . have aj:Hid (addN N (true,bn)=N):=zA (by simp[addN,hinb]);rw[zU hinb]at ar;clear hinb;go_wp2_with fail;refine ar.out.mono ?_;rintro e w5 ⟨rfl,af⟩;rw[af];clear d0 d1 d5 d6 af;have HE:Hid (jai ((q.atoms.take (i+1)).map Am.pa)=N):=zA (by rw[HT.out,aA.out,aj.out]);go_wp2;go_roundw
        case rel=>exact⟨i+1,_,rfl,by omega,by go_num,by rw[HE.out];exact HS.out.row,HS.out.bel⟩
        case measure=>simp[intOf];omega
      . have aj:Hid (addN N (true,bn)=N++[bn]):=zA (by simp[addN,hinb]);rw[decide_eq_false hinb]at ar;clear hinb;obtain⟨Xb,hX⟩:=eX (N.flatMap csT);have aM:=zA hX;have aF:Hid ((wx.alloc (.cells #[.bool false,.string ⟨an.toArray⟩,.int .i64 pk,.string ⟨pw.toArray⟩,.slice pa pn pc,.bool true,.string ⟨bn.toArray⟩] 55)).ownsRow (w.heap.size+1) 9 1 (.slice ua nu uc) nu Xb):=zA (by
         have h:=HS.out.row;rw[<- aB.out,<- hX]at h;exact h)
        have ak:(w.alloc o).heap.size<=(wx.alloc (.cells #[.bool false,.string ⟨an.toArray⟩,.int .i64 pk,.string ⟨pw.toArray⟩,.slice pa pn pc,.bool true,.string ⟨bn.toArray⟩] 55)).heap.size:=HS.out.bel.size;have ah:((wx.alloc (.cells #[.bool false,.string ⟨an.toArray⟩,.int .i64 pk,.string ⟨pw.toArray⟩,.slice pa pn pc,.bool true,.string ⟨bn.toArray⟩] 55)).alloc (.cells #[.string ⟨bn.toArray⟩] 9)).heap[wx.heap.size+1]?=some (.cells #[.string ⟨bn.toArray⟩] 9 (0,0)):=by
         have h:=heap_alloc_new (wx.alloc (.cells #[.bool false,.string ⟨an.toArray⟩,.int .i64 pk,.string ⟨pw.toArray⟩,.slice pa pn pc,.bool true,.string ⟨bn.toArray⟩] 55)) (.cells #[.string ⟨bn.toArray⟩] 9);have e:(wx.alloc (.cells #[.bool false,.string ⟨an.toArray⟩,.int .i64 pk,.string ⟨pw.toArray⟩,.slice pa pn pc,.bool true,.string ⟨bn.toArray⟩] 55)).heap.size=wx.heap.size+1:=by simp
         rw[e]at h;exact h
        have aw:=zA ah;have ax:Hid (w.heap.size+1<=((wx.alloc (.cells #[.bool false,.string ⟨an.toArray⟩,.int .i64 pk,.string ⟨pw.toArray⟩,.slice pa pn pc,.bool true,.string ⟨bn.toArray⟩] 55)).alloc (.cells #[.string ⟨bn.toArray⟩] 9)).heap.size):=zA (by simp at ak ⊢;omega);clear hX ah ak;go_wp2_with fail;refine ar.out.mono ?_;rintro e w5 ⟨rfl,af⟩;rw[af];clear af;go_wp2_with (at_builtin;refine wpList_append_lies _ rfl _ _ _ rfl (w.heap.size+1) 9 i0 _ 1 16 Tryz.underlying34 aT aS aW aV rfl (by decide) (.slice ua nu uc) _ _ (by rfl) (aF.out.alloc _) ⟨wx.heap.size+1,0,none⟩ 1 1 (csT bn) (by rfl) (by rfl) (World.news_of_block (cs:=#[.string ⟨bn.toArray⟩]) (t:=9) (fr:=(0,0)) aw.out) (by simp[Value.oneCell']) (by decide) (by unfold maxLen;omega) (by omega) ax.out _ rfl ?_);intro aP aL aJ ab ad ap am;obtain⟨aq,ae⟩:=eX (N++[bn]);obtain⟨au,al⟩:=eX (nu+1);have aH:Hid (au=aq.length):=zA (by rw[ae,al,zG,<- aB.out];rfl);have aN:au<=nu+1:=by omega
        rw[<- al]at ab ⊢;have ai:Hid (NmR w aJ o wx.heap.size #[.bool false,.string ⟨an.toArray⟩,.int .i64 pk,.string ⟨pw.toArray⟩,.slice pa pn pc,.bool true,.string ⟨bn.toArray⟩] (.slice (some ⟨aP,0,none⟩) au aL) aq):=zA (by
         have h:=HS.out.grow (s:=bn) ad (by
          rw[<- ae,<- aH.out,ae,zP,<- aM.out];exact ab)
         rw[<- ae]at h;exact h)
        have aK:Hid (addN N (true,bn)=aq):=zA (by rw[aj.out,ae]);clear ab ad ap am ae al d0 d1 d5 d6;have HE:Hid (jai ((q.atoms.take (i+1)).map Am.pa)=aq):=zA (by rw[HT.out,aA.out,aK.out]);go_wp2;go_roundw
        case rel=>exact⟨i+1,_,rfl,by omega,by go_num,by rw[HE.out];exact ai.out.row,ai.out.bel⟩
        case measure=>simp[intOf];omega
    |true=>
     obtain⟨d0,d1,d5,d6⟩:=jfZ HS.out.blk;have aQ:=zA (jcO (Src.own jat HS.out.row rfl).sl (by rw[<- aB.out];omega) an);by_cases hina:an∈N
     . have aA:Hid (addN N (true,an)=N):=zA (by simp[addN,hina]);rw[zU hina]at aQ;clear hina;go_wp2_with fail;refine aQ.out.mono ?_;rintro e w5 ⟨rfl,af⟩;rw[af];clear d0 d1 d5 d6 af;cases bv with
       |false=>
        have aj:Hid (addN N (false,bn)=N):=zA (by simp[addN]);obtain⟨d0,d1,d5,d6⟩:=jfZ HS.out.blk;have HE:Hid (jai ((q.atoms.take (i+1)).map Am.pa)=N):=zA (by rw[HT.out,aA.out,aj.out]);go_wp2;go_roundw
        case rel=>exact⟨i+1,_,rfl,by omega,by go_num,by rw[HE.out];exact HS.out.row,HS.out.bel⟩
        case measure=>simp[intOf];omega
       |true=>
        obtain⟨d0,d1,d5,d6⟩:=jfZ HS.out.blk;have ar:=zA (jcO (Src.own jat HS.out.row rfl).sl (by rw[<- aB.out];omega) bn);by_cases hinb:bn∈N
        . have aj:Hid (addN N (true,bn)=N):=zA (by simp[addN,hinb]);rw[zU hinb]at ar;clear hinb;go_wp2_with fail;refine ar.out.mono ?_;rintro e w5 ⟨rfl,af⟩;rw[af];clear d0 d1 d5 d6 af;have HE:Hid (jai ((q.atoms.take (i+1)).map Am.pa)=N):=zA (by rw[HT.out,aA.out,aj.out]);go_wp2;go_roundw
          case rel=>exact⟨i+1,_,rfl,by omega,by go_num,by rw[HE.out];exact HS.out.row,HS.out.bel⟩
          case measure=>simp[intOf];omega
        . have aj:Hid (addN N (true,bn)=N++[bn]):=zA (by simp[addN,hinb]);rw[decide_eq_false hinb]at ar;clear hinb;obtain⟨Xb,hX⟩:=eX (N.flatMap csT);have aM:=zA hX;have aF:Hid ((wx.alloc (.cells #[.bool true,.string ⟨an.toArray⟩,.int .i64 pk,.string ⟨pw.toArray⟩,.slice pa pn pc,.bool true,.string ⟨bn.toArray⟩] 55)).ownsRow (w.heap.size+1) 9 1 (.slice ua nu uc) nu Xb):=zA (by
           have h:=HS.out.row;rw[<- aB.out,<- hX]at h;exact h)
          have ak:(w.alloc o).heap.size<=(wx.alloc (.cells #[.bool true,.string ⟨an.toArray⟩,.int .i64 pk,.string ⟨pw.toArray⟩,.slice pa pn pc,.bool true,.string ⟨bn.toArray⟩] 55)).heap.size:=HS.out.bel.size;have ah:((wx.alloc (.cells #[.bool true,.string ⟨an.toArray⟩,.int .i64 pk,.string ⟨pw.toArray⟩,.slice pa pn pc,.bool true,.string ⟨bn.toArray⟩] 55)).alloc (.cells #[.string ⟨bn.toArray⟩] 9)).heap[wx.heap.size+1]?=some (.cells #[.string ⟨bn.toArray⟩] 9 (0,0)):=by
           have h:=heap_alloc_new (wx.alloc (.cells #[.bool true,.string ⟨an.toArray⟩,.int .i64 pk,.string ⟨pw.toArray⟩,.slice pa pn pc,.bool true,.string ⟨bn.toArray⟩] 55)) (.cells #[.string ⟨bn.toArray⟩] 9);have e:(wx.alloc (.cells #[.bool true,.string ⟨an.toArray⟩,.int .i64 pk,.string ⟨pw.toArray⟩,.slice pa pn pc,.bool true,.string ⟨bn.toArray⟩] 55)).heap.size=wx.heap.size+1:=by simp
           rw[e]at h;exact h
          have aw:=zA ah;have ax:Hid (w.heap.size+1<=((wx.alloc (.cells #[.bool true,.string ⟨an.toArray⟩,.int .i64 pk,.string ⟨pw.toArray⟩,.slice pa pn pc,.bool true,.string ⟨bn.toArray⟩] 55)).alloc (.cells #[.string ⟨bn.toArray⟩] 9)).heap.size):=zA (by simp at ak ⊢;omega);clear hX ah ak;go_wp2_with fail;refine ar.out.mono ?_;rintro e w5 ⟨rfl,af⟩;rw[af];clear af;go_wp2_with (at_builtin;refine wpList_append_lies _ rfl _ _ _ rfl (w.heap.size+1) 9 i0 _ 1 16 Tryz.underlying34 aT aS aW aV rfl (by decide) (.slice ua nu uc) _ _ (by rfl) (aF.out.alloc _) ⟨wx.heap.size+1,0,none⟩ 1 1 (csT bn) (by rfl) (by rfl) (World.news_of_block (cs:=#[.string ⟨bn.toArray⟩]) (t:=9) (fr:=(0,0)) aw.out) (by simp[Value.oneCell']) (by decide) (by unfold maxLen;omega) (by omega) ax.out _ rfl ?_);intro aP aL aJ ab ad ap am;obtain⟨aq,ae⟩:=eX (N++[bn]);obtain⟨au,al⟩:=eX (nu+1);have aH:Hid (au=aq.length):=zA (by rw[ae,al,zG,<- aB.out];rfl);have aN:au<=nu+1:=by omega
          rw[<- al]at ab ⊢;have ai:Hid (NmR w aJ o wx.heap.size #[.bool true,.string ⟨an.toArray⟩,.int .i64 pk,.string ⟨pw.toArray⟩,.slice pa pn pc,.bool true,.string ⟨bn.toArray⟩] (.slice (some ⟨aP,0,none⟩) au aL) aq):=zA (by
           have h:=HS.out.grow (s:=bn) ad (by
            rw[<- ae,<- aH.out,ae,zP,<- aM.out];exact ab)
           rw[<- ae]at h;exact h)
          have aK:Hid (addN N (true,bn)=aq):=zA (by rw[aj.out,ae]);clear ab ad ap am ae al d0 d1 d5 d6;have HE:Hid (jai ((q.atoms.take (i+1)).map Am.pa)=aq):=zA (by rw[HT.out,aA.out,aK.out]);go_wp2;go_roundw
          case rel=>exact⟨i+1,_,rfl,by omega,by go_num,by rw[HE.out];exact ai.out.row,ai.out.bel⟩
          case measure=>simp[intOf];omega
     . have aA:Hid (addN N (true,an)=N++[an]):=zA (by simp[addN,hina]);rw[decide_eq_false hina]at aQ;clear hina;obtain⟨Xa,hX⟩:=eX (N.flatMap csT);have bh:=zA hX;have bj:Hid ((wx.alloc (.cells #[.bool true,.string ⟨an.toArray⟩,.int .i64 pk,.string ⟨pw.toArray⟩,.slice pa pn pc,.bool bv,.string ⟨bn.toArray⟩] 55)).ownsRow (w.heap.size+1) 9 1 (.slice ua nu uc) nu Xa):=zA (by
        have h:=HS.out.row;rw[<- aB.out,<- hX]at h;exact h)
       have aI:(w.alloc o).heap.size<=(wx.alloc (.cells #[.bool true,.string ⟨an.toArray⟩,.int .i64 pk,.string ⟨pw.toArray⟩,.slice pa pn pc,.bool bv,.string ⟨bn.toArray⟩] 55)).heap.size:=HS.out.bel.size;have aO:((wx.alloc (.cells #[.bool true,.string ⟨an.toArray⟩,.int .i64 pk,.string ⟨pw.toArray⟩,.slice pa pn pc,.bool bv,.string ⟨bn.toArray⟩] 55)).alloc (.cells #[.string ⟨an.toArray⟩] 9)).heap[wx.heap.size+1]?=some (.cells #[.string ⟨an.toArray⟩] 9 (0,0)):=by
        have h:=heap_alloc_new (wx.alloc (.cells #[.bool true,.string ⟨an.toArray⟩,.int .i64 pk,.string ⟨pw.toArray⟩,.slice pa pn pc,.bool bv,.string ⟨bn.toArray⟩] 55)) (.cells #[.string ⟨an.toArray⟩] 9);have e:(wx.alloc (.cells #[.bool true,.string ⟨an.toArray⟩,.int .i64 pk,.string ⟨pw.toArray⟩,.slice pa pn pc,.bool bv,.string ⟨bn.toArray⟩] 55)).heap.size=wx.heap.size+1:=by simp
        rw[e]at h;exact h
       have a0:=zA aO;have a2:Hid (w.heap.size+1<=((wx.alloc (.cells #[.bool true,.string ⟨an.toArray⟩,.int .i64 pk,.string ⟨pw.toArray⟩,.slice pa pn pc,.bool bv,.string ⟨bn.toArray⟩] 55)).alloc (.cells #[.string ⟨an.toArray⟩] 9)).heap.size):=zA (by simp at aI ⊢;omega);clear hX aO aI;go_wp2_with fail;refine aQ.out.mono ?_;rintro e w5 ⟨rfl,af⟩;rw[af];clear af;go_wp2_with (at_builtin;refine wpList_append_lies _ rfl _ _ _ rfl (w.heap.size+1) 9 i0 _ 1 16 Tryz.underlying34 aT aS aW aV rfl (by decide) (.slice ua nu uc) _ _ (by rfl) (bj.out.alloc _) ⟨wx.heap.size+1,0,none⟩ 1 1 (csT an) (by rfl) (by rfl) (World.news_of_block (cs:=#[.string ⟨an.toArray⟩]) (t:=9) (fr:=(0,0)) a0.out) (by simp[Value.oneCell']) (by decide) (by unfold maxLen;omega) (by omega) a2.out _ rfl ?_);intro a1 a3 ay ab ad ap am;obtain⟨ao,ae⟩:=eX (N++[an]);obtain⟨aD,al⟩:=eX (nu+1);have aR:Hid (aD=ao.length):=zA (by rw[ae,al,zG,<- aB.out];rfl);have hnba:aD<=nu+1:=by omega
       rw[<- al]at ab ⊢;have ag:Hid (NmR w ay o wx.heap.size #[.bool true,.string ⟨an.toArray⟩,.int .i64 pk,.string ⟨pw.toArray⟩,.slice pa pn pc,.bool bv,.string ⟨bn.toArray⟩] (.slice (some ⟨a1,0,none⟩) aD a3) ao):=zA (by
        have h:=HS.out.grow (s:=an) ad (by
         rw[<- ae,<- aR.out,ae,zP,<- bh.out];exact ab)
        rw[<- ae]at h;exact h)
       have a5:Hid (addN N (true,an)=ao):=zA (by rw[aA.out,ae]);clear ab ad ap am ae al d0 d1 d5 d6;cases bv with
       |false=>
        have aj:Hid (addN ao (false,bn)=ao):=zA (by simp[addN]);obtain⟨d0,d1,d5,d6⟩:=jfZ ag.out.blk;have HE:Hid (jai ((q.atoms.take (i+1)).map Am.pa)=ao):=zA (by rw[HT.out,a5.out,aj.out]);go_wp2;go_roundw
        case rel=>exact⟨i+1,_,rfl,by omega,by go_num,by rw[HE.out];exact ag.out.row,ag.out.bel⟩
        case measure=>simp[intOf];omega
       |true=>
        obtain⟨d0,d1,d5,d6⟩:=jfZ ag.out.blk;have ar:=zA (jcO (Src.own jat ag.out.row rfl).sl (by rw[<- aR.out];omega) bn);by_cases hinb:bn∈ao
        . have aj:Hid (addN ao (true,bn)=ao):=zA (by simp[addN,hinb]);rw[zU hinb]at ar;clear hinb;go_wp2_with fail;refine ar.out.mono ?_;rintro e w5 ⟨rfl,af⟩;rw[af];clear d0 d1 d5 d6 af;have HE:Hid (jai ((q.atoms.take (i+1)).map Am.pa)=ao):=zA (by rw[HT.out,a5.out,aj.out]);go_wp2;go_roundw
          case rel=>exact⟨i+1,_,rfl,by omega,by go_num,by rw[HE.out];exact ag.out.row,ag.out.bel⟩
          case measure=>simp[intOf];omega
        . have aj:Hid (addN ao (true,bn)=ao++[bn]):=zA (by simp[addN,hinb]);rw[decide_eq_false hinb]at ar;clear hinb;obtain⟨Xb,hX⟩:=eX (ao.flatMap csT);have aM:=zA hX;have aF:Hid (ay.ownsRow (w.heap.size+1) 9 1 (.slice (some ⟨a1,0,none⟩) aD a3) aD Xb):=zA (by
           have h:=ag.out.row;rw[<- aR.out,<- hX]at h;exact h)
          have ak:(w.alloc o).heap.size<=ay.heap.size:=ag.out.bel.size;have ah:(ay.alloc (.cells #[.string ⟨bn.toArray⟩] 9)).heap[ay.heap.size]?=some (.cells #[.string ⟨bn.toArray⟩] 9 (0,0)):=by
           have h:=heap_alloc_new ay (.cells #[.string ⟨bn.toArray⟩] 9);have e:ay.heap.size=ay.heap.size:=by simp
           rw[e]at h;exact h
          have aw:=zA ah;have ax:Hid (w.heap.size+1<=(ay.alloc (.cells #[.string ⟨bn.toArray⟩] 9)).heap.size):=zA (by simp at ak ⊢;omega);clear hX ah ak;go_wp2_with fail;refine ar.out.mono ?_;rintro e w5 ⟨rfl,af⟩;rw[af];clear af;go_wp2_with (at_builtin;refine wpList_append_lies _ rfl _ _ _ rfl (w.heap.size+1) 9 i0 _ 1 16 Tryz.underlying34 aT aS aW aV rfl (by decide) (.slice (some ⟨a1,0,none⟩) aD a3) _ _ (by rfl) (aF.out.alloc _) ⟨ay.heap.size,0,none⟩ 1 1 (csT bn) (by rfl) (by rfl) (World.news_of_block (cs:=#[.string ⟨bn.toArray⟩]) (t:=9) (fr:=(0,0)) aw.out) (by simp[Value.oneCell']) (by decide) (by unfold maxLen;omega) (by omega) ax.out _ rfl ?_);intro aP aL aJ ab ad ap am;obtain⟨aq,ae⟩:=eX (ao++[bn]);obtain⟨au,al⟩:=eX (aD+1);have aH:Hid (au=aq.length):=zA (by rw[ae,al,zG,<- aR.out];rfl);have aN:au<=aD+1:=by omega
          rw[<- al]at ab ⊢;have ai:Hid (NmR w aJ o wx.heap.size #[.bool true,.string ⟨an.toArray⟩,.int .i64 pk,.string ⟨pw.toArray⟩,.slice pa pn pc,.bool true,.string ⟨bn.toArray⟩] (.slice (some ⟨aP,0,none⟩) au aL) aq):=zA (by
           have h:=ag.out.grow (s:=bn) ad (by
            rw[<- ae,<- aH.out,ae,zP,<- aM.out];exact ab)
           rw[<- ae]at h;exact h)
          have aK:Hid (addN ao (true,bn)=aq):=zA (by rw[aj.out,ae]);clear ab ad ap am ae al d0 d1 d5 d6;have HE:Hid (jai ((q.atoms.take (i+1)).map Am.pa)=aq):=zA (by rw[HT.out,a5.out,aK.out]);go_wp2;go_roundw
          case rel=>exact⟨i+1,_,rfl,by omega,by go_num,by rw[HE.out];exact ai.out.row,ai.out.bel⟩
          case measure=>simp[intOf];omega
  . have aZ:¬(i:Int)<(na:Int):=by omega
    have HT:Hid (N=R):=zA (by rw[a8.out,HR.out,zJ (by rw[<- bb.out];omega)]);rw[HT.out]at aE;go_wp2;go_ret;exact⟨_,rfl,jjM aE.out (by omega),jaa aG.out⟩
def FewB(fs:List Fa)(e:Ending):Prop:=∃b:Bool,e=.returned (.bool b)/\(b=true->fs.length<=40)
theorem jie{S:Nat->Prop}{w:World}{vf:Value}{fs:List Fa}{q:Qm}(hf:FasS S w vf fs)(hq:QOk (fun _=>True) w q)(hal:q.atoms.length<=1500000000000)(hfl:fs.length<=9223372036854775807):
 Calls Tryz.prog 17 #[vf,encQ q] w fun e w'=>FewB fs e/\Below w.heap.size w w':=by
 obtain⟨fa,fc,rfl⟩:=hf.slice;have HF:=zA hf;obtain⟨nf,am⟩:=eX fs.length;have CN:Hid (∀u,Below w.heap.size w u->Calls Tryz.prog 38 #[.agg #[q.vv,q.av]] u fun e w'=>∃v,e=.returned v/\w'.ownsRow u.heap.size 9 1 v (jai (q.atoms.map Am.pa)).length ((jai (q.atoms.map Am.pa)).flatMap csT)/\Below u.heap.size u w'):=zA (fun u hu=>jdA (hq.below hu) hal);obtain⟨NM,au⟩:=eX (jai (q.atoms.map Am.pa));rw[<- au]at CN;obtain⟨va,vc,ad⟩:=hq.vs.slice;obtain⟨aa,ac,ag⟩:=hq.ats.slice;obtain⟨na,ap⟩:=eX q.atoms.length;obtain⟨nv,aq⟩:=eX q.vars.length;rw[<- ap]at ag;rw[<- aq]at ad;rw[ad,ag]at CN;rw[<- am]at HF hfl ⊢;have ai:=zA am;show Calls Tryz.prog _ #[_,.agg #[q.vv,q.av]] w _;rw[ad,ag];obtain⟨nn,ao⟩:=eX NM.length;rw[<- ao]at CN;clear hf hq hal am au ad ag ap aq ao;obtain⟨o,ho⟩:=eX (Obj.cells #[.slice va nv vc,.slice aa na ac] 38);have ay:=zA ho;have HC:Hid (∀wr,Below (w.alloc o).heap.size (w.alloc o) wr->wr.cell? ⟨w.heap.size,0,none⟩=some (.slice va nv vc)/\wr.cell? ⟨w.heap.size,1,none⟩=some (.slice aa na ac)):=zA (fun wr hb=>by
  have h:=jav hb;rw[ay.out]at h;simp[World.cell?,h])
 have ah:Hid (Below (w.alloc o).heap.size (w.alloc o) (w.alloc (.cells #[.slice va nv vc,.slice aa na ac] 38))):=zA (by rw[ay.out];exact zF _ _);clear ho;by_cases hlt:(40:Int)<(nf:Int)
 . go_enter Tryz.func17,Tryz.ntmps17;go_wp2;go_ret;exact⟨⟨false,rfl,by simp⟩,jaa ah.out⟩
 . have an:nf<=40:=by omega
   have ab:Hid (∀b:Bool,b=true->fs.length<=40):=zA (fun _ _=>by rw[<- ai.out];exact an);go_enter Tryz.func17,Tryz.ntmps17;go_wp2_with fail;refine(jgm (HF.out.below (jaa ah.out)) (by rw[<- ai.out];omega)).mono ?_;rintro e w1 ⟨v1,rfl,aD,ar⟩;obtain⟨_,a1,c1,az,_⟩:=aD;obtain⟨nV,aj⟩:=eX ((jac fs).length);have ak:nV<=80:=by rw[aj];have:=jbz fs;rw[<- ai.out]at this;omega
   rw[<- aj]at az;subst az;have aG:=zA (ah.out.trans (ar.mono ah.out.size));clear ar aj;go_wp2_with fail;go_loopw [6,7] (fun c d wr=>∃(a i:Nat),a<=20000/\i<=8/\c=.int .i64 a/\d=.int .i64 i/\Below (w.alloc o).heap.size (w.alloc o) wr) (fun _ d _=>8-(intOf d).toNat)
   case atStart=>exact⟨1,0,by omega,by omega,rfl,rfl,aG.out⟩
   case round=>
    obtain⟨a,i,ha,hi,rfl,rfl,aA⟩:=hrel;have af:=zA aA;clear aA;obtain⟨c0,aF⟩:=HC.out _ af.out;go_wp2_with fail;refine(CN.out _ (jaa af.out)).mono ?_;rintro e w3 ⟨v3,rfl,aw,ax⟩;obtain⟨a3,k3,aB⟩:=jab aw;subst aB;have ae:=zA (af.out.trans (ax.mono af.out.size));clear aw ax c0 aF;by_cases t1:(i:Int)<(nn:Int)
    . have aE:decide ((i:Int)<(nn:Int))=true:=zU t1;by_cases t2:(i:Int)<8
      . have aC:decide ((i:Int)<8)=true:=zU t2;obtain⟨p,hp⟩:=eX (a*nV);have hpb:p<=20000*80:=by rw[hp];exact Nat.mul_le_mul ha ak
        have al:(a:Int)*(nV:Int)=(p:Int):=by rw[hp];simp
        have hwr:IntKind.i64.wrap ((a:Int)*(nV:Int))=(p:Int):=by rw[al,IntKind.wrap_i64];omega
        clear hp;by_cases t3:(20000:Int)<(p:Int)
        . go_wp2;go_ret;exact⟨⟨false,rfl,by simp⟩,jaa ae.out⟩
        . go_wp2;go_roundw
          case rel=>exact⟨p,i+1,by omega,by omega,rfl,by go_num,ae.out⟩
          case measure=>simp[intOf];omega
      . have aC:decide ((i:Int)<8)=false:=decide_eq_false t2;go_wp2;go_ret;exact⟨⟨true,rfl,ab.out true⟩,jaa ae.out⟩
    . have aE:decide ((i:Int)<(nn:Int))=false:=decide_eq_false t1;go_wp2;go_ret;exact⟨⟨true,rfl,ab.out true⟩,jaa ae.out⟩
def valT(t:Tm)(names at_:List Wd):Wd:=if t.1=true then at_.getD (jaT names t.2).toNat []else t.2
theorem jff{S T:Nat->Prop}{w:World}{vn va:Value}{names ats:List Wd}{t:Tm}(hn:TxtS S w vn names)(ha:TxtS T w va ats)(hl:names.length<=1000000)(hla:ats.length=names.length)(ht:t.1=true->t.2∈names):
 Calls Tryz.prog 45 #[.agg #[.bool t.1,.string ⟨t.2.toArray⟩],vn,va] w fun e w'=>e=.returned (.string ⟨(valT t names ats).toArray⟩)/\Below w.heap.size w w':=by
 obtain⟨na,nc,rfl⟩:=hn.slice;obtain⟨aa,ac,rfl⟩:=ha.slice;obtain⟨tv,tn⟩:=t;dsimp only at ht ⊢;have HB:Hid (∀a:Obj,Below w.heap.size w (w.alloc a)):=zA (fun a=>(zF _ _).alloc (zD _) _);obtain⟨nn,ad⟩:=eX names.length;have HNN:=zA ad;rw[hla];cases tv with
 |false=>
  have HV:Hid (valT (false,tn) names ats=tn):=zA (by simp[valT]);rw[HV.out];rw[<- ad];clear hn ha hla ht ad;go_enter Tryz.func45,Tryz.ntmps45;go_wp2;go_ret;exact⟨rfl,HB.out _⟩
 |true=>
  obtain⟨i,hi⟩:=List.getElem?_of_mem (ht rfl);obtain⟨p,hp⟩:∃p:Nat,jaT names tn=(p:Int)/\p<names.length:=by
   have hf:names.findIdx? (fun x=>decide (x=tn))≠none:=by
    rw[Ne,List.findIdx?_eq_none_iff];intro h;have:=h tn (ht rfl);simp at this
   obtain⟨p,hp⟩:=Option.ne_none_iff_exists'.1 hf;refine⟨p,by rw[jaT,hp],?_⟩;rw[List.findIdx?_eq_some_iff_getElem]at hp;exact hp.1
  obtain⟨x,hx⟩:∃x,ats[p]?=some x:=⟨_,zB (by rw[hla];exact hp.2)⟩
  have HV:Hid (valT (true,tn) names ats=x):=zA (by
   unfold valT;rw[if_pos rfl];show ats.getD (jaT names tn).toNat []=x;rw[hp.1,Int.toNat_natCast,List.getD,hx];rfl)
  rw[HV.out];have C:Hid (∀u,Below w.heap.size w u->Calls Tryz.prog 44 #[.slice na names.length nc,.string ⟨tn.toArray⟩] u fun e w'=>e=.returned (.int .i64 (p:Int))/\w'=u):=zA (fun u hu=>by rw[<- hp.1];exact jbu (hn.below hu) hl tn);obtain⟨g,off,af,_,hgl,ab⟩:=ha.get hx;subst af;have q0:=ab 0 _ rfl;rw[yC,yA]at q0;have hpI:(p:Int)<(nn:Int):=by rw[ad];omega
  rw[<- ad]at C ⊢;clear hn ha hla ht ad hi hp hx ab;go_enter Tryz.func45,Tryz.ntmps45;go_wp2_with fail;refine(C.out _ (HB.out _)).mono ?_;rintro e w5 ⟨rfl,ae⟩;rw[ae];clear ae;go_wp2;go_ret;exact⟨rfl,HB.out _⟩
end Go.Proofs.YtkbgmcmcpbegjaaGreatDoor
namespace Go.Proofs.YtkbgmcmcpbegjaaGreatDoor
open Go.RowKit
theorem jbZ{L:List Wd}{s:Wd}(h:s∈L):∃p:Nat,jaT L s=(p:Int)/\L[p]?=some s:=by
 have hf:L.findIdx? (fun x=>decide (x=s))≠none:=by
  rw[Ne,List.findIdx?_eq_none_iff];intro hn;have:=hn s h;simp at this
 obtain⟨p,hp⟩:=Option.ne_none_iff_exists'.1 hf;refine⟨p,by rw[jaT,hp],?_⟩;rw[List.findIdx?_eq_some_iff_getElem]at hp;obtain⟨hl,he,_⟩:=hp;rw[zB hl];simpa using he
def digL(V:List Wd):Nat->Nat->List Wd
 |0,_=>[]
 |s+1,c=>V.getD (c%V.length) []::digL V s (c/V.length)
theorem jd5(V:List Wd):∀s c,(digL V s c).length=s
 |0,_=>rfl
 |s+1,c=>by rw[digL,yI,jd5 V s]
theorem jgD(V:List Wd):∀s c,digL V (s+1) c=digL V s c++[V.getD (c/V.length^s%V.length) []]
 |0,c=>by simp[digL]
 |s+1,c=>by
  rw[digL,jgD V s,digL,List.cons_append,Nat.div_div_eq_div_mul,<- Nat.pow_succ']
theorem jhS(V:List Wd):∀(l:List Wd),(∀x∈l,x∈V)->∃c,c<V.length^l.length/\digL V l.length c=l
 |[],_=>⟨0,by simp,rfl⟩
 |x::l,h=>by
  obtain⟨c,hc,e⟩:=jhS V l (fun y hy=>h y (zR _ hy));obtain⟨j,hj⟩:=List.getElem?_of_mem (h x (zN ..));have hjl:=(zE.1 hj).1;refine⟨j+V.length*c,?_,?_⟩
  . rw[yI,Nat.pow_succ'];have:V.length*(c+1)<=V.length*V.length^l.length:=Nat.mul_le_mul_left _ hc;rw[Nat.mul_add,yC]at this;omega
  . rw[yI,digL,Nat.add_mul_mod_self_left,Nat.mod_eq_of_lt hjl,Nat.add_mul_div_left _ _ (by omega),Nat.div_eq_of_lt hjl,Nat.zero_add,e,List.getD,hj];rfl
def okA(fs:List Fa)(V names at_:List Wd)(a:Pa):Bool:=
 decide (0<=jaT V (valT a.1 names at_))&&decide (0<=jaT V (valT a.2.2 names at_))&&jaq fs V a.2.1 (jaT V (valT a.1 names at_)).toNat (jaT V (valT a.2.2 names at_)).toNat
def rowC(names vars at_:List Wd):Rw:=vars.map fun v=>at_.getD (jaT names v).toNat []
def jba(fs:List Fa)(V names vars:List Wd)(l:List Pa):Nat->List Rw
 |0=>[]
 |c+1=>if l.all (okA fs V names (digL V names.length c))=true then putL jaE (jba fs V names vars l c) (rowC names vars (digL V names.length c))else jba fs V names vars l c
def jhk(fs:List Fa)(vars:List Wd)(l:List Pa):List Rw:=jba fs (jac fs) (jai l) vars l ((jac fs).length^(jai l).length)
theorem jcJ(fs:List Fa)(V names vars:List Wd)(l:List Pa):∀c,ja2 jaE (jba fs V names vars l c)
 |0=>List.Pairwise.nil
 |c+1=>by
  rw[jba];split
  . exact(jcJ fs V names vars l c).put ordR
  . exact jcJ fs V names vars l c
theorem jgY(fs:List Fa)(V names vars:List Wd)(l:List Pa):∀c,(jba fs V names vars l c).length<=c
 |0=>zD _
 |c+1=>by
  have:=jgY fs V names vars l c;rw[jba];split
  . exact zT (jea ..) (by omega)
  . omega
theorem jc3{fs:List Fa}{V names vars:List Wd}{l:List Pa}{r:Rw}:∀ {k:Nat},r∈jba fs V names vars l k↔∃c,c<k/\l.all (okA fs V names (digL V names.length c))=true/\r=rowC names vars (digL V names.length c)
 |0=>by simp[jba]
 |k+1=>by
  rw[jba];constructor
  . intro h;split at h
    . rename_i hc;rcases jb3.1 h with e|h
      . exact⟨k,by omega,hc,e⟩
      . obtain⟨c,h1,h2⟩:=jc3.1 h;exact⟨c,by omega,h2⟩
    . obtain⟨c,h1,h2⟩:=jc3.1 h;exact⟨c,by omega,h2⟩
  . rintro⟨c,h1,h2,e⟩;by_cases hck:c=k
    . subst hck;rw[if_pos h2];exact jb3.2 (.inl e)
    . have hm:r∈jba fs V names vars l k:=jc3.2 ⟨c,by omega,h2,e⟩;split
      . exact jb3.2 (.inr hm)
      . exact hm
theorem jjB(fs:List Fa){names at_:List Wd}{a:Pa}(hm:mayP a.2.1=true):okA fs (jac fs) names at_ a=true↔jbJ fs a.2.1 (valT a.1 names at_) (valT a.2.2 names at_):=by
 simp only[mayP,Bool.and_eq_true,decide_eq_true_eq]at hm;have hs:=je6 fs a.2.1 12 hm.1;unfold okA;obtain⟨x,hx⟩:=eX (valT a.1 names at_);obtain⟨y,hy⟩:=eX (valT a.2.2 names at_);rw[<- hx,<- hy,Bool.and_eq_true,Bool.and_eq_true,decide_eq_true_eq,decide_eq_true_eq];by_cases hxm:x∈jac fs
 . by_cases hym:y∈jac fs
   . obtain⟨i,h1,h2⟩:=jbZ hxm;obtain⟨k,h3,h4⟩:=jbZ hym;rw[h1,h3,Int.toNat_natCast,Int.toNat_natCast,hs i k x y h2 h4];exact⟨fun h=>h.2,fun h=>⟨⟨by omega,by omega⟩,h⟩⟩
   . rw[jb0 hym];constructor
     . rintro⟨⟨_,h⟩,_⟩;omega
     . intro h;exact absurd (jbX h) hym
 . rw[jb0 hxm];constructor
   . rintro⟨⟨h,_⟩,_⟩;omega
   . intro h;exact absurd h.1 hxm
theorem jiL(fs:List Fa){vars:List Wd}{l:List Pa}(hm:∀a∈l,mayP a.2.1=true)(hv:∀v∈vars,v∈jai l):ja2 jaE (jhk fs vars l)/\∀r,r∈jhk fs vars l↔RowP fs vars l r:=by
 refine⟨jcJ ..,fun r=>?_⟩;rw[jhk,jc3];have aa:∀(at_:List Wd) (t:Tm),valT t (jai l) at_=tv (fun v=>at_.getD (jaT (jai l) v).toNat []) t:=fun at_ t=>rfl
 constructor
 . rintro⟨c,_,h,e⟩;refine⟨fun v=>(digL (jac fs) (jai l).length c).getD (jaT (jai l) v).toNat [],fun a ha=>?_,e⟩;rw[<- aa,<- aa];exact(jjB fs (hm a ha)).1 (yF.1 h a ha)
 . rintro⟨g,hg,e⟩;obtain⟨c,hc,hd⟩:=jhS (jac fs) ((jai l).map g) (fun x hx=>by
    obtain⟨v,hv,rfl⟩:=zV.1 hx;exact RowP.vert hg hv)
   rw[zH]at hc hd;have ab:∀v∈jai l,((jai l).map g).getD (jaT (jai l) v).toNat []=g v:=fun v hv=>by
    obtain⟨p,h1,h2⟩:=jbZ hv;rw[h1,Int.toNat_natCast,List.getD,zI,h2];rfl
   refine⟨c,hc,?_,?_⟩
   . rw[hd];refine yF.2 fun a ha=>(jjB fs (hm a ha)).2 ?_
     have ac:∀t:Tm,(t.1=true->t.2∈jai l)->valT t (jai l) ((jai l).map g)=tv g t:=fun t ht=>by
      unfold valT tv;by_cases h1:t.1=true
      . rw[if_pos h1,if_pos h1,ab _ (ht h1)]
      . rw[if_neg h1,if_neg h1]
     rw[ac a.1 (fun h1=>jaL.2 ⟨a,ha,.inl ⟨h1,rfl⟩⟩),ac a.2.2 (fun h1=>jaL.2 ⟨a,ha,.inr ⟨h1,rfl⟩⟩)];exact hg a ha
   . rw[hd,e,rowC];exact yR fun v h=>(ab v (hv v h)).symm
end Go.Proofs.YtkbgmcmcpbegjaaGreatDoor
