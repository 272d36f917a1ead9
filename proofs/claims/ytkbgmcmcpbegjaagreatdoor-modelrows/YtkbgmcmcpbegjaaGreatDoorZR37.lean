/- XNarW. -/
import Derived.Test.YtkbgmcmcpbegjaaGreatDoorZR36
set_option maxRecDepth 100000
set_option maxHeartbeats 32000000
namespace Go.Proofs.YtkbgmcmcpbegjaaGreatDoor
open Go.RowKit Go.Shelf
theorem sum_lenC:∀(c:Ch),(∀r∈c,r.length<=10000)->(c.map List.length).sum<=c.length*10000
 |[],_=>by simp
 |a::c,h=>by
  have h1:=sum_lenC c (fun r hr=>h r (zR _ hr));have h2:=h a (zN ..);simp only[List.map_cons,List.sum_cons,yI];omega
structure NSt (w:World) (O F:Nat->Prop) (v:Value) (ds:List Sy) (n:Nat) (M:Nat) (c:Ch) (T:List Nat) (u:Value) (G:Nat->Prop) (wr:World):Prop where
 mu:muC c T<=M
 ni:∃l Z rows,NI w O F G v ds n c wr l Z rows
 q:QRow w.heap.size wr u T
 tm:∀k∈T,k<c.length
theorem narrow_any{w:World}{O F:Nat->Prop}{v:Value}{ds:List Sy}{n:Nat}{c:Ch}{l:List Sx}{Z:Nat->Prop}{rows:List (Value×List Nat)}{jb:Nat}{lv chv:Value}{lks:List Lm}{ls:List Lk}{T0:List Nat}
 (h:NI w O F (fun _=>False) v ds n c w l Z rows) (hn:n<=10000) (hT:TabG w) (hF0:F 0) (hFl:Low F w) (hcl:c.length<=1000) (hj:w.cell? ⟨jb,3,none⟩=some lv) (hjF:F jb) (hlk:SlS csL 4 F w lv lks) (hlkl:lks.length<=1000) (hok:jbE ds n c.length lks ls) (hch:NatS F w chv T0) (hTne:T0≠[]) (hTl:T0.length<=1000) (hTm:∀k∈T0,k<c.length)
 (hst:∀l∈ls,(l.fr∈T0\/HC c l.fr l.to l.R)/\(l.to∈T0\/HC c l.to l.fr (fun v u=>l.R u v))):
 Calls Tryz.prog 76 #[.pointer (some ⟨jb,0,none⟩),v,chv] w (NarE w O F v ds n (jaH ls c)):=by
 obtain⟨ka,kc,bB⟩:=hlk.slice;obtain⟨nk,bk⟩:=eX lks.length;rw[<- bk]at bB hlkl;subst bB;have bc:=zA bk;have C0:=zA (jdC hch hTne (by omega));have HJ:Hid (∀u:World,Fr F w u->u.cell? ⟨jb,3,none⟩=some (.slice ka nk kc)):=zA (fun u hu=>by simpa only[World.cell?,hu.block jb hjF]using hj);have bM:=zA hlk;have bm:=zA hok;have aO:=zA (fun(u:World) (hu:Fr F w u)=>hT.fr hF0 hu);have bz:=zA hF0;have aB:=zA hFl;have bw:=zA hn;have bh:=sum_lenC c (fun r hr=>by
  rw[<- h.rc]at hr;obtain⟨r0,bV,e0⟩:=zV.1 hr;rw[<- e0];exact(h.cb r0 bV).2)
 obtain⟨M,hM⟩:=eX (muC c T0);have hMl:M<=100000000:=by rw[hM];unfold muC;omega
 obtain⟨m0,bj⟩:=eX c.length;rw[<- bj]at hcl;have bA:=zA bj;have H1:Hid (∀u0 w1,w1.ownsRow w.heap.size 3 1 u0 T0.length (T0.flatMap csI)->Below w.heap.size w w1->NSt w O F v ds n M c T0 u0 (QB u0) w1):=zA (fun u0 w1 h1 hb=>by
  have hq:=QRow.of_own h1;exact⟨by rw[hM];exact zD _,⟨l,Z,rows,h.grow hb.size hb.os hb.tape hb.output (fun k hk _=>hb.block k hk) (fun k hk=>.inr (hq.lt hk)) hFl (zD _)⟩,hq,hTm⟩)
 have bQ:Hid (Nw ls c T0 c):=zA (Nw.start hst);clear h hn hT hF0 hj hjF hlk hok hch hTne hTl hTm hst hFl bh hM bk bj;go_enter Tryz.func76,Tryz.ntmps76;go_wp2_with fail;refine C0.out.mono ?_;rintro e w1 ⟨u0,rfl,aX,hb⟩;have bU:=zA (H1.out u0 w1 aX hb);clear aX hb;go_wp2_with fail;go_loopg [6] M (fun gg u wr=>∃(T:List Nat) (c':Ch),gg<=M/\Hid (Nw ls c T c')/\Hid (NSt w O F v ds n gg c' T u (QB u) wr))
 case atStart=>exact⟨T0,c,zD _,bQ,bU⟩
 case round=>
  obtain⟨T,c',hgM,HW,HS⟩:=hrel;obtain⟨wx,bL⟩:=eX wr;subst bL;cases T with
  |nil=>
   have aP:Hid (NarE w O F v ds n (jaH ls c) (.returned (.tuple #[])) wx):=zA (by
    obtain⟨l',Z',aa,ab⟩:=HS.out.ni;rw[<- HW.out.done];exact⟨rfl,l',Z',aa,ab.grow (G':=fun _=>False) (zD _) rfl rfl rfl (fun _ _ _=>rfl) (fun _ hk=>hk.elim) aB.out ab.fr.size⟩)
   rcases HS.out.q with⟨rfl,_⟩|⟨g,aA,ar,br,rfl,_⟩
   . go_wp2;go_end0;exact aP.out
   . go_wp2;go_end0;exact aP.out
  |cons a T'=>
   rcases HS.out.q with⟨_,bY⟩|⟨g,aA,ar,br,rfl,bi,a2,bW,bu,af⟩
   . cases bY
   . have bH:wx.cell? ⟨g,aA,none⟩=some (.int .i64 (a:Int)):=by
      have:=af 0 a rfl;rw[yA]at this;simp only[World.cell?,a2];exact this
     obtain⟨nt,aM⟩:=eX T'.length;have a7:nt+1<=ar:=by rw[aM];simpa using bu
     rw[yI,<- aM];have a5:nt<=100000000:=by
      have h1:=HS.out.mu;unfold muC at h1;rw[yI,<- aM]at h1;omega
     have au:Hid (ar=1->QRow w.heap.size wx (.slice (some ⟨g,aA,none⟩) 0 0) T'):=zA (fun hc1=>by
      have h0:T'=[]:=yP.1 (by omega);subst h0;exact .inr ⟨g,aA,0,br,rfl,bi,a2,by omega,zD _,fun j x hx=>by simp at hx⟩)
     have aN:Hid (ar≠1->QRow w.heap.size wx (.slice (some ⟨g,aA+1,none⟩) nt (ar-1)) T'):=zA (fun hc1=>.inr ⟨g,aA+1,ar-1,br,by rw[aM],bi,a2,by omega,by omega,fun j x hx=>by
      have:=af (j+1) x (by simpa using hx);rw[show aA+1+j=aA+(j+1) by omega];exact this⟩)
     have aT:(nt:Int)+1<=(ar:Int):=by omega
     have bp:(0:Int)<(nt:Int)+1:=by omega
     have bP:=zA aM;clear af bu aM;go_upto_region 3 with fail;go_cut [6] (fun s6 wz=>Hid (QRow w.heap.size wz s6 T')/\Hid (∀k,QB s6 k->k=g)/\wz=wx)
     case first=>
      by_cases hc1:ar=1
      . have HQ:=zA (au.out hc1);subst hc1;have a4:nt=0:=by omega
        subst a4;go_wp2_with fail;go_meet;exact⟨HQ,zA (fun k hk=>by obtain⟨_,_,_,e⟩:=hk;injection e with e;injection e with e;injection e with e;exact e.symm),rfl⟩
      . have HQ:=zA (aN.out hc1);have hc2:¬(ar:Int)=1:=by omega
        go_wp2_with fail;go_meet;exact⟨HQ,zA (fun k hk=>by obtain⟨_,_,_,e⟩:=hk;injection e with e;injection e with e;injection e with e;exact e.symm),rfl⟩
     case rest=>
     obtain⟨bx,bE,rfl⟩:=hcut;have bT:Hid (NwA ls c T' a 0 c'):=zA HW.out.pop;have bI:a<c'.length:=HS.out.tm a (zN ..);have aY:c'.length=m0:=by rw[bA.out];exact HW.out.len
     have bv:a<m0:=by omega
     have hgg1:1<=gk:=by have h1:=HS.out.mu;unfold muC at h1;rw[yI]at h1;omega
     have bG:Hid (NSt w O F v ds n (gk-1) c' T' u6 (QB u6) wc):=zA (by
      obtain⟨l',Z',aa,ab⟩:=HS.out.ni;refine⟨by have h1:=HS.out.mu;unfold muC at h1 ⊢;rw[yI]at h1;omega,⟨l',Z',aa,ab.grow (zD _) rfl rfl rfl (fun _ _ _=>rfl) (fun k hk=>.inl ?_) aB.out ab.fr.size⟩,bx.out,fun k hk=>HS.out.tm k (zR _ hk)⟩;rw[bE.out k hk];exact⟨aA,_,ar,rfl⟩)
     have bs:Hid (Fr F w wc):=zA (by obtain⟨l',Z',aa,ab⟩:=HS.out.ni;exact ab.fr);have q3:=HJ.out wc bs.out;have bR:=zA aY;have HAC:=zA bv;obtain⟨W0,bN⟩:=eX wc;subst bN;clear au aN bx bE a2 bH HS HW aY bI bv aT bp bi bW a7 a5 bP;go_wp2_with fail;go_loopw [6,25] (fun u k wr=>∃(i:Nat) (T2:List Nat) (c2:Ch),i<=nk/\k=.int .i64 i/\Hid (NwA ls c T2 a i c2)/\Hid (c2.length=m0)/\Hid (NSt w O F v ds n (gk-1) c2 T2 u (QB u) wr)) (fun _ k _=>nk-(intOf k).toNat)
     case atStart=>exact⟨0,T',c',zO _,rfl,bT,bR,bG⟩
     case round=>
      obtain⟨i,T2,c2,hi,rfl,a1,ad,az⟩:=hrel;obtain⟨wy,bJ⟩:=eX wr;subst bJ;clear q3;by_cases hlt:i<nk
      . have a3:(i:Int)<(nk:Int):=by omega
        obtain⟨⟨frx,tox,tb,bb⟩,hL⟩:∃x,lks[i]?=some x:=⟨_,zB (by rw[<- bc.out];exact hlt)⟩
        obtain⟨lk,hlk⟩:∃x,ls[i]?=some x:=⟨_,zB (by rw[bm.out.len,<- bc.out];exact hlt)⟩
        obtain⟨k1,k2,k3,k4,k5,k6,k7⟩:=bm.out.at_ i _ lk hL hlk;dsimp only at k1 k2 k3 k4 k5 k6 k7;rw[<- bA.out]at k4 k5;obtain⟨lf,lt,lR⟩:=lk;dsimp only at k1 k2 k6 k7;subst k1 k2;have bD:Hid (Fr F w wy):=zA (by obtain⟨l',Z',aa,ab⟩:=az.out.ni;exact ab.fr);obtain⟨kg,koff,bS,hkF,hkl,ac⟩:=(bM.out.fr bD.out).get hL;subst bS;have c0:=ac 0 _ rfl;have c1:=ac 1 _ rfl;have bO:=ac 2 _ rfl;have c3:=ac 3 _ rfl;dsimp only at c0 c1 bO c3;rw[yA]at c0;have bK:=zA k6;have bX:=zA k7;have aD:=zA hlk;obtain⟨lb,a0⟩:=eX wy.heap.size;obtain⟨o,ho⟩:=eX (Obj.cells #[.int .i64 (lf:Int),.int .i64 (lt:Int),.pointer (some ⟨tb,0,none⟩),.pointer (some ⟨bb,0,none⟩)] 140 (0,0));obtain⟨wz,aL⟩:=eX (wy.alloc o);have aE:Below wy.heap.size wy wz:=by rw[aL];exact(zF _ _).alloc (zD _) _
        have bg:wz.heap.size=wy.heap.size+1:=by rw[aL];simp
        have aW:wz.heap[lb]?=some (.cells #[.int .i64 (lf:Int),.int .i64 (lt:Int),.pointer (some ⟨tb,0,none⟩),.pointer (some ⟨bb,0,none⟩)] 140 (0,0)):=by rw[aL,a0,<- ho];exact heap_alloc_new _ _
        have aZ:¬QB u6 lb:=fun hk=>by have:=(az.out.q.lt hk).2;omega
        have aU:=zA aZ;have ao:Hid (∀u:World,u.heap[lb]?=wz.heap[lb]?->u.cell? ⟨lb,0,none⟩=some (.int .i64 (lf:Int))/\u.cell? ⟨lb,1,none⟩=some (.int .i64 (lt:Int))/\u.cell? ⟨lb,2,none⟩=some (.pointer (some ⟨tb,0,none⟩))/\u.cell? ⟨lb,3,none⟩=some (.pointer (some ⟨bb,0,none⟩))):=zA (fun u hu=>by
         have h1:=hu.trans aW;simp[World.cell?,h1])
        have ax:Hid (∃l Z rows,NI w O F (fun k=>QB u6 k\/k=lb) v ds n c2 wz l Z rows):=zA (by
         obtain⟨l',Z',aa,ab⟩:=az.out.ni;exact⟨l',Z',aa,ab.grow aE.size aE.os aE.tape aE.output (fun k hk _=>aE.block k hk) (fun k hk=>by
          rcases hk with hk|hk
          . exact .inl hk
          . exact .inr ⟨by omega,by omega⟩) aB.out ab.fr.size⟩)
        have bt:Hid (QRow w.heap.size wz u6 T2):=zA (az.out.q.keep (fun g _ hg=>aE.block g (az.out.q.lt hg).2));have hT2l:T2.length<=100000000:=by have h1:=az.out.mu;unfold muC at h1;omega
        have aV:=zA az.out.mu;have aR:=zA az.out.tm;obtain⟨b0,b1,b2,b3⟩:=ao.out wz rfl;have bF:Hid (w.heap.size<=wz.heap.size):=zA (by have:=bD.out.size;omega);have bC:Hid (Fr F w wz):=zA (by obtain⟨l',Z',aa,ab⟩:=ax.out;exact ab.fr);have a6:Hid (wy.alloc (.cells #[.int .i64 (lf:Int),.int .i64 (lt:Int),.pointer (some ⟨tb,0,none⟩),.pointer (some ⟨bb,0,none⟩)] 140)=wz):=zA (by rw[aL,ho]);have aS:=zA a0;have bn:=b0;have bo:=b1;have bq:=b2;have a9:=b3;rw[aL,a0,ho]at bn bo bq a9;clear hL hlk ac aE aW aZ k6 k7 aL ho a0 bg;by_cases hfa:lf=a
        . have bl:¬lt=a:=fun e=>k3 (hfa.trans e.symm)
          subst hfa;have bf:¬(lt:Int)=(lf:Int):=by omega
          have ba:((lt:Int)==(lf:Int))=false:=by simp;omega
          have CS:=zA (fun(l':List Sx) (Z':Nat->Prop) (aa:List (Value×List Nat)) (ab:NI w O F (fun k=>QB u6 k\/k=lb) v ds n c2 wz l' Z' aa)=>ab.some_strike bw.out (aO.out wz bC.out) bz.out bK.out (a:=lf) (b:=lt) (by rw[ad.out];omega) (by rw[ad.out];omega));obtain⟨lz,Zz,rz,am⟩:=ax.out;have aG:=zA (CS.out lz Zz rz am);clear CS am;have ah:=zA (a1.out.there aD.out k3 rfl (by rw[ad.out];omega));have ae:=zA (jgz (c:=c2) (a:=lf) (b:=lt) (Q:=lR) (T:=T2) (by rw[ad.out];omega));have aj:Hid ((jaC c2 lf lt lR).length=m0):=zA (by rw[je8];exact ad.out);dsimp only at ah;obtain⟨ch,hch⟩:=eX (decide (((atC c2 lt).filter (jbr c2 lf lR)).length≠(atC c2 lt).length));rw[<- hch]at aG;have aF:Hid (jc8 c2 lf lt lR T2=if ch=true then T2++[lt]else T2):=zA (by
           unfold jc8;rw[hch];by_cases e:((atC c2 lt).filter (jbr c2 lf lR)).length=(atC c2 lt).length
           . rw[if_pos e,if_neg (by simp[e])]
           . rw[if_neg e,if_pos (by simp[e])])
          obtain⟨c3,aC⟩:=eX (jaC c2 lf lt lR);obtain⟨T3,aH⟩:=eX (jc8 c2 lf lt lR T2);rw[<- aC,<- aH]at ah ae;rw[<- aC]at aj aG;rw[<- aH]at aF;clear hch aC aH;go_wp2_with fail;rw[a6.out];refine aG.out.mono ?_;rintro e w2 ⟨rfl,⟨l2,Z2,r2,aq⟩,an⟩;have ak:Hid (∃l Z rows,NI w O F (fun k=>QB u6 k\/k=lb) v ds n c3 w2 l Z rows):=zA ⟨l2,Z2,r2,aq⟩;have au:Hid (QRow w.heap.size w2 u6 T2):=zA (bt.out.keep (fun g _ hg=>an.block g (.inl hg)));have aJ:Hid (w.heap.size<=w2.heap.size):=zA (zT bF.out an.size);have al:Hid (w2.heap[lb]?=wz.heap[lb]?):=zA (an.block lb (.inr rfl));have ai:lb<w2.heap.size:=by have:=an.size;have h3:=World.block_lt_of_cell? _ _ b0;have h3:lb<wz.heap.size:=h3;omega
          obtain⟨x0,x1,x2,x3⟩:=ao.out w2 al.out;clear aq an bn bo bq a9;rw[<- aS.out];cases ch with
          |false=>
           have ap:Hid (T3=T2):=zA aF.out;have aw:Hid (NSt w O F v ds n (gk-1) c3 T3 u6 (QB u6) w2):=zA (by
            obtain⟨l',Z',aa,ab⟩:=ak.out;exact⟨zT ae.out aV.out,⟨l',Z',aa,ab.grow (zD _) rfl rfl rfl (fun _ _ _=>rfl) (fun k hk=>.inl (.inl hk)) aB.out ab.fr.size⟩,by rw[ap.out];exact au.out,fun k hk=>by rw[ap.out]at hk;rw[aj.out,<- ad.out];exact aR.out k hk⟩)
           go_wp2;go_roundw
           case rel=>exact⟨i+1,T3,c3,by omega,by go_num,ah,aj,aw⟩
           case measure=>simp[intOf];omega
          |true=>
           have ap:Hid (T3=T2++[lt]):=zA aF.out;obtain⟨w3,av⟩:=eX (w2.alloc (.cells #[.int .i64 (lt:Int)] 3));have ay:Below w2.heap.size w2 w3:=by rw[av];exact(zF _ _).alloc (zD _) _
           have aQ:w3.cell? ⟨w2.heap.size,0,none⟩=some (.int .i64 (lt:Int)):=by
            have h1:w3.heap[w2.heap.size]?=some (.cells #[.int .i64 (lt:Int)] 3 (0,0)):=by rw[av];exact heap_alloc_new _ _
            simp[World.cell?,h1]
           have a8:=zA aQ;have aN:Hid (QRow w.heap.size w3 u6 T2):=zA (au.out.keep (fun g _ hg=>ay.block g (au.out.lt hg).2));have ag:=zA ay;have aK:Hid (w.heap.size<=w3.heap.size):=zA (zT aJ.out ay.size);have bd:Hid (w2.alloc (.cells #[.int .i64 (lt:Int)] 3)=w3):=zA av.symm;clear aQ ay av;go_wp2_with (at_builtin;rw[bd.out];refine jbf rfl _ _ rfl (by rfl) aN.out (by omega) ⟨w2.heap.size,0,none⟩ 1 lt (by rfl) a8.out aK.out ?_);intro u9 w9 q1 q2 q3 q4 q5 q6 q7;have aI:∀k,k<w2.heap.size->¬QB u6 k->w9.heap[k]?=w2.heap[k]?:=fun k hk hne=>(q6 k (zQ hk ag.out.size) hne).trans (ag.out.block k hk)
           have aw:Hid (NSt w O F v ds n (gk-1) c3 T3 u9 (QB u9) w9):=zA (by
            obtain⟨l',Z',aa,ab⟩:=ak.out;refine⟨zT ae.out aV.out,⟨l',Z',aa,ab.grow (zT ag.out.size q2) (q3.trans ag.out.os) (q4.trans ag.out.tape) (q5.trans ag.out.output) (fun k hk hne=>aI k hk (fun h2=>hne (.inl h2))) (fun k hk=>?_) aB.out ab.fr.size⟩,by rw[ap.out];exact q1,fun k hk=>?_⟩
            . rcases q7 k hk with h2|h2
              . exact .inl (.inl h2)
              . exact .inr ⟨zT ag.out.size h2.1,h2.2⟩
            . rw[ap.out]at hk;rw[aj.out];rcases zL.1 hk with hk|hk
              . rw[<- ad.out];exact aR.out k hk
              . rw[zK.1 hk];omega)
           obtain⟨y0,y1,y2,y3⟩:=ao.out w9 ((aI lb ai aU.out).trans al.out);clear q1 q2 q3 q4 q5 q6 q7 aI x0 x1 x2 x3;go_wp2;go_roundw
           case rel=>exact⟨i+1,T3,c3,by omega,by go_num,ah,aj,aw⟩
           case measure=>simp[intOf];omega
        . have hfaI:¬(lf:Int)=(a:Int):=by omega
          have hfaB:((lf:Int)==(a:Int))=false:=by simp;omega
          by_cases bl:lt=a
          . subst bl;have CS:=zA (fun(l':List Sx) (Z':Nat->Prop) (aa:List (Value×List Nat)) (ab:NI w O F (fun k=>QB u6 k\/k=lb) v ds n c2 wz l' Z' aa)=>ab.some_strike bw.out (aO.out wz bC.out) bz.out bX.out (a:=lt) (b:=lf) (by rw[ad.out];omega) (by rw[ad.out];omega));obtain⟨lz,Zz,rz,am⟩:=ax.out;have aG:=zA (CS.out lz Zz rz am);clear CS am;have ah:=zA (a1.out.back aD.out k3 rfl (by rw[ad.out];omega));have ae:=zA (jgz (c:=c2) (a:=lt) (b:=lf) (Q:=(fun v u=>lR u v)) (T:=T2) (by rw[ad.out];omega));have aj:Hid ((jaC c2 lt lf (fun v u=>lR u v)).length=m0):=zA (by rw[je8];exact ad.out);dsimp only at ah;obtain⟨ch,hch⟩:=eX (decide (((atC c2 lf).filter (jbr c2 lt (fun v u=>lR u v))).length≠(atC c2 lf).length));rw[<- hch]at aG;have aF:Hid (jc8 c2 lt lf (fun v u=>lR u v) T2=if ch=true then T2++[lf]else T2):=zA (by
             unfold jc8;rw[hch];by_cases e:((atC c2 lf).filter (jbr c2 lt (fun v u=>lR u v))).length=(atC c2 lf).length
             . rw[if_pos e,if_neg (by simp[e])]
             . rw[if_neg e,if_pos (by simp[e])])
            obtain⟨c3,aC⟩:=eX (jaC c2 lt lf (fun v u=>lR u v));obtain⟨T3,aH⟩:=eX (jc8 c2 lt lf (fun v u=>lR u v) T2);rw[<- aC,<- aH]at ah ae;rw[<- aC]at aj aG;rw[<- aH]at aF;clear hch aC aH;go_wp2_with fail;rw[a6.out];refine aG.out.mono ?_;rintro e w2 ⟨rfl,⟨l2,Z2,r2,aq⟩,an⟩;have ak:Hid (∃l Z rows,NI w O F (fun k=>QB u6 k\/k=lb) v ds n c3 w2 l Z rows):=zA ⟨l2,Z2,r2,aq⟩;have au:Hid (QRow w.heap.size w2 u6 T2):=zA (bt.out.keep (fun g _ hg=>an.block g (.inl hg)));have aJ:Hid (w.heap.size<=w2.heap.size):=zA (zT bF.out an.size);have al:Hid (w2.heap[lb]?=wz.heap[lb]?):=zA (an.block lb (.inr rfl));have ai:lb<w2.heap.size:=by have:=an.size;have h3:=World.block_lt_of_cell? _ _ b0;have h3:lb<wz.heap.size:=h3;omega
            obtain⟨x0,x1,x2,x3⟩:=ao.out w2 al.out;clear aq an bn bo bq a9;rw[<- aS.out];cases ch with
            |false=>
             have ap:Hid (T3=T2):=zA aF.out;have aw:Hid (NSt w O F v ds n (gk-1) c3 T3 u6 (QB u6) w2):=zA (by
              obtain⟨l',Z',aa,ab⟩:=ak.out;exact⟨zT ae.out aV.out,⟨l',Z',aa,ab.grow (zD _) rfl rfl rfl (fun _ _ _=>rfl) (fun k hk=>.inl (.inl hk)) aB.out ab.fr.size⟩,by rw[ap.out];exact au.out,fun k hk=>by rw[ap.out]at hk;rw[aj.out,<- ad.out];exact aR.out k hk⟩)
             go_wp2;go_roundw
             case rel=>exact⟨i+1,T3,c3,by omega,by go_num,ah,aj,aw⟩
             case measure=>simp[intOf];omega
            |true=>
             have ap:Hid (T3=T2++[lf]):=zA aF.out;obtain⟨w3,av⟩:=eX (w2.alloc (.cells #[.int .i64 (lf:Int)] 3));have ay:Below w2.heap.size w2 w3:=by rw[av];exact(zF _ _).alloc (zD _) _
             have aQ:w3.cell? ⟨w2.heap.size,0,none⟩=some (.int .i64 (lf:Int)):=by
              have h1:w3.heap[w2.heap.size]?=some (.cells #[.int .i64 (lf:Int)] 3 (0,0)):=by rw[av];exact heap_alloc_new _ _
              simp[World.cell?,h1]
             have a8:=zA aQ;have aN:Hid (QRow w.heap.size w3 u6 T2):=zA (au.out.keep (fun g _ hg=>ay.block g (au.out.lt hg).2));have ag:=zA ay;have aK:Hid (w.heap.size<=w3.heap.size):=zA (zT aJ.out ay.size);have bd:Hid (w2.alloc (.cells #[.int .i64 (lf:Int)] 3)=w3):=zA av.symm;clear aQ ay av;go_wp2_with (at_builtin;rw[bd.out];refine jbf rfl _ _ rfl (by rfl) aN.out (by omega) ⟨w2.heap.size,0,none⟩ 1 lf (by rfl) a8.out aK.out ?_);intro u9 w9 q1 q2 q3 q4 q5 q6 q7;have aI:∀k,k<w2.heap.size->¬QB u6 k->w9.heap[k]?=w2.heap[k]?:=fun k hk hne=>(q6 k (zQ hk ag.out.size) hne).trans (ag.out.block k hk)
             have aw:Hid (NSt w O F v ds n (gk-1) c3 T3 u9 (QB u9) w9):=zA (by
              obtain⟨l',Z',aa,ab⟩:=ak.out;refine⟨zT ae.out aV.out,⟨l',Z',aa,ab.grow (zT ag.out.size q2) (q3.trans ag.out.os) (q4.trans ag.out.tape) (q5.trans ag.out.output) (fun k hk hne=>aI k hk (fun h2=>hne (.inl h2))) (fun k hk=>?_) aB.out ab.fr.size⟩,by rw[ap.out];exact q1,fun k hk=>?_⟩
              . rcases q7 k hk with h2|h2
                . exact .inl (.inl h2)
                . exact .inr ⟨zT ag.out.size h2.1,h2.2⟩
              . rw[ap.out]at hk;rw[aj.out];rcases zL.1 hk with hk|hk
                . rw[<- ad.out];exact aR.out k hk
                . rw[zK.1 hk];omega)
             obtain⟨y0,y1,y2,y3⟩:=ao.out w9 ((aI lb ai aU.out).trans al.out);clear q1 q2 q3 q4 q5 q6 q7 aI x0 x1 x2 x3;go_wp2;go_roundw
             case rel=>exact⟨i+1,T3,c3,by omega,by go_num,ah,aj,aw⟩
             case measure=>simp[intOf];omega
          . have bf:¬(lt:Int)=(a:Int):=by omega
            have ba:((lt:Int)==(a:Int))=false:=by simp;omega
            have ah:=zA (a1.out.pass aD.out hfa bl);have aw:Hid (NSt w O F v ds n (gk-1) c2 T2 u6 (QB u6) wz):=zA (by
             obtain⟨l',Z',aa,ab⟩:=ax.out;exact⟨aV.out,⟨l',Z',aa,ab.grow (zD _) rfl rfl rfl (fun _ _ _=>rfl) (fun k hk=>.inl (.inl hk)) aB.out ab.fr.size⟩,bt.out,aR.out⟩)
            go_wp2;rw[a6.out];go_roundw
            case rel=>exact⟨i+1,T2,c2,by omega,by go_num,ah,ad,aw⟩
            case measure=>simp[intOf];omega
      . have a3:¬(i:Int)<(nk:Int):=by omega
        have ah:Hid (Nw ls c T2 c2):=zA (by
         have h1:=a1.out;have h2:i=ls.length:=by rw[bm.out.len,<- bc.out];omega
         rw[h2]at h1;exact h1.end_)
        go_wp2;go_roundg (gk-1)
        case measure=>omega
        case rel=>exact⟨T2,c2,by omega,ah,az⟩
end Go.Proofs.YtkbgmcmcpbegjaaGreatDoor
