/- GTurn. -/
import Derived.Test.YtkbgmcmcpbegjaaGreatDoorZR21
set_option maxRecDepth 100000
set_option maxHeartbeats 16000000
namespace Go.Proofs.YtkbgmcmcpbegjaaGreatDoor
open Go.RowKit Go.Shelf
def turnE(e:Eg):Eg:=(e.2.2,e.2.1,e.1)
def TurnE(S:Nat->Prop)(w:World)(N:List Wd)(E:List Eg)(mb:Nat)(nv:Value)(DD:DataW Unit)(c:Nat)(e:Ending)(w':World):Prop:=
 ∃(bb:Nat) (ev':Value),e=.returned (.pointer (some ⟨bb,0,none⟩))/\w.heap.size<=bb/\GrS (fun k=>S k\/w.heap.size<=k) w' bb N (E.map turnE) mb nv ev' DD c/\Below w.heap.size w w'
theorem turnedG_any{S:Nat->Prop}{w:World}{gb:Nat}{N:List Wd}{E:List Eg}{mb:Nat}{nv ev:Value}{DD:DataW Unit}{c:Nat}(h:GrS S w gb N E mb nv ev DD c)(hEl:E.length<=10000):
 Calls Tryz.prog 71 #[.pointer (some ⟨gb,0,none⟩)] w (TurnE S w N E mb nv DD c):=by
 obtain⟨i0,a2,aY,a5,a3⟩:=jal infoEG;obtain⟨⟨g0,g1,g2⟩,_⟩:=cells3G h.blk;have H:=zA h;obtain⟨na,ad,aW⟩:=h.names.slice;obtain⟨ea,au,aU⟩:=h.edges.slice;obtain⟨nn,aT⟩:=eX N.length;obtain⟨ne,aR⟩:=eX E.length;rw[<- aT]at aW;rw[<- aR]at aU hEl;subst aW aU;have aZ:=zA aR;have a9:Hid (SlS csE 3 S w (.slice ea ne au) E):=zA h.edges;obtain⟨bb,aH⟩:=eX w.heap.size;have az:=zA aH;obtain⟨o,ho⟩:=eX (Obj.cells #[.slice na nn ad,.map (some mb),.slice none 0 0] 75 (0,0));obtain⟨w1,aC⟩:=eX (w.drew.alloc o);have aE:Below w.heap.size w w1:=by rw[aC];exact(zF _ _).drew.alloc (zD _) _
 have bf:=zA aE;have aO:Hid (w1.heap[bb]?=some (.cells #[.slice na nn ad,.map (some mb),.slice none 0 0] 75 (0,0))):=zA (by rw[aC,aH,ho];exact heap_alloc_new w.drew _);have a7:w1.cell? ⟨gb,2,none⟩=some (.slice ea ne au):=(aE.cell (p:=⟨gb,2,none⟩) (lt_of_block h.blk)).trans g2;have HGL:=zA (lt_of_block h.blk);have a0:Hid ((w.alloc (.cells #[.slice na nn ad,.map (some mb),.slice none 0 0] 75)).drew=w1):=zA (by rw[aC,ho];rfl);obtain⟨Q,hQ⟩:=eX (TurnE S w N E mb (.slice na nn ad) DD c);have HQ:=zA hQ;rw[<- hQ];have aw:=lt_of_block h.blk;have aD:¬gb=w.heap.size:=by omega
 clear h aT aR aH ho aC aE hQ;go_enter Tryz.func71,Tryz.ntmps71;go_wp2_with fail;go_region;rw[a0.out,<- az.out];clear a0 g0 g1 g2 aw aD;go_wp2_with fail;go_loopw [21] (fun c wr=>∃(i:Nat) (ex:Value),i<=ne/\c=.int .i64 i/\Hid (wr.heap[bb]?=some (.cells #[.slice na nn ad,.map (some mb),ex] 75 (0,0)))/\Hid (wr.ownsRow w.heap.size 109 3 ex ((E.take i).map turnE).length (((E.take i).map turnE).flatMap csE))/\Hid (Below w.heap.size w wr)) (fun c _=>ne-(intOf c).toNat)
 case atStart=>exact⟨0,.slice none 0 0,zO _,rfl,aO,zA (World.ownsRow_nil _ _ _ _),bf⟩
 case round=>
  obtain⟨i,ex,hi,rfl,aQ,ag,ak⟩:=hrel;obtain⟨wy,a8⟩:=eX wr;subst a8;clear a7;by_cases hlt:i<ne
  . have aF:(i:Int)<(ne:Int):=by omega
    obtain⟨⟨e0,e1,e2⟩,hx⟩:∃x,E[i]?=some x:=⟨_,zB (by rw[<- aZ.out];exact hlt)⟩
    obtain⟨g,aN,bc,_,aw,ae⟩:=a9.out.get hx;subst bc;have c0:=(ak.out.cell (p:=⟨g,aN+i*3,none⟩) aw).trans (ae 0 _ rfl);have c1:=(ak.out.cell (p:=⟨g,aN+i*3+1,none⟩) aw).trans (ae 1 _ rfl);have c2:=(ak.out.cell (p:=⟨g,aN+i*3+2,none⟩) aw).trans (ae 2 _ rfl);dsimp only at c0 c1 c2;have HT:Hid ((E.take (i+1)).map turnE=(E.take i).map turnE++[(e2,e1,e0)]):=zA (by
     rw[zS,hx,yQ,yG];rfl)
    obtain⟨Y,hY⟩:=eX ((E.take i).map turnE);rw[<- hY]at ag HT;have bg:Y.length<=10000:=by rw[hY,zH,zX];omega
    obtain⟨xa,xc,a4⟩:=jab ag.out;obtain⟨nx,aA⟩:=eX Y.length;rw[<- aA]at a4 bg;subst a4;have bd:=zA aA;obtain⟨eb,aM⟩:=eX wy.heap.size;obtain⟨oE,aG⟩:=eX (Obj.cells #[.int .i64 (e0:Int),.string ⟨e1.toArray⟩,.int .i64 (e2:Int)] 109 (0,0));obtain⟨wz,ax⟩:=eX (wy.alloc oE);have aB:Below wy.heap.size wy wz:=by rw[ax];exact(zF _ _).alloc (zD _) _
    have ay:wz.heap[eb]?=some (.cells #[.int .i64 (e0:Int),.string ⟨e1.toArray⟩,.int .i64 (e2:Int)] 109 (0,0)):=by rw[ax,aM,<- aG];exact heap_alloc_new _ _
    have aj:Hid (wz.heap[bb]?=some (.cells #[.slice na nn ad,.map (some mb),.slice xa nx xc] 75 (0,0))):=zA ((aB.block bb (lt_of_block aQ.out)).trans aQ.out);have aI:Hid (wz.ownsRow w.heap.size 109 3 (.slice xa nx xc) nx (Y.flatMap csE)):=zA (by
     have:=jao ag.out aB;rw[<- aA]at this;exact this)
    have aP:Hid (Below w.heap.size w wz):=zA (ak.out.trans (aB.mono ak.out.size));have KS:Hid (∀u,Below wz.heap.size wz u->u.cell? ⟨eb,0,none⟩=some (.int .i64 (e0:Int))/\u.cell? ⟨eb,1,none⟩=some (.string ⟨e1.toArray⟩)/\u.cell? ⟨eb,2,none⟩=some (.int .i64 (e2:Int))):=zA (fun u hu=>by
     have h1:=(hu.block eb (lt_of_block ay)).trans ay;obtain⟨⟨z0,z1,z2⟩,_⟩:=cells3G h1;exact⟨z0,z1,z2⟩)
    have aV:Hid (Below wz.heap.size wz wz.drew):=zA (zF _ _).drew;have al:Hid (Below wz.heap.size wz (wz.drew.alloc (.cells #[.int .i64 (e2:Int),.string ⟨e1.toArray⟩,.int .i64 (e0:Int)] 109))):=zA ((zF _ _).drew.alloc (zD _) _);have aS:wz.cell? ⟨bb,2,none⟩=some (.slice xa nx xc):=(cells3G aj.out).1.2.2;have aK:wz.drew.cell? ⟨bb,2,none⟩=some (.slice xa nx xc):=aS;have aJ:(wz.alloc (.cells #[.int .i64 (e2:Int),.string ⟨e1.toArray⟩,.int .i64 (e0:Int)] 109)).cell? ⟨bb,2,none⟩=some (.slice xa nx xc):=by
     have h:=(al.out.cell (p:=⟨bb,2,none⟩) (lt_of_block aj.out)).trans aS;exact h
    have ba:=zA aK;have a6:=zA aJ;have am:Hid ((wz.drew.alloc (.cells #[.int .i64 (e2:Int),.string ⟨e1.toArray⟩,.int .i64 (e0:Int)] 109)).ownsRow w.heap.size 109 3 (.slice xa nx xc) nx (Y.flatMap csE)):=zA (jao aI.out al.out);have aX:Hid (∀(j:Nat) u,[Value.int .i64 (e2:Int),.string ⟨e1.toArray⟩,.int .i64 (e0:Int)][j]?=some u->(wz.drew.alloc (.cells #[.int .i64 (e2:Int),.string ⟨e1.toArray⟩,.int .i64 (e0:Int)] 109)).cell? ((⟨wz.heap.size,0,none⟩:Addr).add j)=some u):=zA (World.news_of_block (cs:=#[.int .i64 (e2:Int),.string ⟨e1.toArray⟩,.int .i64 (e0:Int)]) (t:=109) (fr:=(0,0)) (heap_alloc_new wz.drew _));have hszz:w.heap.size<=wz.heap.size:=aP.out.size;have a1:Hid (∀gg aa w9,w9.ownsRow w.heap.size 109 3 (.slice (some ⟨gg,0,none⟩) (nx+1) aa) (nx+1) (Y.flatMap csE++[.int .i64 (e2:Int),.string ⟨e1.toArray⟩,.int .i64 (e0:Int)])->(wz.drew.alloc (.cells #[.int .i64 (e2:Int),.string ⟨e1.toArray⟩,.int .i64 (e0:Int)] 109)).grownBy w9 (Value.slice xa nx xc).ownBlock->
     (w9.cell? ⟨eb,0,none⟩=some (.int .i64 (e0:Int))/\w9.cell? ⟨eb,1,none⟩=some (.string ⟨e1.toArray⟩)/\w9.cell? ⟨eb,2,none⟩=some (.int .i64 (e2:Int)))/\((w9.setCell ⟨bb,2,none⟩ (.slice (some ⟨gg,0,none⟩) (nx+1) aa)).cell? ⟨eb,0,none⟩=some (.int .i64 (e0:Int))/\(w9.setCell ⟨bb,2,none⟩ (.slice (some ⟨gg,0,none⟩) (nx+1) aa)).cell? ⟨eb,1,none⟩=some (.string ⟨e1.toArray⟩)/\(w9.setCell ⟨bb,2,none⟩ (.slice (some ⟨gg,0,none⟩) (nx+1) aa)).cell? ⟨eb,2,none⟩=some (.int .i64 (e2:Int)))/\(w9.cell? ⟨bb,2,none⟩=some (.slice xa nx xc)/\w9.frozen? ⟨bb,2,none⟩=false)/\Hid ((w9.setCell ⟨bb,2,none⟩ (.slice (some ⟨gg,0,none⟩) (nx+1) aa)).heap[bb]?=some (.cells #[.slice na nn ad,.map (some mb),.slice (some ⟨gg,0,none⟩) (nx+1) aa] 75 (0,0)))/\Hid ((w9.setCell ⟨bb,2,none⟩ (.slice (some ⟨gg,0,none⟩) (nx+1) aa)).ownsRow w.heap.size 109 3 (.slice (some ⟨gg,0,none⟩) (nx+1) aa) ((E.take (i+1)).map turnE).length (((E.take (i+1)).map turnE).flatMap csE))/\Hid (Below w.heap.size w (w9.setCell ⟨bb,2,none⟩ (.slice (some ⟨gg,0,none⟩) (nx+1) aa)))):=zA (fun gg aa w9 h1 h2=>by
     have aq:=(al.out.block bb (lt_of_block aj.out)).trans aj.out;have ai:=blk_grownG aq h2 (jan am.out aq (by decide));have ap:=(al.out.block eb (lt_of_block ay)).trans ay;have ah:w9.heap[eb]?=_:=(h2.block eb (lt_of_block ap) (fun e=>by
      have h3:=(aI.out.lt eb e.symm).2;have h4:=(ag.out.lt eb e.symm).2;omega)).trans ap
     have av:∀b,b≠bb->(w9.setCell ⟨bb,2,none⟩ (.slice (some ⟨gg,0,none⟩) (nx+1) aa)).heap[b]?=w9.heap[b]?:=fun b hb=>zM _ _ _ _ hb
     have aL:=(av eb (fun e=>by rw[e,ai]at ah;cases ah)).trans ah;obtain⟨⟨z0,z1,z2⟩,_⟩:=cells3G ah;obtain⟨⟨y0,y1,y2⟩,_⟩:=cells3G aL;obtain⟨⟨_,_,x2⟩,⟨_,_,x5⟩⟩:=cells3G ai;refine⟨⟨z0,z1,z2⟩,⟨y0,y1,y2⟩,⟨x2,x5⟩,zA (set3_2 ai),zA ?_,zA ?_⟩
     . have h4:w9.ownsRow w.heap.size 109 3 (.slice (some ⟨gg,0,none⟩) (nx+1) aa) ((E.take (i+1)).map turnE).length (((E.take (i+1)).map turnE).flatMap csE):=by
        rw[HT.out,zG,<- bd.out,zP];exact h1
       exact jae h4 (fun g o hg ho=>(av g (fun e=>jan h4 ai (by decide) (by rw[hg,e]))).trans ho)
     . refine Below.setCell (p:=⟨bb,2,none⟩) ?_ (by have:=az.out;show w.heap.size<=bb;omega) _;exact(aP.out.trans (al.out.mono aP.out.size)).grown h2 (by simp;omega) (fun k e=>(aI.out.lt k e).1))
    rw[aG]at ax;clear hx ae hY aA aB ay aS aK aJ aG;go_wp2_with fail;rw[<- ax,<- aM];clear ax aM c0 c1 c2;have aK:wz.drew.cell? ⟨bb,2,none⟩=some (.slice xa nx xc):=ba.out;have aJ:=a6.out;refine wp_region_held_drew (S:=fun u=>u.cell? ⟨eb,0,none⟩=some (.int .i64 (e0:Int))/\u.cell? ⟨eb,1,none⟩=some (.string ⟨e1.toArray⟩)/\u.cell? ⟨eb,2,none⟩=some (.int .i64 (e2:Int))) (by kernel_rfl) ?_ (fun hHeld=>?_)
    . exact KS.out _ aV.out
    refine tkH (i:=0) (oi:=⟨some 25,.move (.tmp 3),65, "model.go:99",#[],none⟩) (v:=?_) rfl ?_ hHeld ?_;rotate_left 1
    . rintro W ⟨l1,l2,l3⟩;go_simp;try with_reducible rfl
    simp only[Act.put,zIB,zSZ,zSS];refine tkH (i:=1) (oi:=⟨some 26,.move (.tmp 3),65, "model.go:99",#[],none⟩) (v:=?_) rfl ?_ hHeld ?_;rotate_left 1
    . rintro W ⟨l1,l2,l3⟩;go_simp;try with_reducible rfl
    simp only[Act.put,zIB,zSZ,zSS];refine tkH (i:=2) (oi:=⟨some 27,.nilCheck (.tmp 26),0, "model.go:99",#[⟨1,.data⟩],none⟩) (v:=?_) rfl ?_ hHeld ?_;rotate_left 1
    . rintro W ⟨l1,l2,l3⟩;go_simp;try with_reducible rfl
    simp only[Act.put,zIB,zSZ,zSS];refine tkH (i:=3) (oi:=⟨some 28,.fieldAddr 75 (.tmp 27) 2,0, "model.go:99",#[⟨2,.data⟩],none⟩) (v:=?_) rfl ?_ hHeld ?_;rotate_left 1
    . rintro W ⟨l1,l2,l3⟩;go_simp;try with_reducible rfl
    simp only[Act.put,zIB,zSZ,zSS];refine tkH (i:=5) (oi:=⟨some 30,.fieldAddr 109 (.tmp 5) 2,0, "model.go:99",#[],none⟩) (v:=?_) rfl ?_ hHeld ?_;rotate_left 1
    . rintro W ⟨l1,l2,l3⟩;go_simp;try with_reducible rfl
    simp only[Act.put,zIB,zSZ,zSS];refine tkH (i:=6) (oi:=⟨some 31,.load 3 (.tmp 30),3, "model.go:99",#[⟨5,.data⟩],none⟩) (v:=?_) rfl ?_ hHeld ?_;rotate_left 1
    . rintro W ⟨l1,l2,l3⟩;go_simp;try with_reducible rfl
    simp only[Act.put,zIB,zSZ,zSS];refine tkH (i:=7) (oi:=⟨some 32,.fieldAddr 109 (.tmp 5) 1,0, "model.go:99",#[],none⟩) (v:=?_) rfl ?_ hHeld ?_;rotate_left 1
    . rintro W ⟨l1,l2,l3⟩;go_simp;try with_reducible rfl
    simp only[Act.put,zIB,zSZ,zSS];refine tkH (i:=8) (oi:=⟨some 33,.load 9 (.tmp 32),9, "model.go:99",#[⟨7,.data⟩],none⟩) (v:=?_) rfl ?_ hHeld ?_;rotate_left 1
    . rintro W ⟨l1,l2,l3⟩;go_simp;try with_reducible rfl
    simp only[Act.put,zIB,zSZ,zSS];refine tkH (i:=9) (oi:=⟨some 34,.fieldAddr 109 (.tmp 5) 0,0, "model.go:99",#[],none⟩) (v:=?_) rfl ?_ hHeld ?_;rotate_left 1
    . rintro W ⟨l1,l2,l3⟩;go_simp;try with_reducible rfl
    simp only[Act.put,zIB,zSZ,zSS];refine tkH (i:=10) (oi:=⟨some 35,.load 3 (.tmp 34),3, "model.go:99",#[⟨9,.data⟩],none⟩) (v:=?_) rfl ?_ hHeld ?_;rotate_left 1
    . rintro W ⟨l1,l2,l3⟩;go_simp;try with_reducible rfl
    simp only[Act.put,zIB,zSZ,zSS];refine tkH (i:=11) (oi:=⟨some 36,.build 109 #[(0,.tmp 31),(1,.tmp 33),(2,.tmp 35)],109, "model.go:99",#[⟨6,.data⟩,⟨8,.data⟩,⟨10,.data⟩],none⟩) (v:=?_) rfl ?_ hHeld ?_;rotate_left 1
    . rintro W ⟨l1,l2,l3⟩;go_simp;try with_reducible rfl
    simp only[Act.put,zIB,zSZ,zSS];refine wpAnyH_ready (rs:=[4,12]) (by kernel_rfl) (by simp) ?_;refine AllReadyH.cons (o:=⟨some 29,.load 73 (.tmp 28),73, "model.go:99",#[⟨3,.data⟩],none⟩) rfl (fun K hK=>?_) (AllReadyH.cons (o:=⟨some 37,.buildSlice 73 1 #[(0,.tmp 36)],73, "model.go:99",#[⟨11,.data⟩],none⟩) rfl (fun K hK=>?_) AllReadyH.nil)
    . go_simp;refine hK.out _ _ (KS.out _ aV.out) (fun hHeld=>?_);clear hK K;refine rdH (k:=12) (o:=⟨some 37,.buildSlice 73 1 #[(0,.tmp 36)],73, "model.go:99",#[⟨11,.data⟩],none⟩) rfl (fun K hK=>?_);go_simp;refine hK.out _ _ (KS.out _ al.out) (fun hHeld=>?_);clear hK K;refine rdH (k:=13) (o:=⟨some 38,.call { callee:=.builtin .append,args:=#[.tmp 29,.tmp 37],argTypes:=#[73,73] },73, "model.go:99",#[⟨4,.data⟩,⟨12,.data⟩],none⟩) rfl (fun K hK=>?_);refine step_append_lies _ (by rfl) _ _ _ (by rfl) w.heap.size 109 i0 _ 3 32 Tryz.underlying73 a2 aY a5 a3 rfl (by decide) (.slice xa nx xc) _ _ (by rfl) am.out ⟨wz.heap.size,0,none⟩ 1 1 [.int .i64 (e2:Int),.string ⟨e1.toArray⟩,.int .i64 (e0:Int)] (by rfl) (by rfl) aX.out (by simp[Value.oneCell']) (by decide) (by unfold maxLen;omega) (by omega) (by simp;omega) (wz.heap.size+1) (by simp) ?_;intro gg aa w9 ac ab ao an;have af:=zA (a1.out gg aa w9 ac ab);refine hK.out _ _ af.out.1 (fun hHeld=>?_);clear hK K ac ab ao an;obtain⟨c2,c8⟩:=af.out.2.2.1;refine tkH (i:=14) (oi:=⟨some 39,.nilCheck (.tmp 25),0, "model.go:99",#[⟨0,.data⟩,⟨0,.phase⟩,⟨1,.phase⟩,⟨2,.phase⟩,⟨3,.phase⟩,⟨4,.phase⟩,⟨5,.phase⟩,⟨6,.phase⟩,⟨7,.phase⟩,⟨8,.phase⟩,⟨9,.phase⟩,⟨10,.phase⟩,⟨11,.phase⟩,⟨12,.phase⟩,⟨13,.phase⟩],none⟩) (v:=?_) rfl ?_ hHeld ?_;rotate_left 1
      . rintro W ⟨l1,l2,l3⟩;go_simp;try with_reducible rfl
      simp only[Act.put,zIB,zSZ,zSS];refine tkH (i:=15) (oi:=⟨some 40,.fieldAddr 75 (.tmp 39) 2,0, "model.go:99",#[⟨14,.data⟩,⟨0,.phase⟩,⟨1,.phase⟩,⟨2,.phase⟩,⟨3,.phase⟩,⟨4,.phase⟩,⟨5,.phase⟩,⟨6,.phase⟩,⟨7,.phase⟩,⟨8,.phase⟩,⟨9,.phase⟩,⟨10,.phase⟩,⟨11,.phase⟩,⟨12,.phase⟩,⟨13,.phase⟩],none⟩) (v:=?_) rfl ?_ hHeld ?_;rotate_left 1
      . rintro W ⟨l1,l2,l3⟩;go_simp;try with_reducible rfl
      simp only[Act.put,zIB,zSZ,zSS];refine rdH (k:=16) (o:=⟨none,.store 73 (.tmp 40) (.tmp 38),0, "model.go:99",#[⟨15,.data⟩,⟨13,.data⟩,⟨13,.chain⟩,⟨0,.phase⟩,⟨1,.phase⟩,⟨2,.phase⟩,⟨3,.phase⟩,⟨4,.phase⟩,⟨5,.phase⟩,⟨6,.phase⟩,⟨7,.phase⟩,⟨8,.phase⟩,⟨9,.phase⟩,⟨10,.phase⟩,⟨11,.phase⟩,⟨12,.phase⟩,⟨13,.phase⟩],none⟩) rfl (fun K hK=>?_);go_simp;refine hK.out _ _ af.out.2.1 (fun hHeld=>?_);clear hK K c2 c8;refine wpAnyH_done (by kernel_rfl) ?_ _;go_wp2;go_roundw
      case rel=>exact⟨i+1,_,by omega,by go_num,af.out.2.2.2.1,af.out.2.2.2.2.1,af.out.2.2.2.2.2⟩
      case measure=>simp[intOf];omega
    . go_simp;refine hK.out _ _ (KS.out _ al.out) (fun hHeld=>?_);clear hK K;refine rdH (k:=4) (o:=⟨some 29,.load 73 (.tmp 28),73, "model.go:99",#[⟨3,.data⟩],none⟩) rfl (fun K hK=>?_);go_simp;refine hK.out _ _ (KS.out _ al.out) (fun hHeld=>?_);clear hK K;refine rdH (k:=13) (o:=⟨some 38,.call { callee:=.builtin .append,args:=#[.tmp 29,.tmp 37],argTypes:=#[73,73] },73, "model.go:99",#[⟨4,.data⟩,⟨12,.data⟩],none⟩) rfl (fun K hK=>?_);refine step_append_lies _ (by rfl) _ _ _ (by rfl) w.heap.size 109 i0 _ 3 32 Tryz.underlying73 a2 aY a5 a3 rfl (by decide) (.slice xa nx xc) _ _ (by rfl) am.out ⟨wz.heap.size,0,none⟩ 1 1 [.int .i64 (e2:Int),.string ⟨e1.toArray⟩,.int .i64 (e0:Int)] (by rfl) (by rfl) aX.out (by simp[Value.oneCell']) (by decide) (by unfold maxLen;omega) (by omega) (by simp;omega) (wz.heap.size+1) (by simp) ?_;intro gg aa w9 ac ab ao an;have af:=zA (a1.out gg aa w9 ac ab);refine hK.out _ _ af.out.1 (fun hHeld=>?_);clear hK K ac ab ao an;obtain⟨c2,c8⟩:=af.out.2.2.1;refine tkH (i:=14) (oi:=⟨some 39,.nilCheck (.tmp 25),0, "model.go:99",#[⟨0,.data⟩,⟨0,.phase⟩,⟨1,.phase⟩,⟨2,.phase⟩,⟨3,.phase⟩,⟨4,.phase⟩,⟨5,.phase⟩,⟨6,.phase⟩,⟨7,.phase⟩,⟨8,.phase⟩,⟨9,.phase⟩,⟨10,.phase⟩,⟨11,.phase⟩,⟨12,.phase⟩,⟨13,.phase⟩],none⟩) (v:=?_) rfl ?_ hHeld ?_;rotate_left 1
      . rintro W ⟨l1,l2,l3⟩;go_simp;try with_reducible rfl
      simp only[Act.put,zIB,zSZ,zSS];refine tkH (i:=15) (oi:=⟨some 40,.fieldAddr 75 (.tmp 39) 2,0, "model.go:99",#[⟨14,.data⟩,⟨0,.phase⟩,⟨1,.phase⟩,⟨2,.phase⟩,⟨3,.phase⟩,⟨4,.phase⟩,⟨5,.phase⟩,⟨6,.phase⟩,⟨7,.phase⟩,⟨8,.phase⟩,⟨9,.phase⟩,⟨10,.phase⟩,⟨11,.phase⟩,⟨12,.phase⟩,⟨13,.phase⟩],none⟩) (v:=?_) rfl ?_ hHeld ?_;rotate_left 1
      . rintro W ⟨l1,l2,l3⟩;go_simp;try with_reducible rfl
      simp only[Act.put,zIB,zSZ,zSS];refine rdH (k:=16) (o:=⟨none,.store 73 (.tmp 40) (.tmp 38),0, "model.go:99",#[⟨15,.data⟩,⟨13,.data⟩,⟨13,.chain⟩,⟨0,.phase⟩,⟨1,.phase⟩,⟨2,.phase⟩,⟨3,.phase⟩,⟨4,.phase⟩,⟨5,.phase⟩,⟨6,.phase⟩,⟨7,.phase⟩,⟨8,.phase⟩,⟨9,.phase⟩,⟨10,.phase⟩,⟨11,.phase⟩,⟨12,.phase⟩,⟨13,.phase⟩],none⟩) rfl (fun K hK=>?_);go_simp;refine hK.out _ _ af.out.2.1 (fun hHeld=>?_);clear hK K c2 c8;refine wpAnyH_done (by kernel_rfl) ?_ _;go_wp2;go_roundw
      case rel=>exact⟨i+1,_,by omega,by go_num,af.out.2.2.2.1,af.out.2.2.2.2.1,af.out.2.2.2.2.2⟩
      case measure=>simp[intOf];omega
  . have aF:¬(i:Int)<(ne:Int):=by omega
    have ar:Hid (Q (.returned (.pointer (some ⟨bb,0,none⟩))) wy):=zA (by
     rw[HQ.out];have hE:(E.take i).map turnE=E.map turnE:=by rw[zJ (by rw[<- aZ.out];omega)]
     refine⟨bb,ex,rfl,by have:=az.out;omega,⟨aQ.out,.inr (by have:=az.out;omega),?_,?_,map_keyG H.out.map (fun o ho=>(ak.out.block mb H.out.map.lt).trans ho),.inl H.out.sm,H.out.keys,H.out.tells⟩,ak.out⟩
     . exact H.out.names.keep ak.out.size (fun b hs hlb=>⟨.inl hs,ak.out.block b hlb⟩)
     . have h1:=ag.out;rw[hE]at h1;exact(jaD csE_len h1 rfl).sub (fun b hb _=>.inr (h1.lt b hb).1))
    go_wp2;first
     |exact ar.out
     |(go_ret;exact ar.out)
end Go.Proofs.YtkbgmcmcpbegjaaGreatDoor
