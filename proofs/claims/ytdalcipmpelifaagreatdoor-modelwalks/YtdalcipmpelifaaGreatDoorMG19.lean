/- GTurn. -/
import Derived.Test.YtdalcipmpelifaaGreatDoorMG12
set_option maxRecDepth 100000
namespace Go.Proofs.YtdalcipmpelifaaGreatDoor
open Go.RowKit Go.Shelf
def turnE(e:Eg):Eg:=(e.2.2,e.2.1,e.1)
def TurnE(S:Nat->Prop)(w:World)(N:List Wd)(E:List Eg)(mb:Nat)(nv:Value)(DD:DataW Unit)(c:Nat)(e:Ending)(w':World):Prop:=
 ∃(bb:Nat) (ev':Value),e=.returned (.pointer (some ⟨bb,0,none⟩))/\w.heap.size<=bb/\GrS (fun k=>S k\/w.heap.size<=k) w' bb N (E.map turnE) mb nv ev' DD c/\Below w.heap.size w w'
set_option maxHeartbeats 16000000 in
theorem turnedG_any{S:Nat->Prop}{w:World}{gb:Nat}{N:List Wd}{E:List Eg}{mb:Nat}{nv ev:Value}{DD:DataW Unit}{c:Nat}(h:GrS S w gb N E mb nv ev DD c)(hEl:E.length<=10000):
 Calls Tryz.prog 47 #[.pointer (some ⟨gb,0,none⟩)] w (TurnE S w N E mb nv DD c):=by
 obtain⟨i0,hi0,hz0,hz1,hz2⟩:=info_partsG infoEG;obtain⟨⟨g0,g1,g2⟩,_⟩:=cells3G h.blk;have H:=zA h;obtain⟨na,ncap,hnv⟩:=h.names.slice;obtain⟨ea,ecap,hev⟩:=h.edges.slice;obtain⟨nn,hnn⟩:∃n,n=N.length:=⟨_,rfl⟩
 obtain⟨ne,hne⟩:∃n,n=E.length:=⟨_,rfl⟩
 rw[<- hnn]at hnv;rw[<- hne]at hev hEl;subst hnv hev;have HNE:=zA hne;have HED:Hid (SlS csE 3 S w (.slice ea ne ecap) E):=zA h.edges;obtain⟨bb,hbb⟩:∃b,b=w.heap.size:=⟨_,rfl⟩
 have HBB:=zA hbb;obtain⟨o,ho⟩:∃o,o=Obj.cells #[.slice na nn ncap,.map (some mb),.slice none 0 0] 72 (0,0):=⟨_,rfl⟩
 obtain⟨w1,hw1⟩:∃W,W=w.drew.alloc o:=⟨_,rfl⟩
 have hb1:Below w.heap.size w w1:=by rw[hw1];exact(zF _ _).drew.alloc (zD _) _
 have HB1:=zA hb1;have HBK1:Hid (w1.heap[bb]?=some (.cells #[.slice na nn ncap,.map (some mb),.slice none 0 0] 72 (0,0))):=zA (by rw[hw1,hbb,ho];exact heap_alloc_new w.drew _);have g2x:w1.cell? ⟨gb,2,none⟩=some (.slice ea ne ecap):=(hb1.cell (p:=⟨gb,2,none⟩) (lt_of_block h.blk)).trans g2;have HGL:=zA (lt_of_block h.blk);have HW1:Hid ((w.alloc (.cells #[.slice na nn ncap,.map (some mb),.slice none 0 0] 72)).drew=w1):=zA (by rw[hw1,ho];rfl);obtain⟨Q,hQ⟩:∃Q,Q=TurnE S w N E mb (.slice na nn ncap) DD c:=⟨_,rfl⟩
 have HQ:=zA hQ;rw[<- hQ];have hgl:=lt_of_block h.blk;have hgne:¬gb=w.heap.size:=by omega
 clear h hnn hne hbb ho hw1 hb1 hQ;go_enter Tryz.func47,Tryz.ntmps47;go_wp2_with fail;go_region;rw[HW1.out,<- HBB.out];clear HW1 g0 g1 g2 hgl hgne;go_wp2_with fail;go_loopw [21] (fun c wr=>∃(i:Nat) (ex:Value),i<=ne/\c=.int .i64 i/\Hid (wr.heap[bb]?=some (.cells #[.slice na nn ncap,.map (some mb),ex] 72 (0,0)))/\Hid (wr.ownsRow w.heap.size 93 3 ex ((E.take i).map turnE).length (((E.take i).map turnE).flatMap csE))/\Hid (Below w.heap.size w wr)) (fun c _=>ne-(intOf c).toNat)
 case atStart=>exact⟨0,.slice none 0 0,zS _,rfl,HBK1,zA (World.ownsRow_nil _ _ _ _),HB1⟩
 case round=>
  obtain⟨i,ex,hi,rfl,HBK,HROW,HBW⟩:=hrel;obtain⟨wy,hwy⟩:∃wy,wy=wr:=⟨_,rfl⟩
  subst hwy;clear g2x;by_cases hlt:i<ne
  . have hltI:(i:Int)<(ne:Int):=by omega
    obtain⟨⟨e0,e1,e2⟩,hx⟩:∃x,E[i]?=some x:=⟨_,zB (by rw[<- HNE.out];exact hlt)⟩
    obtain⟨g,off,hea,_,hgl,hcell⟩:=HED.out.get hx;subst hea;have c0:=(HBW.out.cell (p:=⟨g,off+i*3,none⟩) hgl).trans (hcell 0 _ rfl);have c1:=(HBW.out.cell (p:=⟨g,off+i*3+1,none⟩) hgl).trans (hcell 1 _ rfl);have c2:=(HBW.out.cell (p:=⟨g,off+i*3+2,none⟩) hgl).trans (hcell 2 _ rfl);dsimp only at c0 c1 c2;have HT:Hid ((E.take (i+1)).map turnE=(E.take i).map turnE++[(e2,e1,e0)]):=zA (by
     rw[zT,hx,yR,yP];rfl)
    obtain⟨Y,hY⟩:∃Y,Y=(E.take i).map turnE:=⟨_,rfl⟩
    rw[<- hY]at HROW HT;have hYl:Y.length<=10000:=by rw[hY,zH,yL];omega
    obtain⟨xa,xc,hex⟩:=own_slice HROW.out;obtain⟨nx,hnx⟩:∃n,n=Y.length:=⟨_,rfl⟩
    rw[<- hnx]at hex hYl;subst hex;have HNX:=zA hnx;obtain⟨eb,heb⟩:∃b,b=wy.heap.size:=⟨_,rfl⟩
    obtain⟨oE,hoE⟩:∃o,o=Obj.cells #[.int .i64 (e0:Int),.string ⟨e1.toArray⟩,.int .i64 (e2:Int)] 93 (0,0):=⟨_,rfl⟩
    obtain⟨wz,hwz⟩:∃W,W=wy.alloc oE:=⟨_,rfl⟩
    have hb2:Below wy.heap.size wy wz:=by rw[hwz];exact(zF _ _).alloc (zD _) _
    have hbl:wz.heap[eb]?=some (.cells #[.int .i64 (e0:Int),.string ⟨e1.toArray⟩,.int .i64 (e2:Int)] 93 (0,0)):=by rw[hwz,heb,<- hoE];exact heap_alloc_new _ _
    have HBKz:Hid (wz.heap[bb]?=some (.cells #[.slice na nn ncap,.map (some mb),.slice xa nx xc] 72 (0,0))):=zA ((hb2.block bb (lt_of_block HBK.out)).trans HBK.out);have HRz:Hid (wz.ownsRow w.heap.size 93 3 (.slice xa nx xc) nx (Y.flatMap csE)):=zA (by
     have:=owns_below HROW.out hb2;rw[<- hnx]at this;exact this)
    have HBz:Hid (Below w.heap.size w wz):=zA (HBW.out.trans (hb2.mono HBW.out.size));have KS:Hid (∀u,Below wz.heap.size wz u->u.cell? ⟨eb,0,none⟩=some (.int .i64 (e0:Int))/\u.cell? ⟨eb,1,none⟩=some (.string ⟨e1.toArray⟩)/\u.cell? ⟨eb,2,none⟩=some (.int .i64 (e2:Int))):=zA (fun u hu=>by
     have h1:=(hu.block eb (lt_of_block hbl)).trans hbl;obtain⟨⟨z0,z1,z2⟩,_⟩:=cells3G h1;exact⟨z0,z1,z2⟩)
    have HA1:Hid (Below wz.heap.size wz wz.drew):=zA (zF _ _).drew;have HA2:Hid (Below wz.heap.size wz (wz.drew.alloc (.cells #[.int .i64 (e2:Int),.string ⟨e1.toArray⟩,.int .i64 (e0:Int)] 93))):=zA ((zF _ _).drew.alloc (zD _) _);have hcz:wz.cell? ⟨bb,2,none⟩=some (.slice xa nx xc):=(cells3G HBKz.out).1.2.2;have hl2:wz.drew.cell? ⟨bb,2,none⟩=some (.slice xa nx xc):=hcz;have hl3:(wz.alloc (.cells #[.int .i64 (e2:Int),.string ⟨e1.toArray⟩,.int .i64 (e0:Int)] 93)).cell? ⟨bb,2,none⟩=some (.slice xa nx xc):=by
     have h:=(HA2.out.cell (p:=⟨bb,2,none⟩) (lt_of_block HBKz.out)).trans hcz;exact h
    have HL2:=zA hl2;have HL3:=zA hl3;have HOE2:Hid ((wz.drew.alloc (.cells #[.int .i64 (e2:Int),.string ⟨e1.toArray⟩,.int .i64 (e0:Int)] 93)).ownsRow w.heap.size 93 3 (.slice xa nx xc) nx (Y.flatMap csE)):=zA (owns_below HRz.out HA2.out);have HNW:Hid (∀(j:Nat) u,[Value.int .i64 (e2:Int),.string ⟨e1.toArray⟩,.int .i64 (e0:Int)][j]?=some u->(wz.drew.alloc (.cells #[.int .i64 (e2:Int),.string ⟨e1.toArray⟩,.int .i64 (e0:Int)] 93)).cell? ((⟨wz.heap.size,0,none⟩:Addr).add j)=some u):=zA (World.news_of_block (cs:=#[.int .i64 (e2:Int),.string ⟨e1.toArray⟩,.int .i64 (e0:Int)]) (t:=93) (fr:=(0,0)) (heap_alloc_new wz.drew _));have hszz:w.heap.size<=wz.heap.size:=HBz.out.size;have HKG:Hid (∀gg cap2 w9,w9.ownsRow w.heap.size 93 3 (.slice (some ⟨gg,0,none⟩) (nx+1) cap2) (nx+1) (Y.flatMap csE++[.int .i64 (e2:Int),.string ⟨e1.toArray⟩,.int .i64 (e0:Int)])->(wz.drew.alloc (.cells #[.int .i64 (e2:Int),.string ⟨e1.toArray⟩,.int .i64 (e0:Int)] 93)).grownBy w9 (Value.slice xa nx xc).ownBlock->
     (w9.cell? ⟨eb,0,none⟩=some (.int .i64 (e0:Int))/\w9.cell? ⟨eb,1,none⟩=some (.string ⟨e1.toArray⟩)/\w9.cell? ⟨eb,2,none⟩=some (.int .i64 (e2:Int)))/\((w9.setCell ⟨bb,2,none⟩ (.slice (some ⟨gg,0,none⟩) (nx+1) cap2)).cell? ⟨eb,0,none⟩=some (.int .i64 (e0:Int))/\(w9.setCell ⟨bb,2,none⟩ (.slice (some ⟨gg,0,none⟩) (nx+1) cap2)).cell? ⟨eb,1,none⟩=some (.string ⟨e1.toArray⟩)/\(w9.setCell ⟨bb,2,none⟩ (.slice (some ⟨gg,0,none⟩) (nx+1) cap2)).cell? ⟨eb,2,none⟩=some (.int .i64 (e2:Int)))/\(w9.cell? ⟨bb,2,none⟩=some (.slice xa nx xc)/\w9.frozen? ⟨bb,2,none⟩=false)/\Hid ((w9.setCell ⟨bb,2,none⟩ (.slice (some ⟨gg,0,none⟩) (nx+1) cap2)).heap[bb]?=some (.cells #[.slice na nn ncap,.map (some mb),.slice (some ⟨gg,0,none⟩) (nx+1) cap2] 72 (0,0)))/\Hid ((w9.setCell ⟨bb,2,none⟩ (.slice (some ⟨gg,0,none⟩) (nx+1) cap2)).ownsRow w.heap.size 93 3 (.slice (some ⟨gg,0,none⟩) (nx+1) cap2) ((E.take (i+1)).map turnE).length (((E.take (i+1)).map turnE).flatMap csE))/\Hid (Below w.heap.size w (w9.setCell ⟨bb,2,none⟩ (.slice (some ⟨gg,0,none⟩) (nx+1) cap2)))):=zA (fun gg cap2 w9 h1 h2=>by
     have hbk2:=(HA2.out.block bb (lt_of_block HBKz.out)).trans HBKz.out;have hbk9:=blk_grownG hbk2 h2 (own_neG HOE2.out hbk2 (by decide));have hebz:=(HA2.out.block eb (lt_of_block hbl)).trans hbl;have heb9:w9.heap[eb]?=_:=(h2.block eb (lt_of_block hebz) (fun e=>by
      have h3:=(HRz.out.lt eb e.symm).2;have h4:=(HROW.out.lt eb e.symm).2;omega)).trans hebz
     have hset:∀b,b≠bb->(w9.setCell ⟨bb,2,none⟩ (.slice (some ⟨gg,0,none⟩) (nx+1) cap2)).heap[b]?=w9.heap[b]?:=fun b hb=>zM _ _ _ _ hb
     have hebf:=(hset eb (fun e=>by rw[e,hbk9]at heb9;cases heb9)).trans heb9;obtain⟨⟨z0,z1,z2⟩,_⟩:=cells3G heb9;obtain⟨⟨y0,y1,y2⟩,_⟩:=cells3G hebf;obtain⟨⟨_,_,x2⟩,⟨_,_,x5⟩⟩:=cells3G hbk9;refine⟨⟨z0,z1,z2⟩,⟨y0,y1,y2⟩,⟨x2,x5⟩,zA (set3_2 hbk9),zA ?_,zA ?_⟩
     . have h4:w9.ownsRow w.heap.size 93 3 (.slice (some ⟨gg,0,none⟩) (nx+1) cap2) ((E.take (i+1)).map turnE).length (((E.take (i+1)).map turnE).flatMap csE):=by
        rw[HT.out,zG,<- HNX.out,zY];exact h1
       exact owns_key h4 (fun g o hg ho=>(hset g (fun e=>own_neG h4 hbk9 (by decide) (by rw[hg,e]))).trans ho)
     . refine Below.setCell (p:=⟨bb,2,none⟩) ?_ (by have:=HBB.out;show w.heap.size<=bb;omega) _;exact(HBz.out.trans (HA2.out.mono HBz.out.size)).grown h2 (by simp;omega) (fun k e=>(HRz.out.lt k e).1))
    rw[hoE]at hwz;clear hx hcell hY hnx hb2 hbl hcz hl2 hl3 hoE;go_wp2_with fail;rw[<- hwz,<- heb];clear hwz heb c0 c1 c2;have hl2:wz.drew.cell? ⟨bb,2,none⟩=some (.slice xa nx xc):=HL2.out;have hl3:=HL3.out;refine wp_region_held_drew (S:=fun u=>u.cell? ⟨eb,0,none⟩=some (.int .i64 (e0:Int))/\u.cell? ⟨eb,1,none⟩=some (.string ⟨e1.toArray⟩)/\u.cell? ⟨eb,2,none⟩=some (.int .i64 (e2:Int))) (by kernel_rfl) ?_ (fun hHeld=>?_)
    . exact KS.out _ HA1.out
    refine tkH (i:=0) (oi:=⟨some 25,.move (.tmp 3),62, "model.go:99",#[],none⟩) (v:=?_) rfl ?_ hHeld ?_;rotate_left 1
    . rintro W ⟨l1,l2,l3⟩;go_simp;try with_reducible rfl
    simp only[Act.put,zIB,zSZ,zSS];refine tkH (i:=1) (oi:=⟨some 26,.move (.tmp 3),62, "model.go:99",#[],none⟩) (v:=?_) rfl ?_ hHeld ?_;rotate_left 1
    . rintro W ⟨l1,l2,l3⟩;go_simp;try with_reducible rfl
    simp only[Act.put,zIB,zSZ,zSS];refine tkH (i:=2) (oi:=⟨some 27,.nilCheck (.tmp 26),0, "model.go:99",#[⟨1,.data⟩],none⟩) (v:=?_) rfl ?_ hHeld ?_;rotate_left 1
    . rintro W ⟨l1,l2,l3⟩;go_simp;try with_reducible rfl
    simp only[Act.put,zIB,zSZ,zSS];refine tkH (i:=3) (oi:=⟨some 28,.fieldAddr 72 (.tmp 27) 2,0, "model.go:99",#[⟨2,.data⟩],none⟩) (v:=?_) rfl ?_ hHeld ?_;rotate_left 1
    . rintro W ⟨l1,l2,l3⟩;go_simp;try with_reducible rfl
    simp only[Act.put,zIB,zSZ,zSS];refine tkH (i:=5) (oi:=⟨some 30,.fieldAddr 93 (.tmp 5) 2,0, "model.go:99",#[],none⟩) (v:=?_) rfl ?_ hHeld ?_;rotate_left 1
    . rintro W ⟨l1,l2,l3⟩;go_simp;try with_reducible rfl
    simp only[Act.put,zIB,zSZ,zSS];refine tkH (i:=6) (oi:=⟨some 31,.load 3 (.tmp 30),3, "model.go:99",#[⟨5,.data⟩],none⟩) (v:=?_) rfl ?_ hHeld ?_;rotate_left 1
    . rintro W ⟨l1,l2,l3⟩;go_simp;try with_reducible rfl
    simp only[Act.put,zIB,zSZ,zSS];refine tkH (i:=7) (oi:=⟨some 32,.fieldAddr 93 (.tmp 5) 1,0, "model.go:99",#[],none⟩) (v:=?_) rfl ?_ hHeld ?_;rotate_left 1
    . rintro W ⟨l1,l2,l3⟩;go_simp;try with_reducible rfl
    simp only[Act.put,zIB,zSZ,zSS];refine tkH (i:=8) (oi:=⟨some 33,.load 9 (.tmp 32),9, "model.go:99",#[⟨7,.data⟩],none⟩) (v:=?_) rfl ?_ hHeld ?_;rotate_left 1
    . rintro W ⟨l1,l2,l3⟩;go_simp;try with_reducible rfl
    simp only[Act.put,zIB,zSZ,zSS];refine tkH (i:=9) (oi:=⟨some 34,.fieldAddr 93 (.tmp 5) 0,0, "model.go:99",#[],none⟩) (v:=?_) rfl ?_ hHeld ?_;rotate_left 1
    . rintro W ⟨l1,l2,l3⟩;go_simp;try with_reducible rfl
    simp only[Act.put,zIB,zSZ,zSS];refine tkH (i:=10) (oi:=⟨some 35,.load 3 (.tmp 34),3, "model.go:99",#[⟨9,.data⟩],none⟩) (v:=?_) rfl ?_ hHeld ?_;rotate_left 1
    . rintro W ⟨l1,l2,l3⟩;go_simp;try with_reducible rfl
    simp only[Act.put,zIB,zSZ,zSS];refine tkH (i:=11) (oi:=⟨some 36,.build 93 #[(0,.tmp 31),(1,.tmp 33),(2,.tmp 35)],93, "model.go:99",#[⟨6,.data⟩,⟨8,.data⟩,⟨10,.data⟩],none⟩) (v:=?_) rfl ?_ hHeld ?_;rotate_left 1
    . rintro W ⟨l1,l2,l3⟩;go_simp;try with_reducible rfl
    simp only[Act.put,zIB,zSZ,zSS];refine wpAnyH_ready (rs:=[4,12]) (by kernel_rfl) (by simp) ?_;refine AllReadyH.cons (o:=⟨some 29,.load 70 (.tmp 28),70, "model.go:99",#[⟨3,.data⟩],none⟩) rfl (fun K hK=>?_) (AllReadyH.cons (o:=⟨some 37,.buildSlice 70 1 #[(0,.tmp 36)],70, "model.go:99",#[⟨11,.data⟩],none⟩) rfl (fun K hK=>?_) AllReadyH.nil)
    . go_simp;refine hK.out _ _ (KS.out _ HA1.out) (fun hHeld=>?_);clear hK K;refine wpAnyH_ready (rs:=[12]) (by kernel_rfl) (by simp) ?_;refine AllReadyH.cons (o:=⟨some 37,.buildSlice 70 1 #[(0,.tmp 36)],70, "model.go:99",#[⟨11,.data⟩],none⟩) rfl (fun K hK=>?_) AllReadyH.nil;go_simp;refine hK.out _ _ (KS.out _ HA2.out) (fun hHeld=>?_);clear hK K;refine wpAnyH_ready (rs:=[13]) (by kernel_rfl) (by simp) ?_;refine AllReadyH.cons (o:=⟨some 38,.call { callee:=.builtin .append,args:=#[.tmp 29,.tmp 37],argTypes:=#[70,70] },70, "model.go:99",#[⟨4,.data⟩,⟨12,.data⟩],none⟩) rfl (fun K hK=>?_) AllReadyH.nil;refine step_append_lies _ (by rfl) _ _ _ (by rfl) w.heap.size 93 i0 _ 3 32 Tryz.underlying70 hi0 hz0 hz1 hz2 rfl (by decide) (.slice xa nx xc) _ _ (by rfl) HOE2.out ⟨wz.heap.size,0,none⟩ 1 1 [.int .i64 (e2:Int),.string ⟨e1.toArray⟩,.int .i64 (e0:Int)] (by rfl) (by rfl) HNW.out (by simp[Value.oneCell']) (by decide) (by unfold maxLen;omega) (by omega) (by simp;omega) (wz.heap.size+1) (by simp) ?_;intro gg cap2 w9 hown9 hgrow9 hat9 hlt9;have HW9:=zA (HKG.out gg cap2 w9 hown9 hgrow9);refine hK.out _ _ HW9.out.1 (fun hHeld=>?_);clear hK K hown9 hgrow9 hat9 hlt9;obtain⟨c2,c8⟩:=HW9.out.2.2.1;refine tkH (i:=14) (oi:=⟨some 39,.nilCheck (.tmp 25),0, "model.go:99",#[⟨0,.data⟩,⟨0,.phase⟩,⟨1,.phase⟩,⟨2,.phase⟩,⟨3,.phase⟩,⟨4,.phase⟩,⟨5,.phase⟩,⟨6,.phase⟩,⟨7,.phase⟩,⟨8,.phase⟩,⟨9,.phase⟩,⟨10,.phase⟩,⟨11,.phase⟩,⟨12,.phase⟩,⟨13,.phase⟩],none⟩) (v:=?_) rfl ?_ hHeld ?_;rotate_left 1
      . rintro W ⟨l1,l2,l3⟩;go_simp;try with_reducible rfl
      simp only[Act.put,zIB,zSZ,zSS];refine tkH (i:=15) (oi:=⟨some 40,.fieldAddr 72 (.tmp 39) 2,0, "model.go:99",#[⟨14,.data⟩,⟨0,.phase⟩,⟨1,.phase⟩,⟨2,.phase⟩,⟨3,.phase⟩,⟨4,.phase⟩,⟨5,.phase⟩,⟨6,.phase⟩,⟨7,.phase⟩,⟨8,.phase⟩,⟨9,.phase⟩,⟨10,.phase⟩,⟨11,.phase⟩,⟨12,.phase⟩,⟨13,.phase⟩],none⟩) (v:=?_) rfl ?_ hHeld ?_;rotate_left 1
      . rintro W ⟨l1,l2,l3⟩;go_simp;try with_reducible rfl
      simp only[Act.put,zIB,zSZ,zSS];refine wpAnyH_ready (rs:=[16]) (by kernel_rfl) (by simp) ?_;refine AllReadyH.cons (o:=⟨none,.store 70 (.tmp 40) (.tmp 38),0, "model.go:99",#[⟨15,.data⟩,⟨13,.data⟩,⟨13,.chain⟩,⟨0,.phase⟩,⟨1,.phase⟩,⟨2,.phase⟩,⟨3,.phase⟩,⟨4,.phase⟩,⟨5,.phase⟩,⟨6,.phase⟩,⟨7,.phase⟩,⟨8,.phase⟩,⟨9,.phase⟩,⟨10,.phase⟩,⟨11,.phase⟩,⟨12,.phase⟩,⟨13,.phase⟩],none⟩) rfl (fun K hK=>?_) AllReadyH.nil;go_simp;refine hK.out _ _ HW9.out.2.1 (fun hHeld=>?_);clear hK K c2 c8;refine wpAnyH_done (by kernel_rfl) ?_ _;go_wp2;go_roundw
      case rel=>exact⟨i+1,_,by omega,by go_num,HW9.out.2.2.2.1,HW9.out.2.2.2.2.1,HW9.out.2.2.2.2.2⟩
      case measure=>simp[intOf];omega
    . go_simp;refine hK.out _ _ (KS.out _ HA2.out) (fun hHeld=>?_);clear hK K;refine wpAnyH_ready (rs:=[4]) (by kernel_rfl) (by simp) ?_;refine AllReadyH.cons (o:=⟨some 29,.load 70 (.tmp 28),70, "model.go:99",#[⟨3,.data⟩],none⟩) rfl (fun K hK=>?_) AllReadyH.nil;go_simp;refine hK.out _ _ (KS.out _ HA2.out) (fun hHeld=>?_);clear hK K;refine wpAnyH_ready (rs:=[13]) (by kernel_rfl) (by simp) ?_;refine AllReadyH.cons (o:=⟨some 38,.call { callee:=.builtin .append,args:=#[.tmp 29,.tmp 37],argTypes:=#[70,70] },70, "model.go:99",#[⟨4,.data⟩,⟨12,.data⟩],none⟩) rfl (fun K hK=>?_) AllReadyH.nil;refine step_append_lies _ (by rfl) _ _ _ (by rfl) w.heap.size 93 i0 _ 3 32 Tryz.underlying70 hi0 hz0 hz1 hz2 rfl (by decide) (.slice xa nx xc) _ _ (by rfl) HOE2.out ⟨wz.heap.size,0,none⟩ 1 1 [.int .i64 (e2:Int),.string ⟨e1.toArray⟩,.int .i64 (e0:Int)] (by rfl) (by rfl) HNW.out (by simp[Value.oneCell']) (by decide) (by unfold maxLen;omega) (by omega) (by simp;omega) (wz.heap.size+1) (by simp) ?_;intro gg cap2 w9 hown9 hgrow9 hat9 hlt9;have HW9:=zA (HKG.out gg cap2 w9 hown9 hgrow9);refine hK.out _ _ HW9.out.1 (fun hHeld=>?_);clear hK K hown9 hgrow9 hat9 hlt9;obtain⟨c2,c8⟩:=HW9.out.2.2.1;refine tkH (i:=14) (oi:=⟨some 39,.nilCheck (.tmp 25),0, "model.go:99",#[⟨0,.data⟩,⟨0,.phase⟩,⟨1,.phase⟩,⟨2,.phase⟩,⟨3,.phase⟩,⟨4,.phase⟩,⟨5,.phase⟩,⟨6,.phase⟩,⟨7,.phase⟩,⟨8,.phase⟩,⟨9,.phase⟩,⟨10,.phase⟩,⟨11,.phase⟩,⟨12,.phase⟩,⟨13,.phase⟩],none⟩) (v:=?_) rfl ?_ hHeld ?_;rotate_left 1
      . rintro W ⟨l1,l2,l3⟩;go_simp;try with_reducible rfl
      simp only[Act.put,zIB,zSZ,zSS];refine tkH (i:=15) (oi:=⟨some 40,.fieldAddr 72 (.tmp 39) 2,0, "model.go:99",#[⟨14,.data⟩,⟨0,.phase⟩,⟨1,.phase⟩,⟨2,.phase⟩,⟨3,.phase⟩,⟨4,.phase⟩,⟨5,.phase⟩,⟨6,.phase⟩,⟨7,.phase⟩,⟨8,.phase⟩,⟨9,.phase⟩,⟨10,.phase⟩,⟨11,.phase⟩,⟨12,.phase⟩,⟨13,.phase⟩],none⟩) (v:=?_) rfl ?_ hHeld ?_;rotate_left 1
      . rintro W ⟨l1,l2,l3⟩;go_simp;try with_reducible rfl
      simp only[Act.put,zIB,zSZ,zSS];refine wpAnyH_ready (rs:=[16]) (by kernel_rfl) (by simp) ?_;refine AllReadyH.cons (o:=⟨none,.store 70 (.tmp 40) (.tmp 38),0, "model.go:99",#[⟨15,.data⟩,⟨13,.data⟩,⟨13,.chain⟩,⟨0,.phase⟩,⟨1,.phase⟩,⟨2,.phase⟩,⟨3,.phase⟩,⟨4,.phase⟩,⟨5,.phase⟩,⟨6,.phase⟩,⟨7,.phase⟩,⟨8,.phase⟩,⟨9,.phase⟩,⟨10,.phase⟩,⟨11,.phase⟩,⟨12,.phase⟩,⟨13,.phase⟩],none⟩) rfl (fun K hK=>?_) AllReadyH.nil;go_simp;refine hK.out _ _ HW9.out.2.1 (fun hHeld=>?_);clear hK K c2 c8;refine wpAnyH_done (by kernel_rfl) ?_ _;go_wp2;go_roundw
      case rel=>exact⟨i+1,_,by omega,by go_num,HW9.out.2.2.2.1,HW9.out.2.2.2.2.1,HW9.out.2.2.2.2.2⟩
      case measure=>simp[intOf];omega
  . have hltI:¬(i:Int)<(ne:Int):=by omega
    have HFIN:Hid (Q (.returned (.pointer (some ⟨bb,0,none⟩))) wy):=zA (by
     rw[HQ.out];have hE:(E.take i).map turnE=E.map turnE:=by rw[zK (by rw[<- HNE.out];omega)]
     refine⟨bb,ex,rfl,by have:=HBB.out;omega,⟨HBK.out,.inr (by have:=HBB.out;omega),?_,?_,map_keyG H.out.map (fun o ho=>(HBW.out.block mb H.out.map.lt).trans ho),.inl H.out.sm,H.out.keys,H.out.tells⟩,HBW.out⟩
     . exact H.out.names.keep HBW.out.size (fun b hs hlb=>⟨.inl hs,HBW.out.block b hlb⟩)
     . have h1:=HROW.out;rw[hE]at h1;exact(own_sl csE_len h1 rfl).sub (fun b hb _=>.inr (h1.lt b hb).1))
    go_wp2;first
     |exact HFIN.out
     |(go_ret;exact HFIN.out)
end Go.Proofs.YtdalcipmpelifaaGreatDoor
