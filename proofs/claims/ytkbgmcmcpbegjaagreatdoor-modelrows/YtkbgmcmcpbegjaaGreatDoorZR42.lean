/- XFill2. -/
import Derived.Test.YtkbgmcmcpbegjaaGreatDoorZR41
set_option maxRecDepth 100000
set_option maxHeartbeats 32000000
namespace Go.Proofs.YtkbgmcmcpbegjaaGreatDoor
open Go.RowKit Go.Shelf
theorem infoRF:(Tryz.prog.info? 59).map (fun i=>(i.zero,i.size,i.bytes))=some (some (.slice none 0 0),1,24):=by kernel_rfl
theorem fill_nil{ls:List Lk}{n:Nat}{us:List Nat}{c:Ch}{row:List Nat}(h:locB ls c (List.range n)=false):jbF ls n us c row=[]:=by
 cases us<;>(unfold jbF;rw[h];rfl)
theorem take_fit{α:Type}{l:List α}{k:Nat}(h:l.length<=k):l.take k=l:=zJ h
theorem fillJ_step{k:Nat}{F:Nat->Prop}{jb:Nat}{ds:List Sy}{n m:Nat}{lks:List Lm}{ls:List Lk}{us:List Nat}(hus:us≠[])(hum:∀u∈us,u<m)(H:∀k',k=k'+1->jlG k' F jb ds n m lks ls us):jlG k F jb ds n m lks ls us:=by
 intro w J l X C cv c rv ag fl b7 au aC bw bN h;obtain⟨i0,bk,bj,bn,bl⟩:=jal infoRF;have C0:=zA h.ask;obtain⟨j0,j1,j2,j3,j4,j5,j6⟩:=h.jz.cell;have cu:=zA hum;obtain⟨ra,rc,bv⟩:=h.row.slice;obtain⟨nr,a9⟩:=eX ag.length;rw[<- a9]at bv;obtain⟨va,vc,a4,_⟩:=h.jz.va.2;obtain⟨nu,aN⟩:=eX us.length;rw[<- aN]at a4;have hnul:nu<=1000:=by rw[aN];exact h.jz.ul
 have hnrl:nr<=nu:=by rw[aN,aC,zG,a9,bw];omega
 have aU:Hid (∀(W:World) (Jx:Jv) (lx:List Sx),Jz F W jb Jx ds n m lks ls us lx->Jx.vv=J.vv->W.cell? ⟨jb,2,none⟩=some (.slice va nu vc)):=zA (fun W Jx lx hJ e=>by rw[hJ.cell.2.1,e,a4]);obtain⟨Q,hQ⟩:=eX (FilE F w jb J ds n m lks ls us l X rv ag fl (jbF ls m au c ag));rw[<- hQ];have HQ:Hid (∀w' b,b=decide ((fl++jbF ls m au c ag).length<=4096)->FO F w jb J ds n m lks ls us l X rv ag ((fl++jbF ls m au c ag).take 4097) w'->Q (.returned (.bool b)) w'):=zA (fun w' b hb ho=>by rw[hQ,hb];exact⟨rfl,ho⟩);have bg:Hid (fl.length<=4096):=zA h.fle;have HH:=zA H;have HI:=zA h;have al:=zA aC;have aX:=zA bw;have bC:=zA bN;have aw:=zA a9;have bs:=zA aN;have cp:=zA a4;have HRV:=zA bv;have ck:=zA hus;clear H h hQ aC bw bN a9 aN a4 hum hus j1 j2 j3 j4 j5 j6;subst bv;go_enter Tryz.func78,Tryz.ntmps78;go_wp2_with fail;refine C0.out.mono ?_;rintro e w1 ⟨rfl,a8,l1,a6⟩;have aL:=zA (HI.out.call a8 a6 (fun k hk hu=>⟨hk,hu⟩));have b6:=zA (HI.out.nothing a8 a6 (fun k hk hu=>⟨hk,hu⟩));have bF:Hid (FFr w w1 l l1 (FM jb X (.slice ra nr rc))):=zA (FFr.call a8 a6 (fun k hk hu=>⟨hk,hu⟩));clear a8 a6 j0 C0;obtain⟨t,ht⟩:=eX (locB ls c (List.range m));have HT:=zA ht;rw[<- ht];clear ht;cases t with
 |false=>
  have HE:=zA (HQ.out w1 true (by
   rw[fill_nil HT.out.symm,List.append_nil];exact(zU bg.out).symm) (by
   rw[fill_nil HT.out.symm,List.append_nil,take_fit (Nat.le_succ_of_le bg.out)];exact b6.out))
  go_wp2;all_goals (first|(go_ret;exact HE.out)|exact HE.out)
 |true=>
  have q2:=aU.out w1 J l1 aL.out.jz rfl;cases au with
  |nil=>
   have bP:nr=nu:=by rw[aw.out,bs.out,aX.out,al.out,List.append_nil]
   have aF:Hid (jbF ls m [] c ag=[ag]):=zA (by unfold jbF;rw[<- HT.out];rfl);have av:=zA aL.out.drew;have cj:=zA bF.out.drew;obtain⟨ar,a2,aZ,bh,aT⟩:=av.out.fo;obtain⟨fa,fc,az⟩:=jab aZ;obtain⟨nf,aR⟩:=eX ar.length;rw[<- aR]at az aZ;have hnfl:nf<=4096:=by
    have h1:=bg.out;rw[<- a2,zH,<- aR]at h1;exact h1
   have bB:Hid (fl.length=nf):=zA (by rw[<- a2,zH,aR]);have HFV:=zA az;have ba:Hid (∀W:World,W.heap[jb]?=some (.cells J.cells 134 (0,0))->W.cell? ⟨jb,6,none⟩=some (.slice fa nf fc)/\W.frozen? ⟨jb,6,none⟩=false):=zA (fun W hW=>by simp[World.cell?,World.frozen?,hW,Jv.cells,az]);have bx:Hid (∀W,Below w1.drew.heap.size w1.drew W->W.cell? ⟨jb,6,none⟩=some (.slice fa nf fc)):=zA (fun W hW=>(ba.out W ((hW.block jb av.out.jz.lt).trans av.out.jz.blk)).1);have b8:=bx.out w1.drew (zF _ _);have f1:w1.cell? ⟨jb,6,none⟩=some (.slice fa nf fc):=b8;have bz:ag≠[]:=fun e=>by
    have h1:=aw.out;rw[e]at h1;have h2:=bs.out;exact ck.out (yP.1 (by rw[<- h2,<- bP,h1];rfl))
   have aV:=jdC av.out.row.natC.1 bz (by rw[<- aw.out];omega);rw[<- aw.out]at aV;have aV:=zA aV;have ax:Hid (∀(w2:World) (nv:Value),w2.ownsRow w1.drew.heap.size 3 1 nv nr (ag.flatMap csI)->Below w1.drew.heap.size w1.drew w2->Hid ((w2.alloc (.cells #[nv] 59)).cell? ⟨jb,6,none⟩=some (.slice fa nf fc)/\(w2.alloc (.cells #[nv] 59)).ownsRow 0 59 1 (.slice fa nf fc) nf (ar.flatMap jaN)/\(∀j u,[nv][j]?=some u->(w2.alloc (.cells #[nv] 59)).cell? ((⟨w2.heap.size,0,none⟩:Addr).add j)=some u)/\
    Hid (∀gg af w9,w9.ownsRow 0 59 1 (.slice (some ⟨gg,0,none⟩) (nf+1) af) (nf+1) (ar.flatMap jaN++[nv])->(w2.alloc (.cells #[nv] 59)).grownBy w9 (Value.slice fa nf fc).ownBlock->((Value.slice fa nf fc).ownBlock=some gg\/gg=w2.heap.size+1)->
     w9.cell? ⟨jb,6,none⟩=some (.slice fa nf fc)/\w9.frozen? ⟨jb,6,none⟩=false/\Hid ((w9.setCell ⟨jb,6,none⟩ (.slice (some ⟨gg,0,none⟩) (nf+1) af)).cell? ⟨jb,6,none⟩=some (.slice (some ⟨gg,0,none⟩) (nf+1) af)/\Q (.returned (.bool (decide ((nf:Int)+1<=4096)))) (w9.setCell ⟨jb,6,none⟩ (.slice (some ⟨gg,0,none⟩) (nf+1) af)))))):=zA (fun w2 nv aj aq=>zA (by
    have a5:Below w1.drew.heap.size w1.drew (w2.alloc (.cells #[nv] 59)):=aq.alloc aq.size _;have aO:(w2.alloc (.cells #[nv] 59)).heap[jb]?=some (.cells J.cells 134 (0,0)):=(a5.block jb av.out.jz.lt).trans av.out.jz.blk;have bd:(w2.alloc (.cells #[nv] 59)).ownsRow 0 59 1 (.slice fa nf fc) nf (ar.flatMap jaN):=by
     rw[<- az];exact jao aZ a5
    have bc:∀g,(Value.slice fa nf fc).ownBlock=some g->X g:=by rw[<- az];exact bh
    refine⟨(ba.out _ aO).1,bd,World.news_of_block (cs:=#[nv]) (heap_alloc_new w2 _),zA (fun gg af w9 ad aa ah=>?_)⟩;have cb:(Value.slice fa nf fc).ownBlock≠some jb:=fun e=>(av.out.xm jb (bc jb e)).2.2.2.1 rfl
    have aB:w9.heap[jb]?=some (.cells J.cells 134 (0,0)):=(aa.block jb (zQ av.out.jz.lt a5.size) (fun e=>cb e.symm)).trans aO;refine⟨(ba.out w9 aB).1,(ba.out w9 aB).2,zA ⟨by simp[World.cell?,World.setCell,Array.getElem?_modify,aB,Jv.cells],?_⟩⟩;refine HQ.out _ _ ?_ ?_
    . rw[aF.out,zG,bB.out];exact decide_eq_decide.2 (by simp only[List.length_singleton];omega)
    . rw[aF.out,take_fit (by rw[zG,bB.out];simp only[List.length_singleton];omega)];have hl:=av.out.leaf (wz:=w2.alloc (.cells #[nv] 59)) (w9:=w9) (nv:=nv) (fv9:=.slice (some ⟨gg,0,none⟩) (nf+1) af) a2 bh aT a5 ((jc4 (by rw[<- aw.out];exact aj)).below ((zF _ _).alloc (zD _) _)) (fun k hk=>by
       have:=aj.lt k hk;exact⟨this.1,by simp;omega⟩) aa.os aa.tape aa.output aa.size (fun k hk bL=>aa.block k hk (fun e=>bL (by rw[az];exact e.symm))) (by rw[<- aR];exact ad) (fun g hg=>by
       have hg:gg=g:=by simpa[Value.ownBlock]using hg
       subst hg;rcases ah with h1|h1
       . exact .inl (by rw[az];exact h1)
       . exact .inr (by simp;omega))
      exact FO.from_ (fv:=J.fv) cj.out (fun k hk=>.inl hk) hl))
   clear a2 aZ bh aT az aR;subst bP;go_wp2_with fail;refine wp_region_held_drew (S:=fun u=>True) (by kernel_rfl) ?_ (fun hHeld=>?_)
   . exact trivial
   refine tkH (i:=0) (oi:=⟨some 26,.move (.tmp 0),85, "join.go:120",#[],none⟩) (v:=?_) rfl ?_ hHeld ?_;rotate_left 1
   . intro W ai;obtain _:=ai;go_simp;try with_reducible rfl
   simp only[Act.put,zIB,zSZ,zSS];refine tkH (i:=1) (oi:=⟨some 27,.move (.tmp 0),85, "join.go:120",#[],none⟩) (v:=?_) rfl ?_ hHeld ?_;rotate_left 1
   . intro W ai;obtain _:=ai;go_simp;try with_reducible rfl
   simp only[Act.put,zIB,zSZ,zSS];refine tkH (i:=2) (oi:=⟨some 28,.nilCheck (.tmp 27),0, "join.go:120",#[⟨1,.data⟩],none⟩) (v:=?_) rfl ?_ hHeld ?_;rotate_left 1
   . intro W ai;obtain _:=ai;go_simp;try with_reducible rfl
   simp only[Act.put,zIB,zSZ,zSS];refine tkH (i:=3) (oi:=⟨some 29,.fieldAddr 134 (.tmp 28) 6,0, "join.go:120",#[⟨2,.data⟩],none⟩) (v:=?_) rfl ?_ hHeld ?_;rotate_left 1
   . intro W ai;obtain _:=ai;go_simp;try with_reducible rfl
   simp only[Act.put,zIB,zSZ,zSS];refine tkH (i:=5) (oi:=⟨some 31,.move (.tmp 2),59, "join.go:120",#[],none⟩) (v:=?_) rfl ?_ hHeld ?_;rotate_left 1
   . intro W ai;obtain _:=ai;go_simp;try with_reducible rfl
   simp only[Act.put,zIB,zSZ,zSS];refine wpAnyH_ready (rs:=[4,6]) (by kernel_rfl) (by simp) ?_;refine(AllReadyH.cons (o:=⟨some 30,.load 60 (.tmp 29),60, "join.go:120",#[⟨3,.data⟩],none⟩) rfl (fun K hK=>?_) (AllReadyH.cons (o:=⟨some 32,.call { callee:=.value (.func 98),args:=#[.tmp 31],argTypes:=#[59] },59, "join.go:120",#[⟨5,.data⟩],none⟩) rfl (fun K hK=>?_) AllReadyH.nil))
   . go_simp;refine hK.out _ _ trivial (fun hHeld=>?_);clear hK K;refine wpAnyH_ready (rs:=[6]) (by kernel_rfl) (by simp) ?_;refine(AllReadyH.cons (o:=⟨some 32,.call { callee:=.value (.func 98),args:=#[.tmp 31],argTypes:=#[59] },59, "join.go:120",#[⟨5,.data⟩],none⟩) rfl (fun K hK=>?_) AllReadyH.nil);go_simp;refine aV.out.mono ?_;rintro e w2 ⟨nv,rfl,aj,aq⟩;obtain⟨na,nc,aE⟩:=jab aj;subst aE;have aJ:=zA (ax.out w2 _ aj aq);have f2:=bx.out w2 aq;clear aj aq;refine hK.out _ _ trivial (fun hHeld=>?_);clear hK K;refine wpAnyH_ready (rs:=[7]) (by kernel_rfl) (by simp) ?_;refine(AllReadyH.cons (o:=⟨some 33,.buildSlice 60 1 #[(0,.tmp 32)],60, "join.go:120",#[⟨6,.data⟩],none⟩) rfl (fun K hK=>?_) AllReadyH.nil);go_simp;refine hK.out _ _ trivial (fun hHeld=>?_);clear hK K;obtain⟨f3,ae,ab,aM⟩:=aJ.out;refine wpAnyH_ready (rs:=[8]) (by kernel_rfl) (by simp) ?_;refine(AllReadyH.cons (o:=⟨some 34,.call { callee:=.builtin .append,args:=#[.tmp 30,.tmp 33],argTypes:=#[60,60] },60, "join.go:120",#[⟨4,.data⟩,⟨7,.data⟩,⟨6,.chain⟩],none⟩) rfl (fun K hK=>?_) AllReadyH.nil);refine step_append_lies _ (by rfl) _ _ _ (by rfl) 0 59 i0 _ 1 24 Tryz.underlying60 bk bj bn bl rfl (by decide) (.slice fa nf fc) _ _ (by rfl) ae ⟨w2.heap.size,0,none⟩ 1 1 [.slice na nr nc] (by rfl) (by rfl) ab (by simp[Value.oneCell']) (by decide) (by unfold maxLen;omega) (by omega) (zO _) (w2.heap.size+1) (by simp) ?_;intro gg af w9 ad aa ah ap;obtain⟨c9,z9,ao⟩:=aM.out gg af w9 ad aa ah;refine hK.out _ _ trivial (fun hHeld=>?_);clear hK K ad aa ah ap ae ab;refine tkH (i:=9) (oi:=⟨some 35,.nilCheck (.tmp 26),0, "join.go:120",#[⟨0,.data⟩,⟨0,.phase⟩,⟨1,.phase⟩,⟨2,.phase⟩,⟨3,.phase⟩,⟨4,.phase⟩,⟨5,.phase⟩,⟨6,.phase⟩,⟨7,.phase⟩,⟨8,.phase⟩],none⟩) (v:=?_) rfl ?_ hHeld ?_;rotate_left 1
     . intro W ai;obtain _:=ai;go_simp;try with_reducible rfl
     simp only[Act.put,zIB,zSZ,zSS];refine tkH (i:=10) (oi:=⟨some 36,.fieldAddr 134 (.tmp 35) 6,0, "join.go:120",#[⟨9,.data⟩,⟨0,.phase⟩,⟨1,.phase⟩,⟨2,.phase⟩,⟨3,.phase⟩,⟨4,.phase⟩,⟨5,.phase⟩,⟨6,.phase⟩,⟨7,.phase⟩,⟨8,.phase⟩],none⟩) (v:=?_) rfl ?_ hHeld ?_;rotate_left 1
     . intro W ai;obtain _:=ai;go_simp;try with_reducible rfl
     simp only[Act.put,zIB,zSZ,zSS];refine wpAnyH_ready (rs:=[11]) (by kernel_rfl) (by simp) ?_;refine(AllReadyH.cons (o:=⟨none,.store 60 (.tmp 36) (.tmp 34),0, "join.go:120",#[⟨10,.data⟩,⟨8,.data⟩,⟨8,.chain⟩,⟨0,.phase⟩,⟨1,.phase⟩,⟨2,.phase⟩,⟨3,.phase⟩,⟨4,.phase⟩,⟨5,.phase⟩,⟨6,.phase⟩,⟨7,.phase⟩,⟨8,.phase⟩],none⟩) rfl (fun K hK=>?_) AllReadyH.nil);go_simp;refine hK.out _ _ trivial (fun hHeld=>?_);clear hK K c9 z9;refine wpAnyH_done (by kernel_rfl) ?_ _;have c6:=ao.out.1;go_wp2;all_goals (first|(go_ret;exact ao.out.2)|exact ao.out.2)
   . go_simp;refine aV.out.mono ?_;rintro e w2 ⟨nv,rfl,aj,aq⟩;obtain⟨na,nc,aE⟩:=jab aj;subst aE;have aJ:=zA (ax.out w2 _ aj aq);have f2:=bx.out w2 aq;clear aj aq;refine hK.out _ _ trivial (fun hHeld=>?_);clear hK K;refine wpAnyH_ready (rs:=[4,7]) (by kernel_rfl) (by simp) ?_;refine(AllReadyH.cons (o:=⟨some 30,.load 60 (.tmp 29),60, "join.go:120",#[⟨3,.data⟩],none⟩) rfl (fun K hK=>?_) (AllReadyH.cons (o:=⟨some 33,.buildSlice 60 1 #[(0,.tmp 32)],60, "join.go:120",#[⟨6,.data⟩],none⟩) rfl (fun K hK=>?_) AllReadyH.nil))
     . go_simp;refine hK.out _ _ trivial (fun hHeld=>?_);clear hK K;refine wpAnyH_ready (rs:=[7]) (by kernel_rfl) (by simp) ?_;refine(AllReadyH.cons (o:=⟨some 33,.buildSlice 60 1 #[(0,.tmp 32)],60, "join.go:120",#[⟨6,.data⟩],none⟩) rfl (fun K hK=>?_) AllReadyH.nil);go_simp;refine hK.out _ _ trivial (fun hHeld=>?_);clear hK K;obtain⟨f3,ae,ab,aM⟩:=aJ.out;refine wpAnyH_ready (rs:=[8]) (by kernel_rfl) (by simp) ?_;refine(AllReadyH.cons (o:=⟨some 34,.call { callee:=.builtin .append,args:=#[.tmp 30,.tmp 33],argTypes:=#[60,60] },60, "join.go:120",#[⟨4,.data⟩,⟨7,.data⟩,⟨6,.chain⟩],none⟩) rfl (fun K hK=>?_) AllReadyH.nil);refine step_append_lies _ (by rfl) _ _ _ (by rfl) 0 59 i0 _ 1 24 Tryz.underlying60 bk bj bn bl rfl (by decide) (.slice fa nf fc) _ _ (by rfl) ae ⟨w2.heap.size,0,none⟩ 1 1 [.slice na nr nc] (by rfl) (by rfl) ab (by simp[Value.oneCell']) (by decide) (by unfold maxLen;omega) (by omega) (zO _) (w2.heap.size+1) (by simp) ?_;intro gg af w9 ad aa ah ap;obtain⟨c9,z9,ao⟩:=aM.out gg af w9 ad aa ah;refine hK.out _ _ trivial (fun hHeld=>?_);clear hK K ad aa ah ap ae ab;refine tkH (i:=9) (oi:=⟨some 35,.nilCheck (.tmp 26),0, "join.go:120",#[⟨0,.data⟩,⟨0,.phase⟩,⟨1,.phase⟩,⟨2,.phase⟩,⟨3,.phase⟩,⟨4,.phase⟩,⟨5,.phase⟩,⟨6,.phase⟩,⟨7,.phase⟩,⟨8,.phase⟩],none⟩) (v:=?_) rfl ?_ hHeld ?_;rotate_left 1
       . intro W ai;obtain _:=ai;go_simp;try with_reducible rfl
       simp only[Act.put,zIB,zSZ,zSS];refine tkH (i:=10) (oi:=⟨some 36,.fieldAddr 134 (.tmp 35) 6,0, "join.go:120",#[⟨9,.data⟩,⟨0,.phase⟩,⟨1,.phase⟩,⟨2,.phase⟩,⟨3,.phase⟩,⟨4,.phase⟩,⟨5,.phase⟩,⟨6,.phase⟩,⟨7,.phase⟩,⟨8,.phase⟩],none⟩) (v:=?_) rfl ?_ hHeld ?_;rotate_left 1
       . intro W ai;obtain _:=ai;go_simp;try with_reducible rfl
       simp only[Act.put,zIB,zSZ,zSS];refine wpAnyH_ready (rs:=[11]) (by kernel_rfl) (by simp) ?_;refine(AllReadyH.cons (o:=⟨none,.store 60 (.tmp 36) (.tmp 34),0, "join.go:120",#[⟨10,.data⟩,⟨8,.data⟩,⟨8,.chain⟩,⟨0,.phase⟩,⟨1,.phase⟩,⟨2,.phase⟩,⟨3,.phase⟩,⟨4,.phase⟩,⟨5,.phase⟩,⟨6,.phase⟩,⟨7,.phase⟩,⟨8,.phase⟩],none⟩) rfl (fun K hK=>?_) AllReadyH.nil);go_simp;refine hK.out _ _ trivial (fun hHeld=>?_);clear hK K c9 z9;refine wpAnyH_done (by kernel_rfl) ?_ _;have c6:=ao.out.1;go_wp2;all_goals (first|(go_ret;exact ao.out.2)|exact ao.out.2)
     . go_simp;refine hK.out _ _ trivial (fun hHeld=>?_);clear hK K;obtain⟨f3,ae,ab,aM⟩:=aJ.out;refine wpAnyH_ready (rs:=[4]) (by kernel_rfl) (by simp) ?_;refine(AllReadyH.cons (o:=⟨some 30,.load 60 (.tmp 29),60, "join.go:120",#[⟨3,.data⟩],none⟩) rfl (fun K hK=>?_) AllReadyH.nil);go_simp;refine hK.out _ _ trivial (fun hHeld=>?_);clear hK K;refine wpAnyH_ready (rs:=[8]) (by kernel_rfl) (by simp) ?_;refine(AllReadyH.cons (o:=⟨some 34,.call { callee:=.builtin .append,args:=#[.tmp 30,.tmp 33],argTypes:=#[60,60] },60, "join.go:120",#[⟨4,.data⟩,⟨7,.data⟩,⟨6,.chain⟩],none⟩) rfl (fun K hK=>?_) AllReadyH.nil);refine step_append_lies _ (by rfl) _ _ _ (by rfl) 0 59 i0 _ 1 24 Tryz.underlying60 bk bj bn bl rfl (by decide) (.slice fa nf fc) _ _ (by rfl) ae ⟨w2.heap.size,0,none⟩ 1 1 [.slice na nr nc] (by rfl) (by rfl) ab (by simp[Value.oneCell']) (by decide) (by unfold maxLen;omega) (by omega) (zO _) (w2.heap.size+1) (by simp) ?_;intro gg af w9 ad aa ah ap;obtain⟨c9,z9,ao⟩:=aM.out gg af w9 ad aa ah;refine hK.out _ _ trivial (fun hHeld=>?_);clear hK K ad aa ah ap ae ab;refine tkH (i:=9) (oi:=⟨some 35,.nilCheck (.tmp 26),0, "join.go:120",#[⟨0,.data⟩,⟨0,.phase⟩,⟨1,.phase⟩,⟨2,.phase⟩,⟨3,.phase⟩,⟨4,.phase⟩,⟨5,.phase⟩,⟨6,.phase⟩,⟨7,.phase⟩,⟨8,.phase⟩],none⟩) (v:=?_) rfl ?_ hHeld ?_;rotate_left 1
       . intro W ai;obtain _:=ai;go_simp;try with_reducible rfl
       simp only[Act.put,zIB,zSZ,zSS];refine tkH (i:=10) (oi:=⟨some 36,.fieldAddr 134 (.tmp 35) 6,0, "join.go:120",#[⟨9,.data⟩,⟨0,.phase⟩,⟨1,.phase⟩,⟨2,.phase⟩,⟨3,.phase⟩,⟨4,.phase⟩,⟨5,.phase⟩,⟨6,.phase⟩,⟨7,.phase⟩,⟨8,.phase⟩],none⟩) (v:=?_) rfl ?_ hHeld ?_;rotate_left 1
       . intro W ai;obtain _:=ai;go_simp;try with_reducible rfl
       simp only[Act.put,zIB,zSZ,zSS];refine wpAnyH_ready (rs:=[11]) (by kernel_rfl) (by simp) ?_;refine(AllReadyH.cons (o:=⟨none,.store 60 (.tmp 36) (.tmp 34),0, "join.go:120",#[⟨10,.data⟩,⟨8,.data⟩,⟨8,.chain⟩,⟨0,.phase⟩,⟨1,.phase⟩,⟨2,.phase⟩,⟨3,.phase⟩,⟨4,.phase⟩,⟨5,.phase⟩,⟨6,.phase⟩,⟨7,.phase⟩,⟨8,.phase⟩],none⟩) rfl (fun K hK=>?_) AllReadyH.nil);go_simp;refine hK.out _ _ trivial (fun hHeld=>?_);clear hK K c9 z9;refine wpAnyH_done (by kernel_rfl) ?_ _;have c6:=ao.out.1;go_wp2;all_goals (first|(go_ret;exact ao.out.2)|exact ao.out.2)
  |cons u rest'=>
   have hlt:nr<nu:=by rw[aw.out,bs.out,aX.out,al.out,zG,yI];omega
   have bL:¬(nr:Int)=(nu:Int):=by omega
   have hneB:((nr:Int)==(nu:Int))=false:=by simp;omega
   have hltI:(nr:Int)<(nu:Int):=by omega
   have hum:u<m:=cu.out u (by rw[al.out];simp);have bD:us[nr]?=some u:=by rw[al.out,aw.out,aX.out,yM (zD _)];simp
   have bb:=aL.out.jz.va.1;rw[cp.out]at bb;obtain⟨gv,ofv,bo,_,_,bH⟩:=bb.get bD;subst bo;have b9:=bH 0 _ rfl;rw[yC,yA]at b9;obtain⟨am,aK,aG,aP,aS⟩:=aL.out.ch.ex;have bq:am.length=m:=by rw[<- aL.out.cl,<- aK,zH]
   obtain⟨r,hr⟩:∃r,am[u]?=some r:=⟨_,zB (by omega)⟩
   have a1:atC c u=r.2:=by unfold atC;rw[<- aK,List.getD,zI,hr];rfl
   obtain⟨ca,cc,bT⟩:=aG.slice;obtain⟨nc,bU⟩:=eX am.length;rw[<- bU]at bT;subst bT;obtain⟨gc,bR,bZ,co,_,bY⟩:=aG.get hr;subst bZ;have cr:=bY 0 _ rfl;rw[yC,yA]at cr;have a0:=aP r (zC hr);have bp:=aS r (zC hr);obtain⟨rw_,VL⟩:=r;dsimp only at a1 cr a0 bp;obtain⟨la,lc,bK⟩:=a0.1.slice;obtain⟨nv,aj⟩:=eX VL.length;rw[<- aj]at bK;subst bK;have hnvl:nv<=10000:=by rw[aj];exact bp.2
   have hunI:(u:Int)<(nc:Int):=by omega
   have huN:u<nc:=by omega
   obtain⟨g,hg⟩:=eX (fun v=>jbF ls m rest' (jas ls c u v) (ag++[v]):Nat->List (List Nat));have HG:=zA hg;have aF:Hid (jbF ls m (u::rest') c ag=VL.flatMap g):=zA (by unfold jbF;rw[<- HT.out,if_pos rfl,a1,hg]);have cd:Hid (∀v,v∈VL->v∈atC c u):=zA (fun v hv=>by rw[a1];exact hv);have ci:Hid (NatC C w1 (.slice la nv lc) VL):=zA a0;have aJ:=zA aj;have bu:=zA hum;obtain⟨k',bX⟩:∃k',k=k'+1:=⟨k-1,by have:=bC.out;rw[yI]at this;omega⟩
   have HP:=zA (HH.out k' bX);have bi:Hid (rest'.length<=k'):=zA (by have:=bC.out;rw[yI]at this;omega);clear bH bb bD aK aG aP aS bq hr a1 bU co bY a0 bp aj hg bX;go_wp2_with fail;go_loopw [56] (fun kk wr=>∃(j:Nat) (aA:Value) (l':List Sx) (X':Nat->Prop),j<=nv/\kk=.int .i64 j/\Hid (FI F wr jb (J.with aA) ds n m lks ls us l' X' C (.slice (some ⟨gc,bR,none⟩) nc cc) c (.slice ra nr rc) ag (fl++(VL.take j).flatMap g))/\Hid (∀k,X' k->X k\/w.heap.size<=k)/\Hid (FFr w wr l l' (FM jb X (.slice ra nr rc)))/\Hid (Fr C w1 wr)) (fun kk _=>nv-(intOf kk).toNat)
   case atStart=>exact⟨0,J.fv,l1,X,zO _,rfl,zA (by rw[List.take_zero,List.flatMap_nil,List.append_nil];exact aL.out),zA (fun k hk=>.inl hk),bF,zA (Fr.refl _ _)⟩
   case round=>
    obtain⟨j,aA,l',X',hj,rfl,ak,HX,a3,bO⟩:=hrel;obtain⟨wx,b0⟩:=eX wr;subst b0;by_cases hjl:j<nv
    . have cn:(j:Int)<(nv:Int):=by omega
      obtain⟨v,hv⟩:∃v,VL[j]?=some v:=⟨_,zB (by rw[<- aJ.out];exact hjl)⟩
      obtain⟨gb,ofb,cg,_,_,ay⟩:=(ci.out.1.fr bO.out).get hv;subst cg;have c0:=ay 0 _ rfl;rw[yC,yA]at c0;have bm:=ak.out.jz.js;have aW:=ak.out.cl;rw[<- aW]at bm;have br:=jeh bm ak.out.ch (fun k hk=>⟨(ak.out.cm k hk).1,(ak.out.cm k hk).2.1⟩) (by rw[aW];exact bu.out) (cd.out v (zC hv)) ak.out.ac;rw[aW]at br;have CK:=zA br;have bE:Hid ((VL.take (j+1)).flatMap g=(VL.take j).flatMap g++g v):=zA (by rw[zS,hv,yQ,zP,List.flatMap_singleton]);have bf:=zA aW;have aQ:Hid (∃aD,VL.flatMap g=(VL.take (j+1)).flatMap g++aD):=zA ⟨(VL.drop (j+1)).flatMap g,by rw[<- zP,List.take_append_drop]⟩;clear ay bm aW br hv;go_wp2_with fail;refine CK.out.mono ?_;rintro e w3 ⟨v3,rfl,bQ⟩;obtain⟨l3,C3,d1,d2,d3,d4⟩:=ak.out.down bQ;have D1:=zA d1;have D2:=zA d2;have D3:=zA d3;have D4:=zA d4;obtain⟨w4,a7⟩:=eX (w3.alloc (.cells #[.int .i64 (v:Int)] 3));have bt:Below w3.heap.size w3 w4:=by rw[a7];exact(zF _ _).alloc (zD _) _
      have bS:w4.cell? ⟨w3.heap.size,0,none⟩=some (.int .i64 (v:Int)):=by
       have h1:w4.heap[w3.heap.size]?=some (.cells #[.int .i64 (v:Int)] 3 (0,0)):=by rw[a7];exact heap_alloc_new _ _
       simp[World.cell?,h1]
      have cq:=zA bS;have aI:=zA bt;have ce:Hid (QRow 0 w4 (.slice ra nr rc) ag):=zA (d1.row.keep (fun g _ hg=>bt.block g (d1.row.lt hg).2));have ct:Hid (w3.alloc (.cells #[.int .i64 (v:Int)] 3)=w4):=zA a7.symm;have bA:ag.length<=1000000000:=by rw[<- aw.out];omega
      clear bQ d1 d2 d3 d4 bS bt a7 CK c0;go_wp2_with (at_builtin;rw[ct.out];refine jck rfl _ _ rfl (by rfl) ce.out bA ⟨w3.heap.size,0,none⟩ 1 v (by rfl) cq.out (zO _) ?_);intro u9 w9 q1 bM bW q3 q4 q5 q6 q7 q8;have bI:∀k,k<w3.heap.size->¬QB (.slice ra nr rc) k->w9.heap[k]?=w3.heap[k]?:=fun k hk hq=>(q6 k (zQ hk aI.out.size) hq).trans (aI.out.block k hk)
      have aH:∀k,QB u9 k->QB (.slice ra nr rc) k\/(w3.heap.size<=k/\k<w9.heap.size):=fun k hk=>(q7 k hk).imp id (fun h1=>⟨zT aI.out.size h1.1,h1.2⟩)
      obtain⟨e1,e2⟩:=D1.out.app (C':=C3) (v3:=v3) (rv4:=u9) (c':=jas ls c u v) (w4:=w9) (x:=v) D2.out D3.out (jdb _ _) (by rw[je3];exact bf.out) q1 (zT aI.out.size bW) (q3.trans aI.out.os) (q4.trans aI.out.tape) (q5.trans aI.out.output) bI aH;have E1:=zA e1;have E2:Hid (FFr wx w9 l' l3 (QB (.slice ra nr rc))):=zA (D4.out.mono (fun _ h=>h.elim) |>.trans e2 (fun k hk=>.inl hk));have E3:Hid (∀fl5 w5,FO F w9 jb (J.with aA) ds n m lks ls us l3 X' u9 (ag++[v]) fl5 w5->FO F wx jb (J.with aA) ds n m lks ls us l' X' (.slice ra nr rc) ag fl5 w5):=zA (fun fl5 w5 h5=>ak.out.lift E2.out bM (fun k hk=>(aH k hk).imp id (fun h1=>zT D4.out.size h1.1)) q8 h5);have CF:=HP.out w9 (J.with aA) l3 X' C3 v3 (jas ls c u v) u9 (ag++[v]) (fl++(VL.take j).flatMap g) (b7++[u]) rest' (by rw[al.out];simp) (by rw[zG,zG,aX.out];rfl) bi.out e1;rw[show jbF ls m rest' (jas ls c u v) (ag++[v])=g v by rw[HG.out]]at CF;have CF:=zA CF;obtain⟨u9a,u9c,bV⟩:=q1.slice;obtain⟨n9,bJ⟩:=eX ((ag++[v]).length);rw[<- bJ]at bV;subst bV;clear bJ;clear q1 bM bW q3 q4 q5 q6 q7 q8 bI aH e1 e2;go_wp2_with fail;refine CF.out.mono ?_;rintro e w5 ⟨rfl,h5⟩;rw[List.append_assoc,<- bE.out];have H5:Hid (FO F wx jb (J.with aA) ds n m lks ls us l' X' (.slice ra nr rc) ag ((fl++(VL.take (j+1)).flatMap g).take 4097) w5):=zA (by
       have:=E3.out _ _ h5;rw[List.append_assoc,<- bE.out]at this;exact this)
      have cf:=zA (FO.from_ a3.out HX.out H5.out);clear h5 CF;by_cases hle:(fl++(VL.take (j+1)).flatMap g).length<=4096
      . rw[zU hle];have h6:=H5.out;rw[take_fit (Nat.le_succ_of_le hle)]at h6;obtain⟨bG,l6,X6,n1,n2,n3⟩:=ak.out.next h6 hle
        have N1:Hid (FI F w5 jb (J.with bG) ds n m lks ls us l6 X6 C (.slice (some ⟨gc,bR,none⟩) nc cc) c (.slice ra nr rc) ag (fl++(VL.take (j+1)).flatMap g)):=zA n1;have N2:Hid (∀k,X6 k->X k\/w.heap.size<=k):=zA (fun k hk=>by
         rcases n2 k hk with h1|h1
         . exact HX.out k h1
         . have:=a3.out.size;exact .inr (by omega))
        have N3:Hid (FFr w w5 l l6 (FM jb X (.slice ra nr rc))):=zA (a3.out.trans n3 (fun k hk=>by
         rcases hk with hk|hk|hk
         . exact .inl (.inl hk)
         . exact(HX.out k hk).imp (fun h1=>.inr (.inl h1)) id
         . exact .inl (.inr (.inr hk))))
        have N4:Hid (Fr C w1 w5):=zA (bO.out.trans ⟨n3.os,n3.tape,n3.output,n3.size,fun k hk=>by
         obtain⟨b1,b2,b3,b4,b5⟩:=ak.out.cm k hk;refine n3.keep k b1 b2 (fun hm=>?_);rcases hm with hm|hm|hm
         . exact b3 hm
         . exact b4 hm
         . exact b5 hm⟩)
        clear h6 n1 n2 n3 hle;go_wp2;go_roundw
        case rel=>exact⟨j+1,bG,l6,X6,by omega,by go_num,N1,N2,N3,N4⟩
        case measure=>simp[intOf];omega
      . rw[decide_eq_false hle];have HE:=zA (HQ.out w5 false (by
         obtain⟨aD,an⟩:=aQ.out;rw[aF.out,an,<- List.append_assoc,zG];exact(decide_eq_false (by omega)).symm) (by
         obtain⟨aD,an⟩:=aQ.out;rw[aF.out,an,<- List.append_assoc,List.take_append_of_le_length (by omega)];exact cf.out))
        clear hle;go_wp2;all_goals (first|(go_ret;exact HE.out)|exact HE.out)
    . have cn:¬(j:Int)<(nv:Int):=by omega
      have aY:VL.take j=VL:=zJ (by rw[<- aJ.out];omega);have HE:=zA (HQ.out wx true (by
       rw[aF.out,<- aY];exact(zU ak.out.fle).symm) (by
       rw[aF.out,take_fit (by have:=ak.out.fle;rw[aY]at this;omega)];have hI:=ak.out;rw[aY]at hI;exact FO.from_ (fv:=aA) a3.out HX.out ⟨aA,l',X',hI.jz,hI.xm,hI.fo,hI.row,fun k hk=>.inl hk,FFr.refl _ _ _⟩))
      clear aY;go_wp2;all_goals (first|(go_ret;exact HE.out)|exact HE.out)
theorem fillJ_any{F:Nat->Prop}{jb:Nat}{ds:List Sy}{n m:Nat}{lks:List Lm}{ls:List Lk}{us:List Nat}(hus:us≠[])(hum:∀u∈us,u<m):∀k,jlG k F jb ds n m lks ls us
 |0=>fillJ_step hus hum (fun k' e=>by omega)
 |k+1=>fillJ_step hus hum (fun k' e=>by
  obtain rfl:k=k':=by omega
  exact fillJ_any hus hum k)
end Go.Proofs.YtkbgmcmcpbegjaaGreatDoor
