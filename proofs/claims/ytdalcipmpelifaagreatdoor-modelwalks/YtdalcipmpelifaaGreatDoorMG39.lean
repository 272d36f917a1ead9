/- XFill2. -/
import Derived.Test.YtdalcipmpelifaaGreatDoorMG38
set_option maxRecDepth 100000
namespace Go.Proofs.YtdalcipmpelifaaGreatDoor
open Go.RowKit Go.Shelf
theorem infoRF:(Tryz.prog.info? 56).map (fun i=>(i.zero,i.size,i.bytes))=some (some (.slice none 0 0),1,24):=by kernel_rfl
theorem fill_nil{ls:List Lk}{n:Nat}{us:List Nat}{c:Ch}{row:List Nat}(h:locB ls c (List.range n)=false):fillL ls n us c row=[]:=by
 cases us<;>(unfold fillL;rw[h];rfl)
theorem take_fit{α:Type}{l:List α}{k:Nat}(h:l.length<=k):l.take k=l:=zK h
set_option maxHeartbeats 32000000 in
theorem fillJ_step{k:Nat}{F:Nat->Prop}{jb:Nat}{ds:List Sy}{n m:Nat}{lks:List Lm}{ls:List Lk}{us:List Nat}(hus:us≠[])(hum:∀u∈us,u<m)(H:∀k',k=k'+1->FillP k' F jb ds n m lks ls us):FillP k F jb ds n m lks ls us:=by
 intro w J l X C cv c rv row fl us0 rest husr hrl hrk h;obtain⟨i0,hi0,hz0,hz1,hz2⟩:=info_partsG infoRF;have C0:=zA h.ask;obtain⟨j0,j1,j2,j3,j4,j5,j6⟩:=h.jz.cell;have HUM:=zA hum;obtain⟨ra,rc,hrv⟩:=h.row.slice;obtain⟨nr,hnr⟩:∃q,q=row.length:=⟨_,rfl⟩
 rw[<- hnr]at hrv;obtain⟨va,vc,hvv,_⟩:=h.jz.va.2;obtain⟨nu,hnu⟩:∃q,q=us.length:=⟨_,rfl⟩
 rw[<- hnu]at hvv;have hnul:nu<=1000:=by rw[hnu];exact h.jz.ul
 have hnrl:nr<=nu:=by rw[hnu,husr,zG,hnr,hrl];omega
 have HCELL:Hid (∀(W:World) (Jx:Jv) (lx:List Sx),Jz F W jb Jx ds n m lks ls us lx->Jx.vv=J.vv->W.cell? ⟨jb,2,none⟩=some (.slice va nu vc)):=zA (fun W Jx lx hJ e=>by rw[hJ.cell.2.1,e,hvv]);obtain⟨Q,hQ⟩:∃Q,Q=FilE F w jb J ds n m lks ls us l X rv row fl (fillL ls m rest c row):=⟨_,rfl⟩
 rw[<- hQ];have HQ:Hid (∀w' b,b=decide ((fl++fillL ls m rest c row).length<=4096)->FO F w jb J ds n m lks ls us l X rv row ((fl++fillL ls m rest c row).take 4097) w'->Q (.returned (.bool b)) w'):=zA (fun w' b hb ho=>by rw[hQ,hb];exact⟨rfl,ho⟩);have HFL:Hid (fl.length<=4096):=zA h.fle;have HH:=zA H;have HI:=zA h;have HUSR:=zA husr;have HRL:=zA hrl;have HRK:=zA hrk;have HNR:=zA hnr;have HNU:=zA hnu;have HVV:=zA hvv;have HRV:=zA hrv;have HUS:=zA hus;clear H h hQ husr hrl hrk hnr hnu hvv hum hus j1 j2 j3 j4 j5 j6;subst hrv;go_enter Tryz.func54,Tryz.ntmps54;go_wp2_with fail;refine C0.out.mono ?_;rintro e w1 ⟨rfl,hf1,l1,hj1⟩;have HI1:=zA (HI.out.call hf1 hj1 (fun k hk hu=>⟨hk,hu⟩));have HN1:=zA (HI.out.nothing hf1 hj1 (fun k hk hu=>⟨hk,hu⟩));have HF1:Hid (FFr w w1 l l1 (FM jb X (.slice ra nr rc))):=zA (FFr.call hf1 hj1 (fun k hk hu=>⟨hk,hu⟩));clear hf1 hj1 j0 C0;obtain⟨t,ht⟩:∃t,t=locB ls c (List.range m):=⟨_,rfl⟩
 have HT:=zA ht;rw[<- ht];clear ht;cases t with
 |false=>
  have HE:=zA (HQ.out w1 true (by
   rw[fill_nil HT.out.symm,List.append_nil];exact(yC HFL.out).symm) (by
   rw[fill_nil HT.out.symm,List.append_nil,take_fit (Nat.le_succ_of_le HFL.out)];exact HN1.out))
  go_wp2;all_goals (first|(go_ret;exact HE.out)|exact HE.out)
 |true=>
  have q2:=HCELL.out w1 J l1 HI1.out.jz rfl;cases rest with
  |nil=>
   have hnn:nr=nu:=by rw[HNR.out,HNU.out,HRL.out,HUSR.out,List.append_nil]
   have HFA:Hid (fillL ls m [] c row=[row]):=zA (by unfold fillL;rw[<- HT.out];rfl);have HID:=zA HI1.out.drew;have HFD:=zA HF1.out.drew;obtain⟨rows,hrc,hfo,hfx,hats⟩:=HID.out.fo;obtain⟨fa,fc,hfv⟩:=own_slice hfo;obtain⟨nf,hnf⟩:∃q,q=rows.length:=⟨_,rfl⟩
   rw[<- hnf]at hfv hfo;have hnfl:nf<=4096:=by
    have h1:=HFL.out;rw[<- hrc,zH,<- hnf]at h1;exact h1
   have HNF:Hid (fl.length=nf):=zA (by rw[<- hrc,zH,hnf]);have HFV:=zA hfv;have HFB:Hid (∀W:World,W.heap[jb]?=some (.cells J.cells 114 (0,0))->W.cell? ⟨jb,6,none⟩=some (.slice fa nf fc)/\W.frozen? ⟨jb,6,none⟩=false):=zA (fun W hW=>by simp[World.cell?,World.frozen?,hW,Jv.cells,hfv]);have HF6:Hid (∀W,Below w1.drew.heap.size w1.drew W->W.cell? ⟨jb,6,none⟩=some (.slice fa nf fc)):=zA (fun W hW=>(HFB.out W ((hW.block jb HID.out.jz.lt).trans HID.out.jz.blk)).1);have f1d:=HF6.out w1.drew (zF _ _);have f1:w1.cell? ⟨jb,6,none⟩=some (.slice fa nf fc):=f1d;have hrne:row≠[]:=fun e=>by
    have h1:=HNR.out;rw[e]at h1;have h2:=HNU.out;exact HUS.out (yG.1 (by rw[<- h2,<- hnn,h1];rfl))
   have C98:=cloneI_any HID.out.row.natC.1 hrne (by rw[<- HNR.out];omega);rw[<- HNR.out]at C98;have C98:=zA C98;have HLEAF:Hid (∀(w2:World) (nv:Value),w2.ownsRow w1.drew.heap.size 3 1 nv nr (row.flatMap csI)->Below w1.drew.heap.size w1.drew w2->Hid ((w2.alloc (.cells #[nv] 56)).cell? ⟨jb,6,none⟩=some (.slice fa nf fc)/\(w2.alloc (.cells #[nv] 56)).ownsRow 0 56 1 (.slice fa nf fc) nf (rows.flatMap csRow)/\(∀j u,[nv][j]?=some u->(w2.alloc (.cells #[nv] 56)).cell? ((⟨w2.heap.size,0,none⟩:Addr).add j)=some u)/\
    Hid (∀gg cap9 w9,w9.ownsRow 0 56 1 (.slice (some ⟨gg,0,none⟩) (nf+1) cap9) (nf+1) (rows.flatMap csRow++[nv])->(w2.alloc (.cells #[nv] 56)).grownBy w9 (Value.slice fa nf fc).ownBlock->((Value.slice fa nf fc).ownBlock=some gg\/gg=w2.heap.size+1)->
     w9.cell? ⟨jb,6,none⟩=some (.slice fa nf fc)/\w9.frozen? ⟨jb,6,none⟩=false/\Hid ((w9.setCell ⟨jb,6,none⟩ (.slice (some ⟨gg,0,none⟩) (nf+1) cap9)).cell? ⟨jb,6,none⟩=some (.slice (some ⟨gg,0,none⟩) (nf+1) cap9)/\Q (.returned (.bool (decide ((nf:Int)+1<=4096)))) (w9.setCell ⟨jb,6,none⟩ (.slice (some ⟨gg,0,none⟩) (nf+1) cap9)))))):=zA (fun w2 nv hnv hb2=>zA (by
    have hb3:Below w1.drew.heap.size w1.drew (w2.alloc (.cells #[nv] 56)):=hb2.alloc hb2.size _;have hjb3:(w2.alloc (.cells #[nv] 56)).heap[jb]?=some (.cells J.cells 114 (0,0)):=(hb3.block jb HID.out.jz.lt).trans HID.out.jz.blk;have hfo3:(w2.alloc (.cells #[nv] 56)).ownsRow 0 56 1 (.slice fa nf fc) nf (rows.flatMap csRow):=by
     rw[<- hfv];exact owns_below hfo hb3
    have hfx3:∀g,(Value.slice fa nf fc).ownBlock=some g->X g:=by rw[<- hfv];exact hfx
    refine⟨(HFB.out _ hjb3).1,hfo3,World.news_of_block (cs:=#[nv]) (heap_alloc_new w2 _),zA (fun gg cap9 w9 hown9 hgrow9 hat9=>?_)⟩;have hjx:(Value.slice fa nf fc).ownBlock≠some jb:=fun e=>(HID.out.xm jb (hfx3 jb e)).2.2.2.1 rfl
    have hjb9:w9.heap[jb]?=some (.cells J.cells 114 (0,0)):=(hgrow9.block jb (zO HID.out.jz.lt hb3.size) (fun e=>hjx e.symm)).trans hjb3;refine⟨(HFB.out w9 hjb9).1,(HFB.out w9 hjb9).2,zA ⟨by simp[World.cell?,World.setCell,Array.getElem?_modify,hjb9,Jv.cells],?_⟩⟩;refine HQ.out _ _ ?_ ?_
    . rw[HFA.out,zG,HNF.out];exact decide_eq_decide.2 (by simp only[List.length_singleton];omega)
    . rw[HFA.out,take_fit (by rw[zG,HNF.out];simp only[List.length_singleton];omega)];have hl:=HID.out.leaf (wz:=w2.alloc (.cells #[nv] 56)) (w9:=w9) (nv:=nv) (fv9:=.slice (some ⟨gg,0,none⟩) (nf+1) cap9) hrc hfx hats hb3 ((own_natC (by rw[<- HNR.out];exact hnv)).below ((zF _ _).alloc (zD _) _)) (fun k hk=>by
       have:=hnv.lt k hk;exact⟨this.1,by simp;omega⟩) hgrow9.os hgrow9.tape hgrow9.output hgrow9.size (fun k hk hne=>hgrow9.block k hk (fun e=>hne (by rw[hfv];exact e.symm))) (by rw[<- hnf];exact hown9) (fun g hg=>by
       have hg:gg=g:=by simpa[Value.ownBlock]using hg
       subst hg;rcases hat9 with h1|h1
       . exact .inl (by rw[hfv];exact h1)
       . exact .inr (by simp;omega))
      exact FO.from_ (fv:=J.fv) HFD.out (fun k hk=>.inl hk) hl))
   clear hrc hfo hfx hats hfv hnf;subst hnn;go_wp2_with fail;refine wp_region_held_drew (S:=fun u=>True) (by kernel_rfl) ?_ (fun hHeld=>?_)
   . exact trivial
   refine tkH (i:=0) (oi:=⟨some 26,.move (.tmp 0),78, "join.go:120",#[],none⟩) (v:=?_) rfl ?_ hHeld ?_;rotate_left 1
   . intro W hSw;obtain _:=hSw;go_simp;try with_reducible rfl
   simp only[Act.put,zIB,zSZ,zSS];refine tkH (i:=1) (oi:=⟨some 27,.move (.tmp 0),78, "join.go:120",#[],none⟩) (v:=?_) rfl ?_ hHeld ?_;rotate_left 1
   . intro W hSw;obtain _:=hSw;go_simp;try with_reducible rfl
   simp only[Act.put,zIB,zSZ,zSS];refine tkH (i:=2) (oi:=⟨some 28,.nilCheck (.tmp 27),0, "join.go:120",#[⟨1,.data⟩],none⟩) (v:=?_) rfl ?_ hHeld ?_;rotate_left 1
   . intro W hSw;obtain _:=hSw;go_simp;try with_reducible rfl
   simp only[Act.put,zIB,zSZ,zSS];refine tkH (i:=3) (oi:=⟨some 29,.fieldAddr 114 (.tmp 28) 6,0, "join.go:120",#[⟨2,.data⟩],none⟩) (v:=?_) rfl ?_ hHeld ?_;rotate_left 1
   . intro W hSw;obtain _:=hSw;go_simp;try with_reducible rfl
   simp only[Act.put,zIB,zSZ,zSS];refine tkH (i:=5) (oi:=⟨some 31,.move (.tmp 2),56, "join.go:120",#[],none⟩) (v:=?_) rfl ?_ hHeld ?_;rotate_left 1
   . intro W hSw;obtain _:=hSw;go_simp;try with_reducible rfl
   simp only[Act.put,zIB,zSZ,zSS];refine wpAnyH_ready (rs:=[4,6]) (by kernel_rfl) (by simp) ?_;refine(AllReadyH.cons (o:=⟨some 30,.load 57 (.tmp 29),57, "join.go:120",#[⟨3,.data⟩],none⟩) rfl (fun K hK=>?_) (AllReadyH.cons (o:=⟨some 32,.call { callee:=.value (.func 72),args:=#[.tmp 31],argTypes:=#[56] },56, "join.go:120",#[⟨5,.data⟩],none⟩) rfl (fun K hK=>?_) AllReadyH.nil))
   . go_simp;refine hK.out _ _ trivial (fun hHeld=>?_);clear hK K;refine wpAnyH_ready (rs:=[6]) (by kernel_rfl) (by simp) ?_;refine(AllReadyH.cons (o:=⟨some 32,.call { callee:=.value (.func 72),args:=#[.tmp 31],argTypes:=#[56] },56, "join.go:120",#[⟨5,.data⟩],none⟩) rfl (fun K hK=>?_) AllReadyH.nil);go_simp;refine C98.out.mono ?_;rintro e w2 ⟨nv,rfl,hnv,hb2⟩;obtain⟨na,nc,hnve⟩:=own_slice hnv;subst hnve;have HNV:=zA (HLEAF.out w2 _ hnv hb2);have f2:=HF6.out w2 hb2;clear hnv hb2;refine hK.out _ _ trivial (fun hHeld=>?_);clear hK K;refine wpAnyH_ready (rs:=[7]) (by kernel_rfl) (by simp) ?_;refine(AllReadyH.cons (o:=⟨some 33,.buildSlice 57 1 #[(0,.tmp 32)],57, "join.go:120",#[⟨6,.data⟩],none⟩) rfl (fun K hK=>?_) AllReadyH.nil);go_simp;refine hK.out _ _ trivial (fun hHeld=>?_);clear hK K;obtain⟨f3,hown3,hnews3,HL3⟩:=HNV.out;refine wpAnyH_ready (rs:=[8]) (by kernel_rfl) (by simp) ?_;refine(AllReadyH.cons (o:=⟨some 34,.call { callee:=.builtin .append,args:=#[.tmp 30,.tmp 33],argTypes:=#[57,57] },57, "join.go:120",#[⟨4,.data⟩,⟨7,.data⟩,⟨6,.chain⟩],none⟩) rfl (fun K hK=>?_) AllReadyH.nil);refine step_append_lies _ (by rfl) _ _ _ (by rfl) 0 56 i0 _ 1 24 Tryz.underlying57 hi0 hz0 hz1 hz2 rfl (by decide) (.slice fa nf fc) _ _ (by rfl) hown3 ⟨w2.heap.size,0,none⟩ 1 1 [.slice na nr nc] (by rfl) (by rfl) hnews3 (by simp[Value.oneCell']) (by decide) (by unfold maxLen;omega) (by omega) (zS _) (w2.heap.size+1) (by simp) ?_;intro gg cap9 w9 hown9 hgrow9 hat9 hlt9;obtain⟨c9,z9,HFO⟩:=HL3.out gg cap9 w9 hown9 hgrow9 hat9;refine hK.out _ _ trivial (fun hHeld=>?_);clear hK K hown9 hgrow9 hat9 hlt9 hown3 hnews3;refine tkH (i:=9) (oi:=⟨some 35,.nilCheck (.tmp 26),0, "join.go:120",#[⟨0,.data⟩,⟨0,.phase⟩,⟨1,.phase⟩,⟨2,.phase⟩,⟨3,.phase⟩,⟨4,.phase⟩,⟨5,.phase⟩,⟨6,.phase⟩,⟨7,.phase⟩,⟨8,.phase⟩],none⟩) (v:=?_) rfl ?_ hHeld ?_;rotate_left 1
     . intro W hSw;obtain _:=hSw;go_simp;try with_reducible rfl
     simp only[Act.put,zIB,zSZ,zSS];refine tkH (i:=10) (oi:=⟨some 36,.fieldAddr 114 (.tmp 35) 6,0, "join.go:120",#[⟨9,.data⟩,⟨0,.phase⟩,⟨1,.phase⟩,⟨2,.phase⟩,⟨3,.phase⟩,⟨4,.phase⟩,⟨5,.phase⟩,⟨6,.phase⟩,⟨7,.phase⟩,⟨8,.phase⟩],none⟩) (v:=?_) rfl ?_ hHeld ?_;rotate_left 1
     . intro W hSw;obtain _:=hSw;go_simp;try with_reducible rfl
     simp only[Act.put,zIB,zSZ,zSS];refine wpAnyH_ready (rs:=[11]) (by kernel_rfl) (by simp) ?_;refine(AllReadyH.cons (o:=⟨none,.store 57 (.tmp 36) (.tmp 34),0, "join.go:120",#[⟨10,.data⟩,⟨8,.data⟩,⟨8,.chain⟩,⟨0,.phase⟩,⟨1,.phase⟩,⟨2,.phase⟩,⟨3,.phase⟩,⟨4,.phase⟩,⟨5,.phase⟩,⟨6,.phase⟩,⟨7,.phase⟩,⟨8,.phase⟩],none⟩) rfl (fun K hK=>?_) AllReadyH.nil);go_simp;refine hK.out _ _ trivial (fun hHeld=>?_);clear hK K c9 z9;refine wpAnyH_done (by kernel_rfl) ?_ _;have c6:=HFO.out.1;go_wp2;all_goals (first|(go_ret;exact HFO.out.2)|exact HFO.out.2)
   . go_simp;refine C98.out.mono ?_;rintro e w2 ⟨nv,rfl,hnv,hb2⟩;obtain⟨na,nc,hnve⟩:=own_slice hnv;subst hnve;have HNV:=zA (HLEAF.out w2 _ hnv hb2);have f2:=HF6.out w2 hb2;clear hnv hb2;refine hK.out _ _ trivial (fun hHeld=>?_);clear hK K;refine wpAnyH_ready (rs:=[4,7]) (by kernel_rfl) (by simp) ?_;refine(AllReadyH.cons (o:=⟨some 30,.load 57 (.tmp 29),57, "join.go:120",#[⟨3,.data⟩],none⟩) rfl (fun K hK=>?_) (AllReadyH.cons (o:=⟨some 33,.buildSlice 57 1 #[(0,.tmp 32)],57, "join.go:120",#[⟨6,.data⟩],none⟩) rfl (fun K hK=>?_) AllReadyH.nil))
     . go_simp;refine hK.out _ _ trivial (fun hHeld=>?_);clear hK K;refine wpAnyH_ready (rs:=[7]) (by kernel_rfl) (by simp) ?_;refine(AllReadyH.cons (o:=⟨some 33,.buildSlice 57 1 #[(0,.tmp 32)],57, "join.go:120",#[⟨6,.data⟩],none⟩) rfl (fun K hK=>?_) AllReadyH.nil);go_simp;refine hK.out _ _ trivial (fun hHeld=>?_);clear hK K;obtain⟨f3,hown3,hnews3,HL3⟩:=HNV.out;refine wpAnyH_ready (rs:=[8]) (by kernel_rfl) (by simp) ?_;refine(AllReadyH.cons (o:=⟨some 34,.call { callee:=.builtin .append,args:=#[.tmp 30,.tmp 33],argTypes:=#[57,57] },57, "join.go:120",#[⟨4,.data⟩,⟨7,.data⟩,⟨6,.chain⟩],none⟩) rfl (fun K hK=>?_) AllReadyH.nil);refine step_append_lies _ (by rfl) _ _ _ (by rfl) 0 56 i0 _ 1 24 Tryz.underlying57 hi0 hz0 hz1 hz2 rfl (by decide) (.slice fa nf fc) _ _ (by rfl) hown3 ⟨w2.heap.size,0,none⟩ 1 1 [.slice na nr nc] (by rfl) (by rfl) hnews3 (by simp[Value.oneCell']) (by decide) (by unfold maxLen;omega) (by omega) (zS _) (w2.heap.size+1) (by simp) ?_;intro gg cap9 w9 hown9 hgrow9 hat9 hlt9;obtain⟨c9,z9,HFO⟩:=HL3.out gg cap9 w9 hown9 hgrow9 hat9;refine hK.out _ _ trivial (fun hHeld=>?_);clear hK K hown9 hgrow9 hat9 hlt9 hown3 hnews3;refine tkH (i:=9) (oi:=⟨some 35,.nilCheck (.tmp 26),0, "join.go:120",#[⟨0,.data⟩,⟨0,.phase⟩,⟨1,.phase⟩,⟨2,.phase⟩,⟨3,.phase⟩,⟨4,.phase⟩,⟨5,.phase⟩,⟨6,.phase⟩,⟨7,.phase⟩,⟨8,.phase⟩],none⟩) (v:=?_) rfl ?_ hHeld ?_;rotate_left 1
       . intro W hSw;obtain _:=hSw;go_simp;try with_reducible rfl
       simp only[Act.put,zIB,zSZ,zSS];refine tkH (i:=10) (oi:=⟨some 36,.fieldAddr 114 (.tmp 35) 6,0, "join.go:120",#[⟨9,.data⟩,⟨0,.phase⟩,⟨1,.phase⟩,⟨2,.phase⟩,⟨3,.phase⟩,⟨4,.phase⟩,⟨5,.phase⟩,⟨6,.phase⟩,⟨7,.phase⟩,⟨8,.phase⟩],none⟩) (v:=?_) rfl ?_ hHeld ?_;rotate_left 1
       . intro W hSw;obtain _:=hSw;go_simp;try with_reducible rfl
       simp only[Act.put,zIB,zSZ,zSS];refine wpAnyH_ready (rs:=[11]) (by kernel_rfl) (by simp) ?_;refine(AllReadyH.cons (o:=⟨none,.store 57 (.tmp 36) (.tmp 34),0, "join.go:120",#[⟨10,.data⟩,⟨8,.data⟩,⟨8,.chain⟩,⟨0,.phase⟩,⟨1,.phase⟩,⟨2,.phase⟩,⟨3,.phase⟩,⟨4,.phase⟩,⟨5,.phase⟩,⟨6,.phase⟩,⟨7,.phase⟩,⟨8,.phase⟩],none⟩) rfl (fun K hK=>?_) AllReadyH.nil);go_simp;refine hK.out _ _ trivial (fun hHeld=>?_);clear hK K c9 z9;refine wpAnyH_done (by kernel_rfl) ?_ _;have c6:=HFO.out.1;go_wp2;all_goals (first|(go_ret;exact HFO.out.2)|exact HFO.out.2)
     . go_simp;refine hK.out _ _ trivial (fun hHeld=>?_);clear hK K;obtain⟨f3,hown3,hnews3,HL3⟩:=HNV.out;refine wpAnyH_ready (rs:=[4]) (by kernel_rfl) (by simp) ?_;refine(AllReadyH.cons (o:=⟨some 30,.load 57 (.tmp 29),57, "join.go:120",#[⟨3,.data⟩],none⟩) rfl (fun K hK=>?_) AllReadyH.nil);go_simp;refine hK.out _ _ trivial (fun hHeld=>?_);clear hK K;refine wpAnyH_ready (rs:=[8]) (by kernel_rfl) (by simp) ?_;refine(AllReadyH.cons (o:=⟨some 34,.call { callee:=.builtin .append,args:=#[.tmp 30,.tmp 33],argTypes:=#[57,57] },57, "join.go:120",#[⟨4,.data⟩,⟨7,.data⟩,⟨6,.chain⟩],none⟩) rfl (fun K hK=>?_) AllReadyH.nil);refine step_append_lies _ (by rfl) _ _ _ (by rfl) 0 56 i0 _ 1 24 Tryz.underlying57 hi0 hz0 hz1 hz2 rfl (by decide) (.slice fa nf fc) _ _ (by rfl) hown3 ⟨w2.heap.size,0,none⟩ 1 1 [.slice na nr nc] (by rfl) (by rfl) hnews3 (by simp[Value.oneCell']) (by decide) (by unfold maxLen;omega) (by omega) (zS _) (w2.heap.size+1) (by simp) ?_;intro gg cap9 w9 hown9 hgrow9 hat9 hlt9;obtain⟨c9,z9,HFO⟩:=HL3.out gg cap9 w9 hown9 hgrow9 hat9;refine hK.out _ _ trivial (fun hHeld=>?_);clear hK K hown9 hgrow9 hat9 hlt9 hown3 hnews3;refine tkH (i:=9) (oi:=⟨some 35,.nilCheck (.tmp 26),0, "join.go:120",#[⟨0,.data⟩,⟨0,.phase⟩,⟨1,.phase⟩,⟨2,.phase⟩,⟨3,.phase⟩,⟨4,.phase⟩,⟨5,.phase⟩,⟨6,.phase⟩,⟨7,.phase⟩,⟨8,.phase⟩],none⟩) (v:=?_) rfl ?_ hHeld ?_;rotate_left 1
       . intro W hSw;obtain _:=hSw;go_simp;try with_reducible rfl
       simp only[Act.put,zIB,zSZ,zSS];refine tkH (i:=10) (oi:=⟨some 36,.fieldAddr 114 (.tmp 35) 6,0, "join.go:120",#[⟨9,.data⟩,⟨0,.phase⟩,⟨1,.phase⟩,⟨2,.phase⟩,⟨3,.phase⟩,⟨4,.phase⟩,⟨5,.phase⟩,⟨6,.phase⟩,⟨7,.phase⟩,⟨8,.phase⟩],none⟩) (v:=?_) rfl ?_ hHeld ?_;rotate_left 1
       . intro W hSw;obtain _:=hSw;go_simp;try with_reducible rfl
       simp only[Act.put,zIB,zSZ,zSS];refine wpAnyH_ready (rs:=[11]) (by kernel_rfl) (by simp) ?_;refine(AllReadyH.cons (o:=⟨none,.store 57 (.tmp 36) (.tmp 34),0, "join.go:120",#[⟨10,.data⟩,⟨8,.data⟩,⟨8,.chain⟩,⟨0,.phase⟩,⟨1,.phase⟩,⟨2,.phase⟩,⟨3,.phase⟩,⟨4,.phase⟩,⟨5,.phase⟩,⟨6,.phase⟩,⟨7,.phase⟩,⟨8,.phase⟩],none⟩) rfl (fun K hK=>?_) AllReadyH.nil);go_simp;refine hK.out _ _ trivial (fun hHeld=>?_);clear hK K c9 z9;refine wpAnyH_done (by kernel_rfl) ?_ _;have c6:=HFO.out.1;go_wp2;all_goals (first|(go_ret;exact HFO.out.2)|exact HFO.out.2)
  |cons u rest'=>
   have hlt:nr<nu:=by rw[HNR.out,HNU.out,HRL.out,HUSR.out,zG,yE];omega
   have hne:¬(nr:Int)=(nu:Int):=by omega
   have hneB:((nr:Int)==(nu:Int))=false:=by simp;omega
   have hltI:(nr:Int)<(nu:Int):=by omega
   have hum:u<m:=HUM.out u (by rw[HUSR.out];simp);have hvg:us[nr]?=some u:=by rw[HUSR.out,HNR.out,HRL.out,yM (zD _)];simp
   have hva:=HI1.out.jz.va.1;rw[HVV.out]at hva;obtain⟨gv,ofv,hvae,_,_,hvc⟩:=hva.get hvg;subst hvae;have cv0:=hvc 0 _ rfl;rw[yK,yF]at cv0;obtain⟨crows,hcrc,hcsl,hcat,hcbd⟩:=HI1.out.ch.ex;have hcrl:crows.length=m:=by rw[<- HI1.out.cl,<- hcrc,zH]
   obtain⟨r,hr⟩:∃r,crows[u]?=some r:=⟨_,zB (by omega)⟩
   have hcs:atC c u=r.2:=by unfold atC;rw[<- hcrc,List.getD,zI,hr];rfl
   obtain⟨ca,cc,hcv⟩:=hcsl.slice;obtain⟨nc,hnc⟩:∃q,q=crows.length:=⟨_,rfl⟩
   rw[<- hnc]at hcv;subst hcv;obtain⟨gc,ofc,hca,hFc,_,hcc⟩:=hcsl.get hr;subst hca;have cr:=hcc 0 _ rfl;rw[yK,yF]at cr;have hvl:=hcat r (zC hr);have hvb:=hcbd r (zC hr);obtain⟨rw_,VL⟩:=r;dsimp only at hcs cr hvl hvb;obtain⟨la,lc,hre⟩:=hvl.1.slice;obtain⟨nv,hnv⟩:∃q,q=VL.length:=⟨_,rfl⟩
   rw[<- hnv]at hre;subst hre;have hnvl:nv<=10000:=by rw[hnv];exact hvb.2
   have hunI:(u:Int)<(nc:Int):=by omega
   have huN:u<nc:=by omega
   obtain⟨g,hg⟩:∃g:Nat->List (List Nat),g=fun v=>fillL ls m rest' (chooseC ls c u v) (row++[v]):=⟨_,rfl⟩
   have HG:=zA hg;have HFA:Hid (fillL ls m (u::rest') c row=VL.flatMap g):=zA (by unfold fillL;rw[<- HT.out,if_pos rfl,hcs,hg]);have HVM:Hid (∀v,v∈VL->v∈atC c u):=zA (fun v hv=>by rw[hcs];exact hv);have HVL:Hid (NatC C w1 (.slice la nv lc) VL):=zA hvl;have HNV:=zA hnv;have HUMM:=zA hum;obtain⟨k',hk'⟩:∃k',k=k'+1:=⟨k-1,by have:=HRK.out;rw[yE]at this;omega⟩
   have HP:=zA (HH.out k' hk');have HRK':Hid (rest'.length<=k'):=zA (by have:=HRK.out;rw[yE]at this;omega);clear hvc hva hvg hcrc hcsl hcat hcbd hcrl hr hcs hnc hFc hcc hvl hvb hnv hg hk';go_wp2_with fail;go_loopw [56] (fun kk wr=>∃(j:Nat) (fv':Value) (l':List Sx) (X':Nat->Prop),j<=nv/\kk=.int .i64 j/\Hid (FI F wr jb (J.with fv') ds n m lks ls us l' X' C (.slice (some ⟨gc,ofc,none⟩) nc cc) c (.slice ra nr rc) row (fl++(VL.take j).flatMap g))/\Hid (∀k,X' k->X k\/w.heap.size<=k)/\Hid (FFr w wr l l' (FM jb X (.slice ra nr rc)))/\Hid (Fr C w1 wr)) (fun kk _=>nv-(intOf kk).toNat)
   case atStart=>exact⟨0,J.fv,l1,X,zS _,rfl,zA (by rw[List.take_zero,List.flatMap_nil,List.append_nil];exact HI1.out),zA (fun k hk=>.inl hk),HF1,zA (Fr.refl _ _)⟩
   case round=>
    obtain⟨j,fv',l',X',hj,rfl,HFI,HX,HFF,HFC⟩:=hrel;obtain⟨wx,hwx⟩:∃wx,wx=wr:=⟨_,rfl⟩
    subst hwx;by_cases hjl:j<nv
    . have hjI:(j:Int)<(nv:Int):=by omega
      obtain⟨v,hv⟩:∃v,VL[j]?=some v:=⟨_,zB (by rw[<- HNV.out];exact hjl)⟩
      obtain⟨gb,ofb,hla,_,_,hcell⟩:=(HVL.out.1.fr HFC.out).get hv;subst hla;have c0:=hcell 0 _ rfl;rw[yK,yF]at c0;have hjs:=HFI.out.jz.js;have hcl:=HFI.out.cl;rw[<- hcl]at hjs;have CK0:=chooseZ_any hjs HFI.out.ch (fun k hk=>⟨(HFI.out.cm k hk).1,(HFI.out.cm k hk).2.1⟩) (by rw[hcl];exact HUMM.out) (HVM.out v (zC hv)) HFI.out.ac;rw[hcl]at CK0;have CK:=zA CK0;have HTK:Hid ((VL.take (j+1)).flatMap g=(VL.take j).flatMap g++g v):=zA (by rw[zT,hv,yR,zY,List.flatMap_singleton]);have HCLL:=zA hcl;have HTOT:Hid (∃post,VL.flatMap g=(VL.take (j+1)).flatMap g++post):=zA ⟨(VL.drop (j+1)).flatMap g,by rw[<- zY,List.take_append_drop]⟩;clear hcell hjs hcl CK0 hv;go_wp2_with fail;refine CK.out.mono ?_;rintro e w3 ⟨v3,rfl,hch⟩;obtain⟨l3,C3,d1,d2,d3,d4⟩:=HFI.out.down hch;have D1:=zA d1;have D2:=zA d2;have D3:=zA d3;have D4:=zA d4;obtain⟨w4,hw4⟩:∃W,W=w3.alloc (.cells #[.int .i64 (v:Int)] 3):=⟨_,rfl⟩
      have hb4:Below w3.heap.size w3 w4:=by rw[hw4];exact(zF _ _).alloc (zD _) _
      have hy4:w4.cell? ⟨w3.heap.size,0,none⟩=some (.int .i64 (v:Int)):=by
       have h1:w4.heap[w3.heap.size]?=some (.cells #[.int .i64 (v:Int)] 3 (0,0)):=by rw[hw4];exact heap_alloc_new _ _
       simp[World.cell?,h1]
      have HY4:=zA hy4;have HB4:=zA hb4;have HQ4:Hid (QRow 0 w4 (.slice ra nr rc) row):=zA (d1.row.keep (fun g _ hg=>hb4.block g (d1.row.lt hg).2));have HW4:Hid (w3.alloc (.cells #[.int .i64 (v:Int)] 3)=w4):=zA hw4.symm;have hrl4:row.length<=1000000000:=by rw[<- HNR.out];omega
      clear hch d1 d2 d3 d4 hy4 hb4 hw4 CK c0;go_wp2_with (at_builtin;rw[HW4.out];refine wpList_append_q2 rfl _ _ rfl (by rfl) HQ4.out hrl4 ⟨w3.heap.size,0,none⟩ 1 v (by rfl) HY4.out (zS _) ?_);intro u9 w9 q1 q1b q2x q3 q4 q5 q6 q7 q8;have hk9:∀k,k<w3.heap.size->¬QB (.slice ra nr rc) k->w9.heap[k]?=w3.heap[k]?:=fun k hk hq=>(q6 k (zO hk HB4.out.size) hq).trans (HB4.out.block k hk)
      have hq79:∀k,QB u9 k->QB (.slice ra nr rc) k\/(w3.heap.size<=k/\k<w9.heap.size):=fun k hk=>(q7 k hk).imp id (fun h1=>⟨zQ HB4.out.size h1.1,h1.2⟩)
      obtain⟨e1,e2⟩:=D1.out.app (C':=C3) (v3:=v3) (rv4:=u9) (c':=chooseC ls c u v) (w4:=w9) (x:=v) D2.out D3.out (narrow_ac _ _) (by rw[choose_len];exact HCLL.out) q1 (zQ HB4.out.size q2x) (q3.trans HB4.out.os) (q4.trans HB4.out.tape) (q5.trans HB4.out.output) hk9 hq79;have E1:=zA e1;have E2:Hid (FFr wx w9 l' l3 (QB (.slice ra nr rc))):=zA (D4.out.mono (fun _ h=>h.elim) |>.trans e2 (fun k hk=>.inl hk));have E3:Hid (∀fl5 w5,FO F w9 jb (J.with fv') ds n m lks ls us l3 X' u9 (row++[v]) fl5 w5->FO F wx jb (J.with fv') ds n m lks ls us l' X' (.slice ra nr rc) row fl5 w5):=zA (fun fl5 w5 h5=>HFI.out.lift E2.out q1b (fun k hk=>(hq79 k hk).imp id (fun h1=>zQ D4.out.size h1.1)) q8 h5);have CF:=HP.out w9 (J.with fv') l3 X' C3 v3 (chooseC ls c u v) u9 (row++[v]) (fl++(VL.take j).flatMap g) (us0++[u]) rest' (by rw[HUSR.out];simp) (by rw[zG,zG,HRL.out];rfl) HRK'.out e1;rw[show fillL ls m rest' (chooseC ls c u v) (row++[v])=g v by rw[HG.out]]at CF;have CF:=zA CF;obtain⟨u9a,u9c,hu9⟩:=q1.slice;obtain⟨n9,hn9⟩:∃q,q=(row++[v]).length:=⟨_,rfl⟩
      rw[<- hn9]at hu9;subst hu9;clear hn9;clear q1 q1b q2x q3 q4 q5 q6 q7 q8 hk9 hq79 e1 e2;go_wp2_with fail;refine CF.out.mono ?_;rintro e w5 ⟨rfl,h5⟩;rw[List.append_assoc,<- HTK.out];have H5:Hid (FO F wx jb (J.with fv') ds n m lks ls us l' X' (.slice ra nr rc) row ((fl++(VL.take (j+1)).flatMap g).take 4097) w5):=zA (by
       have:=E3.out _ _ h5;rw[List.append_assoc,<- HTK.out]at this;exact this)
      have H50:=zA (FO.from_ HFF.out HX.out H5.out);clear h5 CF;by_cases hle:(fl++(VL.take (j+1)).flatMap g).length<=4096
      . rw[yC hle];have h6:=H5.out;rw[take_fit (Nat.le_succ_of_le hle)]at h6;obtain⟨fv6,l6,X6,n1,n2,n3⟩:=HFI.out.next h6 hle
        have N1:Hid (FI F w5 jb (J.with fv6) ds n m lks ls us l6 X6 C (.slice (some ⟨gc,ofc,none⟩) nc cc) c (.slice ra nr rc) row (fl++(VL.take (j+1)).flatMap g)):=zA n1;have N2:Hid (∀k,X6 k->X k\/w.heap.size<=k):=zA (fun k hk=>by
         rcases n2 k hk with h1|h1
         . exact HX.out k h1
         . have:=HFF.out.size;exact .inr (by omega))
        have N3:Hid (FFr w w5 l l6 (FM jb X (.slice ra nr rc))):=zA (HFF.out.trans n3 (fun k hk=>by
         rcases hk with hk|hk|hk
         . exact .inl (.inl hk)
         . exact(HX.out k hk).imp (fun h1=>.inr (.inl h1)) id
         . exact .inl (.inr (.inr hk))))
        have N4:Hid (Fr C w1 w5):=zA (HFC.out.trans ⟨n3.os,n3.tape,n3.output,n3.size,fun k hk=>by
         obtain⟨b1,b2,b3,b4,b5⟩:=HFI.out.cm k hk;refine n3.keep k b1 b2 (fun hm=>?_);rcases hm with hm|hm|hm
         . exact b3 hm
         . exact b4 hm
         . exact b5 hm⟩)
        clear h6 n1 n2 n3 hle;go_wp2;go_roundw
        case rel=>exact⟨j+1,fv6,l6,X6,by omega,by go_num,N1,N2,N3,N4⟩
        case measure=>simp[intOf];omega
      . rw[decide_eq_false hle];have HE:=zA (HQ.out w5 false (by
         obtain⟨post,hpost⟩:=HTOT.out;rw[HFA.out,hpost,<- List.append_assoc,zG];exact(decide_eq_false (by omega)).symm) (by
         obtain⟨post,hpost⟩:=HTOT.out;rw[HFA.out,hpost,<- List.append_assoc,List.take_append_of_le_length (by omega)];exact H50.out))
        clear hle;go_wp2;all_goals (first|(go_ret;exact HE.out)|exact HE.out)
    . have hjI:¬(j:Int)<(nv:Int):=by omega
      have htk:VL.take j=VL:=zK (by rw[<- HNV.out];omega);have HE:=zA (HQ.out wx true (by
       rw[HFA.out,<- htk];exact(yC HFI.out.fle).symm) (by
       rw[HFA.out,take_fit (by have:=HFI.out.fle;rw[htk]at this;omega)];have hI:=HFI.out;rw[htk]at hI;exact FO.from_ (fv:=fv') HFF.out HX.out ⟨fv',l',X',hI.jz,hI.xm,hI.fo,hI.row,fun k hk=>.inl hk,FFr.refl _ _ _⟩))
      clear htk;go_wp2;all_goals (first|(go_ret;exact HE.out)|exact HE.out)
theorem fillJ_any{F:Nat->Prop}{jb:Nat}{ds:List Sy}{n m:Nat}{lks:List Lm}{ls:List Lk}{us:List Nat}(hus:us≠[])(hum:∀u∈us,u<m):∀k,FillP k F jb ds n m lks ls us
 |0=>fillJ_step hus hum (fun k' e=>by omega)
 |k+1=>fillJ_step hus hum (fun k' e=>by
  obtain rfl:k=k':=by omega
  exact fillJ_any hus hum k)
end Go.Proofs.YtdalcipmpelifaaGreatDoor
