/- XFill2, XRows1. -/
import Derived.Test.YtkbgmcmcpbegjabGreatDoorMH37
import Derived.Test.YtkbgmcmcpbegjabGreatDoorMH38
set_option maxRecDepth 100000
namespace Go.Proofs.YtkbgmcmcpbegjabGreatDoor
open Go.RowKit Go.Shelf
theorem infoRF:(Tryz.prog.info? 63).map (fun i=>(i.zero,i.size,i.bytes))=some (some (.slice none 0 0),1,24):=by kernel_rfl
theorem fill_nil{ls:List Lk}{n:Nat}{us:List Nat}{c:Ch}{row:List Nat}(h:locB ls c (List.range n)=false):fillL ls n us c row=[]:=by
 cases us<;>(unfold fillL;rw[h];rfl)
theorem take_fit{α:Type}{l:List α}{k:Nat}(h:l.length<=k):l.take k=l:=zK h
set_option maxHeartbeats 32000000 in
theorem fillJ_step{k:Nat}{F:Nat->Prop}{jb:Nat}{ds:List Sy}{n m:Nat}{lks:List Lm}{ls:List Lk}{us:List Nat}(hus:us≠[])(hum:∀u∈us,u<m)(H:∀k',k=k'+1->FillP k' F jb ds n m lks ls us):FillP k F jb ds n m lks ls us:=by
 intro w J l X C cv c rv row fl us0 rest husr hrl hrk h;obtain⟨i0,hi0,hz0,hz1,hz2⟩:=info_partsG infoRF;have C0:=zA h.ask;obtain⟨j0,j1,j2,j3,j4,j5,j6⟩:=h.jz.cell;have HUM:=zA hum;obtain⟨ra,rc,hrv⟩:=h.row.slice;obtain⟨nr,hnr⟩:∃q,q=row.length:=⟨_,rfl⟩
 rw[<- hnr]at hrv;obtain⟨va,vc,hvv,_⟩:=h.jz.va.2;obtain⟨nu,hnu⟩:∃q,q=us.length:=⟨_,rfl⟩
 rw[<- hnu]at hvv;have hnul:nu<=1000:=by rw[hnu];exact h.jz.ul
 have hnrl:nr<=nu:=by rw[hnu,husr,zG,hnr,hrl];omega
 have HCELL:Hid (∀(W:World) (Jx:Jv) (lx:List Sx),Jz F W jb Jx ds n m lks ls us lx->Jx.vv=J.vv->W.cell? ⟨jb,2,none⟩=some (.slice va nu vc)):=zA (fun W Jx lx hJ e=>by rw[hJ.cell.2.1,e,hvv]);obtain⟨Q,hQ⟩:∃Q,Q=FilE F w jb J ds n m lks ls us l X rv row fl (fillL ls m rest c row):=⟨_,rfl⟩
 rw[<- hQ];have HQ:Hid (∀w' b,b=decide ((fl++fillL ls m rest c row).length<=4096)->FO F w jb J ds n m lks ls us l X rv row ((fl++fillL ls m rest c row).take 4097) w'->Q (.returned (.bool b)) w'):=zA (fun w' b hb ho=>by rw[hQ,hb];exact⟨rfl,ho⟩);have HFL:Hid (fl.length<=4096):=zA h.fle;have HH:=zA H;have HI:=zA h;have HUSR:=zA husr;have HRL:=zA hrl;have HRK:=zA hrk;have HNR:=zA hnr;have HNU:=zA hnu;have HVV:=zA hvv;have HRV:=zA hrv;have HUS:=zA hus;clear H h hQ husr hrl hrk hnr hnu hvv hum hus j1 j2 j3 j4 j5 j6;subst hrv;go_enter Tryz.func45,Tryz.ntmps45;go_wp2_with fail;refine C0.out.mono ?_;rintro e w1 ⟨rfl,hf1,l1,hj1⟩;have HI1:=zA (HI.out.call hf1 hj1 (fun k hk hu=>⟨hk,hu⟩));have HN1:=zA (HI.out.nothing hf1 hj1 (fun k hk hu=>⟨hk,hu⟩));have HF1:Hid (FFr w w1 l l1 (FM jb X (.slice ra nr rc))):=zA (FFr.call hf1 hj1 (fun k hk hu=>⟨hk,hu⟩));clear hf1 hj1 j0 C0;obtain⟨t,ht⟩:∃t,t=locB ls c (List.range m):=⟨_,rfl⟩
 have HT:=zA ht;rw[<- ht];clear ht;cases t with
 |false=>
  have HE:=zA (HQ.out w1 true (by
   rw[fill_nil HT.out.symm,List.append_nil];exact(yA HFL.out).symm) (by
   rw[fill_nil HT.out.symm,List.append_nil,take_fit (Nat.le_succ_of_le HFL.out)];exact HN1.out))
  go_wp2;all_goals (first|(go_ret;exact HE.out)|exact HE.out)
 |true=>
  have q2:=HCELL.out w1 J l1 HI1.out.jz rfl;cases rest with
  |nil=>
   have hnn:nr=nu:=by rw[HNR.out,HNU.out,HRL.out,HUSR.out,List.append_nil]
   have HFA:Hid (fillL ls m [] c row=[row]):=zA (by unfold fillL;rw[<- HT.out];rfl);have HID:=zA HI1.out.drew;have HFD:=zA HF1.out.drew;obtain⟨rows,hrc,hfo,hfx,hats⟩:=HID.out.fo;obtain⟨fa,fc,hfv⟩:=own_slice hfo;obtain⟨nf,hnf⟩:∃q,q=rows.length:=⟨_,rfl⟩
   rw[<- hnf]at hfv hfo;have hnfl:nf<=4096:=by
    have h1:=HFL.out;rw[<- hrc,zH,<- hnf]at h1;exact h1
   have HNF:Hid (fl.length=nf):=zA (by rw[<- hrc,zH,hnf]);have HFV:=zA hfv;have HFB:Hid (∀W:World,W.heap[jb]?=some (.cells J.cells 90 (0,0))->W.cell? ⟨jb,6,none⟩=some (.slice fa nf fc)/\W.frozen? ⟨jb,6,none⟩=false):=zA (fun W hW=>by simp[World.cell?,World.frozen?,hW,Jv.cells,hfv]);have HF6:Hid (∀W,Below w1.drew.heap.size w1.drew W->W.cell? ⟨jb,6,none⟩=some (.slice fa nf fc)):=zA (fun W hW=>(HFB.out W ((hW.block jb HID.out.jz.lt).trans HID.out.jz.blk)).1);have f1d:=HF6.out w1.drew (zF _ _);have f1:w1.cell? ⟨jb,6,none⟩=some (.slice fa nf fc):=f1d;have hrne:row≠[]:=fun e=>by
    have h1:=HNR.out;rw[e]at h1;have h2:=HNU.out;exact HUS.out (yP.1 (by rw[<- h2,<- hnn,h1];rfl))
   have C98:=cloneI_any HID.out.row.natC.1 hrne (by rw[<- HNR.out];omega);rw[<- HNR.out]at C98;have C98:=zA C98;have HLEAF:Hid (∀(w2:World) (nv:Value),w2.ownsRow w1.drew.heap.size 3 1 nv nr (row.flatMap csI)->Below w1.drew.heap.size w1.drew w2->Hid ((w2.alloc (.cells #[nv] 63)).cell? ⟨jb,6,none⟩=some (.slice fa nf fc)/\(w2.alloc (.cells #[nv] 63)).ownsRow 0 63 1 (.slice fa nf fc) nf (rows.flatMap csRow)/\(∀j u,[nv][j]?=some u->(w2.alloc (.cells #[nv] 63)).cell? ((⟨w2.heap.size,0,none⟩:Addr).add j)=some u)/\
    Hid (∀gg cap9 w9,w9.ownsRow 0 63 1 (.slice (some ⟨gg,0,none⟩) (nf+1) cap9) (nf+1) (rows.flatMap csRow++[nv])->(w2.alloc (.cells #[nv] 63)).grownBy w9 (Value.slice fa nf fc).ownBlock->((Value.slice fa nf fc).ownBlock=some gg\/gg=w2.heap.size+1)->
     w9.cell? ⟨jb,6,none⟩=some (.slice fa nf fc)/\w9.frozen? ⟨jb,6,none⟩=false/\Hid ((w9.setCell ⟨jb,6,none⟩ (.slice (some ⟨gg,0,none⟩) (nf+1) cap9)).cell? ⟨jb,6,none⟩=some (.slice (some ⟨gg,0,none⟩) (nf+1) cap9)/\Q (.returned (.bool (decide ((nf:Int)+1<=4096)))) (w9.setCell ⟨jb,6,none⟩ (.slice (some ⟨gg,0,none⟩) (nf+1) cap9)))))):=zA (fun w2 nv hnv hb2=>zA (by
    have hb3:Below w1.drew.heap.size w1.drew (w2.alloc (.cells #[nv] 63)):=hb2.alloc hb2.size _;have hjb3:(w2.alloc (.cells #[nv] 63)).heap[jb]?=some (.cells J.cells 90 (0,0)):=(hb3.block jb HID.out.jz.lt).trans HID.out.jz.blk;have hfo3:(w2.alloc (.cells #[nv] 63)).ownsRow 0 63 1 (.slice fa nf fc) nf (rows.flatMap csRow):=by
     rw[<- hfv];exact owns_below hfo hb3
    have hfx3:∀g,(Value.slice fa nf fc).ownBlock=some g->X g:=by rw[<- hfv];exact hfx
    refine⟨(HFB.out _ hjb3).1,hfo3,World.news_of_block (cs:=#[nv]) (heap_alloc_new w2 _),zA (fun gg cap9 w9 hown9 hgrow9 hat9=>?_)⟩;have hjx:(Value.slice fa nf fc).ownBlock≠some jb:=fun e=>(HID.out.xm jb (hfx3 jb e)).2.2.2.1 rfl
    have hjb9:w9.heap[jb]?=some (.cells J.cells 90 (0,0)):=(hgrow9.block jb (zO HID.out.jz.lt hb3.size) (fun e=>hjx e.symm)).trans hjb3;refine⟨(HFB.out w9 hjb9).1,(HFB.out w9 hjb9).2,zA ⟨by simp[World.cell?,World.setCell,Array.getElem?_modify,hjb9,Jv.cells],?_⟩⟩;refine HQ.out _ _ ?_ ?_
    . rw[HFA.out,zG,HNF.out];exact decide_eq_decide.2 (by simp only[List.length_singleton];omega)
    . rw[HFA.out,take_fit (by rw[zG,HNF.out];simp only[List.length_singleton];omega)];have hl:=HID.out.leaf (wz:=w2.alloc (.cells #[nv] 63)) (w9:=w9) (nv:=nv) (fv9:=.slice (some ⟨gg,0,none⟩) (nf+1) cap9) hrc hfx hats hb3 ((own_natC (by rw[<- HNR.out];exact hnv)).below ((zF _ _).alloc (zD _) _)) (fun k hk=>by
       have:=hnv.lt k hk;exact⟨this.1,by simp;omega⟩) hgrow9.os hgrow9.tape hgrow9.output hgrow9.size (fun k hk hne=>hgrow9.block k hk (fun e=>hne (by rw[hfv];exact e.symm))) (by rw[<- hnf];exact hown9) (fun g hg=>by
       have hg:gg=g:=by simpa[Value.ownBlock]using hg
       subst hg;rcases hat9 with h1|h1
       . exact .inl (by rw[hfv];exact h1)
       . exact .inr (by simp;omega))
      exact FO.from_ (fv:=J.fv) HFD.out (fun k hk=>.inl hk) hl))
   clear hrc hfo hfx hats hfv hnf;subst hnn;go_wp2_with fail;refine wp_region_held_drew (S:=fun u=>True) (by kernel_rfl) ?_ (fun hHeld=>?_)
   . exact trivial
   refine tkH (i:=0) (oi:=⟨some 26,.move (.tmp 0),60, "join.go:120",#[],none⟩) (v:=?_) rfl ?_ hHeld ?_;rotate_left 1
   . intro W hSw;obtain _:=hSw;go_simp;try with_reducible rfl
   simp only[Act.put,zIB,zSZ,zSS];refine tkH (i:=1) (oi:=⟨some 27,.move (.tmp 0),60, "join.go:120",#[],none⟩) (v:=?_) rfl ?_ hHeld ?_;rotate_left 1
   . intro W hSw;obtain _:=hSw;go_simp;try with_reducible rfl
   simp only[Act.put,zIB,zSZ,zSS];refine tkH (i:=2) (oi:=⟨some 28,.nilCheck (.tmp 27),0, "join.go:120",#[⟨1,.data⟩],none⟩) (v:=?_) rfl ?_ hHeld ?_;rotate_left 1
   . intro W hSw;obtain _:=hSw;go_simp;try with_reducible rfl
   simp only[Act.put,zIB,zSZ,zSS];refine tkH (i:=3) (oi:=⟨some 29,.fieldAddr 90 (.tmp 28) 6,0, "join.go:120",#[⟨2,.data⟩],none⟩) (v:=?_) rfl ?_ hHeld ?_;rotate_left 1
   . intro W hSw;obtain _:=hSw;go_simp;try with_reducible rfl
   simp only[Act.put,zIB,zSZ,zSS];refine tkH (i:=5) (oi:=⟨some 31,.move (.tmp 2),63, "join.go:120",#[],none⟩) (v:=?_) rfl ?_ hHeld ?_;rotate_left 1
   . intro W hSw;obtain _:=hSw;go_simp;try with_reducible rfl
   simp only[Act.put,zIB,zSZ,zSS];refine wpAnyH_ready (rs:=[4,6]) (by kernel_rfl) (by simp) ?_;refine(AllReadyH.cons (o:=⟨some 30,.load 59 (.tmp 29),59, "join.go:120",#[⟨3,.data⟩],none⟩) rfl (fun K hK=>?_) (AllReadyH.cons (o:=⟨some 32,.call { callee:=.value (.func 66),args:=#[.tmp 31],argTypes:=#[63] },63, "join.go:120",#[⟨5,.data⟩],none⟩) rfl (fun K hK=>?_) AllReadyH.nil))
   . go_simp;refine hK.out _ _ trivial (fun hHeld=>?_);clear hK K;refine wpAnyH_ready (rs:=[6]) (by kernel_rfl) (by simp) ?_;refine(AllReadyH.cons (o:=⟨some 32,.call { callee:=.value (.func 66),args:=#[.tmp 31],argTypes:=#[63] },63, "join.go:120",#[⟨5,.data⟩],none⟩) rfl (fun K hK=>?_) AllReadyH.nil);go_simp;refine C98.out.mono ?_;rintro e w2 ⟨nv,rfl,hnv,hb2⟩;obtain⟨na,nc,hnve⟩:=own_slice hnv;subst hnve;have HNV:=zA (HLEAF.out w2 _ hnv hb2);have f2:=HF6.out w2 hb2;clear hnv hb2;refine hK.out _ _ trivial (fun hHeld=>?_);clear hK K;refine wpAnyH_ready (rs:=[7]) (by kernel_rfl) (by simp) ?_;refine(AllReadyH.cons (o:=⟨some 33,.buildSlice 59 1 #[(0,.tmp 32)],59, "join.go:120",#[⟨6,.data⟩],none⟩) rfl (fun K hK=>?_) AllReadyH.nil);go_simp;refine hK.out _ _ trivial (fun hHeld=>?_);clear hK K;obtain⟨f3,hown3,hnews3,HL3⟩:=HNV.out;refine wpAnyH_ready (rs:=[8]) (by kernel_rfl) (by simp) ?_;refine(AllReadyH.cons (o:=⟨some 34,.call { callee:=.builtin .append,args:=#[.tmp 30,.tmp 33],argTypes:=#[59,59] },59, "join.go:120",#[⟨4,.data⟩,⟨7,.data⟩,⟨6,.chain⟩],none⟩) rfl (fun K hK=>?_) AllReadyH.nil);refine step_append_lies _ (by rfl) _ _ _ (by rfl) 0 63 i0 _ 1 24 Tryz.underlying59 hi0 hz0 hz1 hz2 rfl (by decide) (.slice fa nf fc) _ _ (by rfl) hown3 ⟨w2.heap.size,0,none⟩ 1 1 [.slice na nr nc] (by rfl) (by rfl) hnews3 (by simp[Value.oneCell']) (by decide) (by unfold maxLen;omega) (by omega) (zR _) (w2.heap.size+1) (by simp) ?_;intro gg cap9 w9 hown9 hgrow9 hat9 hlt9;obtain⟨c9,z9,HFO⟩:=HL3.out gg cap9 w9 hown9 hgrow9 hat9;refine hK.out _ _ trivial (fun hHeld=>?_);clear hK K hown9 hgrow9 hat9 hlt9 hown3 hnews3;refine tkH (i:=9) (oi:=⟨some 35,.nilCheck (.tmp 26),0, "join.go:120",#[⟨0,.data⟩,⟨0,.phase⟩,⟨1,.phase⟩,⟨2,.phase⟩,⟨3,.phase⟩,⟨4,.phase⟩,⟨5,.phase⟩,⟨6,.phase⟩,⟨7,.phase⟩,⟨8,.phase⟩],none⟩) (v:=?_) rfl ?_ hHeld ?_;rotate_left 1
     . intro W hSw;obtain _:=hSw;go_simp;try with_reducible rfl
     simp only[Act.put,zIB,zSZ,zSS];refine tkH (i:=10) (oi:=⟨some 36,.fieldAddr 90 (.tmp 35) 6,0, "join.go:120",#[⟨9,.data⟩,⟨0,.phase⟩,⟨1,.phase⟩,⟨2,.phase⟩,⟨3,.phase⟩,⟨4,.phase⟩,⟨5,.phase⟩,⟨6,.phase⟩,⟨7,.phase⟩,⟨8,.phase⟩],none⟩) (v:=?_) rfl ?_ hHeld ?_;rotate_left 1
     . intro W hSw;obtain _:=hSw;go_simp;try with_reducible rfl
     simp only[Act.put,zIB,zSZ,zSS];refine wpAnyH_ready (rs:=[11]) (by kernel_rfl) (by simp) ?_;refine(AllReadyH.cons (o:=⟨none,.store 59 (.tmp 36) (.tmp 34),0, "join.go:120",#[⟨10,.data⟩,⟨8,.data⟩,⟨8,.chain⟩,⟨0,.phase⟩,⟨1,.phase⟩,⟨2,.phase⟩,⟨3,.phase⟩,⟨4,.phase⟩,⟨5,.phase⟩,⟨6,.phase⟩,⟨7,.phase⟩,⟨8,.phase⟩],none⟩) rfl (fun K hK=>?_) AllReadyH.nil);go_simp;refine hK.out _ _ trivial (fun hHeld=>?_);clear hK K c9 z9;refine wpAnyH_done (by kernel_rfl) ?_ _;have c6:=HFO.out.1;go_wp2;all_goals (first|(go_ret;exact HFO.out.2)|exact HFO.out.2)
   . go_simp;refine C98.out.mono ?_;rintro e w2 ⟨nv,rfl,hnv,hb2⟩;obtain⟨na,nc,hnve⟩:=own_slice hnv;subst hnve;have HNV:=zA (HLEAF.out w2 _ hnv hb2);have f2:=HF6.out w2 hb2;clear hnv hb2;refine hK.out _ _ trivial (fun hHeld=>?_);clear hK K;refine wpAnyH_ready (rs:=[4,7]) (by kernel_rfl) (by simp) ?_;refine(AllReadyH.cons (o:=⟨some 30,.load 59 (.tmp 29),59, "join.go:120",#[⟨3,.data⟩],none⟩) rfl (fun K hK=>?_) (AllReadyH.cons (o:=⟨some 33,.buildSlice 59 1 #[(0,.tmp 32)],59, "join.go:120",#[⟨6,.data⟩],none⟩) rfl (fun K hK=>?_) AllReadyH.nil))
     . go_simp;refine hK.out _ _ trivial (fun hHeld=>?_);clear hK K;refine wpAnyH_ready (rs:=[7]) (by kernel_rfl) (by simp) ?_;refine(AllReadyH.cons (o:=⟨some 33,.buildSlice 59 1 #[(0,.tmp 32)],59, "join.go:120",#[⟨6,.data⟩],none⟩) rfl (fun K hK=>?_) AllReadyH.nil);go_simp;refine hK.out _ _ trivial (fun hHeld=>?_);clear hK K;obtain⟨f3,hown3,hnews3,HL3⟩:=HNV.out;refine wpAnyH_ready (rs:=[8]) (by kernel_rfl) (by simp) ?_;refine(AllReadyH.cons (o:=⟨some 34,.call { callee:=.builtin .append,args:=#[.tmp 30,.tmp 33],argTypes:=#[59,59] },59, "join.go:120",#[⟨4,.data⟩,⟨7,.data⟩,⟨6,.chain⟩],none⟩) rfl (fun K hK=>?_) AllReadyH.nil);refine step_append_lies _ (by rfl) _ _ _ (by rfl) 0 63 i0 _ 1 24 Tryz.underlying59 hi0 hz0 hz1 hz2 rfl (by decide) (.slice fa nf fc) _ _ (by rfl) hown3 ⟨w2.heap.size,0,none⟩ 1 1 [.slice na nr nc] (by rfl) (by rfl) hnews3 (by simp[Value.oneCell']) (by decide) (by unfold maxLen;omega) (by omega) (zR _) (w2.heap.size+1) (by simp) ?_;intro gg cap9 w9 hown9 hgrow9 hat9 hlt9;obtain⟨c9,z9,HFO⟩:=HL3.out gg cap9 w9 hown9 hgrow9 hat9;refine hK.out _ _ trivial (fun hHeld=>?_);clear hK K hown9 hgrow9 hat9 hlt9 hown3 hnews3;refine tkH (i:=9) (oi:=⟨some 35,.nilCheck (.tmp 26),0, "join.go:120",#[⟨0,.data⟩,⟨0,.phase⟩,⟨1,.phase⟩,⟨2,.phase⟩,⟨3,.phase⟩,⟨4,.phase⟩,⟨5,.phase⟩,⟨6,.phase⟩,⟨7,.phase⟩,⟨8,.phase⟩],none⟩) (v:=?_) rfl ?_ hHeld ?_;rotate_left 1
       . intro W hSw;obtain _:=hSw;go_simp;try with_reducible rfl
       simp only[Act.put,zIB,zSZ,zSS];refine tkH (i:=10) (oi:=⟨some 36,.fieldAddr 90 (.tmp 35) 6,0, "join.go:120",#[⟨9,.data⟩,⟨0,.phase⟩,⟨1,.phase⟩,⟨2,.phase⟩,⟨3,.phase⟩,⟨4,.phase⟩,⟨5,.phase⟩,⟨6,.phase⟩,⟨7,.phase⟩,⟨8,.phase⟩],none⟩) (v:=?_) rfl ?_ hHeld ?_;rotate_left 1
       . intro W hSw;obtain _:=hSw;go_simp;try with_reducible rfl
       simp only[Act.put,zIB,zSZ,zSS];refine wpAnyH_ready (rs:=[11]) (by kernel_rfl) (by simp) ?_;refine(AllReadyH.cons (o:=⟨none,.store 59 (.tmp 36) (.tmp 34),0, "join.go:120",#[⟨10,.data⟩,⟨8,.data⟩,⟨8,.chain⟩,⟨0,.phase⟩,⟨1,.phase⟩,⟨2,.phase⟩,⟨3,.phase⟩,⟨4,.phase⟩,⟨5,.phase⟩,⟨6,.phase⟩,⟨7,.phase⟩,⟨8,.phase⟩],none⟩) rfl (fun K hK=>?_) AllReadyH.nil);go_simp;refine hK.out _ _ trivial (fun hHeld=>?_);clear hK K c9 z9;refine wpAnyH_done (by kernel_rfl) ?_ _;have c6:=HFO.out.1;go_wp2;all_goals (first|(go_ret;exact HFO.out.2)|exact HFO.out.2)
     . go_simp;refine hK.out _ _ trivial (fun hHeld=>?_);clear hK K;obtain⟨f3,hown3,hnews3,HL3⟩:=HNV.out;refine wpAnyH_ready (rs:=[4]) (by kernel_rfl) (by simp) ?_;refine(AllReadyH.cons (o:=⟨some 30,.load 59 (.tmp 29),59, "join.go:120",#[⟨3,.data⟩],none⟩) rfl (fun K hK=>?_) AllReadyH.nil);go_simp;refine hK.out _ _ trivial (fun hHeld=>?_);clear hK K;refine wpAnyH_ready (rs:=[8]) (by kernel_rfl) (by simp) ?_;refine(AllReadyH.cons (o:=⟨some 34,.call { callee:=.builtin .append,args:=#[.tmp 30,.tmp 33],argTypes:=#[59,59] },59, "join.go:120",#[⟨4,.data⟩,⟨7,.data⟩,⟨6,.chain⟩],none⟩) rfl (fun K hK=>?_) AllReadyH.nil);refine step_append_lies _ (by rfl) _ _ _ (by rfl) 0 63 i0 _ 1 24 Tryz.underlying59 hi0 hz0 hz1 hz2 rfl (by decide) (.slice fa nf fc) _ _ (by rfl) hown3 ⟨w2.heap.size,0,none⟩ 1 1 [.slice na nr nc] (by rfl) (by rfl) hnews3 (by simp[Value.oneCell']) (by decide) (by unfold maxLen;omega) (by omega) (zR _) (w2.heap.size+1) (by simp) ?_;intro gg cap9 w9 hown9 hgrow9 hat9 hlt9;obtain⟨c9,z9,HFO⟩:=HL3.out gg cap9 w9 hown9 hgrow9 hat9;refine hK.out _ _ trivial (fun hHeld=>?_);clear hK K hown9 hgrow9 hat9 hlt9 hown3 hnews3;refine tkH (i:=9) (oi:=⟨some 35,.nilCheck (.tmp 26),0, "join.go:120",#[⟨0,.data⟩,⟨0,.phase⟩,⟨1,.phase⟩,⟨2,.phase⟩,⟨3,.phase⟩,⟨4,.phase⟩,⟨5,.phase⟩,⟨6,.phase⟩,⟨7,.phase⟩,⟨8,.phase⟩],none⟩) (v:=?_) rfl ?_ hHeld ?_;rotate_left 1
       . intro W hSw;obtain _:=hSw;go_simp;try with_reducible rfl
       simp only[Act.put,zIB,zSZ,zSS];refine tkH (i:=10) (oi:=⟨some 36,.fieldAddr 90 (.tmp 35) 6,0, "join.go:120",#[⟨9,.data⟩,⟨0,.phase⟩,⟨1,.phase⟩,⟨2,.phase⟩,⟨3,.phase⟩,⟨4,.phase⟩,⟨5,.phase⟩,⟨6,.phase⟩,⟨7,.phase⟩,⟨8,.phase⟩],none⟩) (v:=?_) rfl ?_ hHeld ?_;rotate_left 1
       . intro W hSw;obtain _:=hSw;go_simp;try with_reducible rfl
       simp only[Act.put,zIB,zSZ,zSS];refine wpAnyH_ready (rs:=[11]) (by kernel_rfl) (by simp) ?_;refine(AllReadyH.cons (o:=⟨none,.store 59 (.tmp 36) (.tmp 34),0, "join.go:120",#[⟨10,.data⟩,⟨8,.data⟩,⟨8,.chain⟩,⟨0,.phase⟩,⟨1,.phase⟩,⟨2,.phase⟩,⟨3,.phase⟩,⟨4,.phase⟩,⟨5,.phase⟩,⟨6,.phase⟩,⟨7,.phase⟩,⟨8,.phase⟩],none⟩) rfl (fun K hK=>?_) AllReadyH.nil);go_simp;refine hK.out _ _ trivial (fun hHeld=>?_);clear hK K c9 z9;refine wpAnyH_done (by kernel_rfl) ?_ _;have c6:=HFO.out.1;go_wp2;all_goals (first|(go_ret;exact HFO.out.2)|exact HFO.out.2)
  |cons u rest'=>
   have hlt:nr<nu:=by rw[HNR.out,HNU.out,HRL.out,HUSR.out,zG,yI];omega
   have hne:¬(nr:Int)=(nu:Int):=by omega
   have hneB:((nr:Int)==(nu:Int))=false:=by simp;omega
   have hltI:(nr:Int)<(nu:Int):=by omega
   have hum:u<m:=HUM.out u (by rw[HUSR.out];simp);have hvg:us[nr]?=some u:=by rw[HUSR.out,HNR.out,HRL.out,yM (zD _)];simp
   have hva:=HI1.out.jz.va.1;rw[HVV.out]at hva;obtain⟨gv,ofv,hvae,_,_,hvc⟩:=hva.get hvg;subst hvae;have cv0:=hvc 0 _ rfl;rw[yF,yJ]at cv0;obtain⟨crows,hcrc,hcsl,hcat,hcbd⟩:=HI1.out.ch.ex;have hcrl:crows.length=m:=by rw[<- HI1.out.cl,<- hcrc,zH]
   obtain⟨r,hr⟩:∃r,crows[u]?=some r:=⟨_,zB (by omega)⟩
   have hcs:atC c u=r.2:=by unfold atC;rw[<- hcrc,List.getD,zI,hr];rfl
   obtain⟨ca,cc,hcv⟩:=hcsl.slice;obtain⟨nc,hnc⟩:∃q,q=crows.length:=⟨_,rfl⟩
   rw[<- hnc]at hcv;subst hcv;obtain⟨gc,ofc,hca,hFc,_,hcc⟩:=hcsl.get hr;subst hca;have cr:=hcc 0 _ rfl;rw[yF,yJ]at cr;have hvl:=hcat r (zC hr);have hvb:=hcbd r (zC hr);obtain⟨rw_,VL⟩:=r;dsimp only at hcs cr hvl hvb;obtain⟨la,lc,hre⟩:=hvl.1.slice;obtain⟨nv,hnv⟩:∃q,q=VL.length:=⟨_,rfl⟩
   rw[<- hnv]at hre;subst hre;have hnvl:nv<=10000:=by rw[hnv];exact hvb.2
   have hunI:(u:Int)<(nc:Int):=by omega
   have huN:u<nc:=by omega
   obtain⟨g,hg⟩:∃g:Nat->List (List Nat),g=fun v=>fillL ls m rest' (chooseC ls c u v) (row++[v]):=⟨_,rfl⟩
   have HG:=zA hg;have HFA:Hid (fillL ls m (u::rest') c row=VL.flatMap g):=zA (by unfold fillL;rw[<- HT.out,if_pos rfl,hcs,hg]);have HVM:Hid (∀v,v∈VL->v∈atC c u):=zA (fun v hv=>by rw[hcs];exact hv);have HVL:Hid (NatC C w1 (.slice la nv lc) VL):=zA hvl;have HNV:=zA hnv;have HUMM:=zA hum;obtain⟨k',hk'⟩:∃k',k=k'+1:=⟨k-1,by have:=HRK.out;rw[yI]at this;omega⟩
   have HP:=zA (HH.out k' hk');have HRK':Hid (rest'.length<=k'):=zA (by have:=HRK.out;rw[yI]at this;omega);clear hvc hva hvg hcrc hcsl hcat hcbd hcrl hr hcs hnc hFc hcc hvl hvb hnv hg hk';go_wp2_with fail;go_loopw [56] (fun kk wr=>∃(j:Nat) (fv':Value) (l':List Sx) (X':Nat->Prop),j<=nv/\kk=.int .i64 j/\Hid (FI F wr jb (J.with fv') ds n m lks ls us l' X' C (.slice (some ⟨gc,ofc,none⟩) nc cc) c (.slice ra nr rc) row (fl++(VL.take j).flatMap g))/\Hid (∀k,X' k->X k\/w.heap.size<=k)/\Hid (FFr w wr l l' (FM jb X (.slice ra nr rc)))/\Hid (Fr C w1 wr)) (fun kk _=>nv-(intOf kk).toNat)
   case atStart=>exact⟨0,J.fv,l1,X,zR _,rfl,zA (by rw[List.take_zero,List.flatMap_nil,List.append_nil];exact HI1.out),zA (fun k hk=>.inl hk),HF1,zA (Fr.refl _ _)⟩
   case round=>
    obtain⟨j,fv',l',X',hj,rfl,HFI,HX,HFF,HFC⟩:=hrel;obtain⟨wx,hwx⟩:∃wx,wx=wr:=⟨_,rfl⟩
    subst hwx;by_cases hjl:j<nv
    . have hjI:(j:Int)<(nv:Int):=by omega
      obtain⟨v,hv⟩:∃v,VL[j]?=some v:=⟨_,zB (by rw[<- HNV.out];exact hjl)⟩
      obtain⟨gb,ofb,hla,_,_,hcell⟩:=(HVL.out.1.fr HFC.out).get hv;subst hla;have c0:=hcell 0 _ rfl;rw[yF,yJ]at c0;have hjs:=HFI.out.jz.js;have hcl:=HFI.out.cl;rw[<- hcl]at hjs;have CK0:=chooseZ_any hjs HFI.out.ch (fun k hk=>⟨(HFI.out.cm k hk).1,(HFI.out.cm k hk).2.1⟩) (by rw[hcl];exact HUMM.out) (HVM.out v (zC hv)) HFI.out.ac;rw[hcl]at CK0;have CK:=zA CK0;have HTK:Hid ((VL.take (j+1)).flatMap g=(VL.take j).flatMap g++g v):=zA (by rw[zU,hv,yR,zT,List.flatMap_singleton]);have HCLL:=zA hcl;have HTOT:Hid (∃post,VL.flatMap g=(VL.take (j+1)).flatMap g++post):=zA ⟨(VL.drop (j+1)).flatMap g,by rw[<- zT,List.take_append_drop]⟩;clear hcell hjs hcl CK0 hv;go_wp2_with fail;refine CK.out.mono ?_;rintro e w3 ⟨v3,rfl,hch⟩;obtain⟨l3,C3,d1,d2,d3,d4⟩:=HFI.out.down hch;have D1:=zA d1;have D2:=zA d2;have D3:=zA d3;have D4:=zA d4;obtain⟨w4,hw4⟩:∃W,W=w3.alloc (.cells #[.int .i64 (v:Int)] 3):=⟨_,rfl⟩
      have hb4:Below w3.heap.size w3 w4:=by rw[hw4];exact(zF _ _).alloc (zD _) _
      have hy4:w4.cell? ⟨w3.heap.size,0,none⟩=some (.int .i64 (v:Int)):=by
       have h1:w4.heap[w3.heap.size]?=some (.cells #[.int .i64 (v:Int)] 3 (0,0)):=by rw[hw4];exact heap_alloc_new _ _
       simp[World.cell?,h1]
      have HY4:=zA hy4;have HB4:=zA hb4;have HQ4:Hid (QRow 0 w4 (.slice ra nr rc) row):=zA (d1.row.keep (fun g _ hg=>hb4.block g (d1.row.lt hg).2));have HW4:Hid (w3.alloc (.cells #[.int .i64 (v:Int)] 3)=w4):=zA hw4.symm;have hrl4:row.length<=1000000000:=by rw[<- HNR.out];omega
      clear hch d1 d2 d3 d4 hy4 hb4 hw4 CK c0;go_wp2_with (at_builtin;rw[HW4.out];refine wpList_append_q2 rfl _ _ rfl (by rfl) HQ4.out hrl4 ⟨w3.heap.size,0,none⟩ 1 v (by rfl) HY4.out (zR _) ?_);intro u9 w9 q1 q1b q2x q3 q4 q5 q6 q7 q8;have hk9:∀k,k<w3.heap.size->¬QB (.slice ra nr rc) k->w9.heap[k]?=w3.heap[k]?:=fun k hk hq=>(q6 k (zO hk HB4.out.size) hq).trans (HB4.out.block k hk)
      have hq79:∀k,QB u9 k->QB (.slice ra nr rc) k\/(w3.heap.size<=k/\k<w9.heap.size):=fun k hk=>(q7 k hk).imp id (fun h1=>⟨zQ HB4.out.size h1.1,h1.2⟩)
      obtain⟨e1,e2⟩:=D1.out.app (C':=C3) (v3:=v3) (rv4:=u9) (c':=chooseC ls c u v) (w4:=w9) (x:=v) D2.out D3.out (narrow_ac _ _) (by rw[choose_len];exact HCLL.out) q1 (zQ HB4.out.size q2x) (q3.trans HB4.out.os) (q4.trans HB4.out.tape) (q5.trans HB4.out.output) hk9 hq79;have E1:=zA e1;have E2:Hid (FFr wx w9 l' l3 (QB (.slice ra nr rc))):=zA (D4.out.mono (fun _ h=>h.elim) |>.trans e2 (fun k hk=>.inl hk));have E3:Hid (∀fl5 w5,FO F w9 jb (J.with fv') ds n m lks ls us l3 X' u9 (row++[v]) fl5 w5->FO F wx jb (J.with fv') ds n m lks ls us l' X' (.slice ra nr rc) row fl5 w5):=zA (fun fl5 w5 h5=>HFI.out.lift E2.out q1b (fun k hk=>(hq79 k hk).imp id (fun h1=>zQ D4.out.size h1.1)) q8 h5);have CF:=HP.out w9 (J.with fv') l3 X' C3 v3 (chooseC ls c u v) u9 (row++[v]) (fl++(VL.take j).flatMap g) (us0++[u]) rest' (by rw[HUSR.out];simp) (by rw[zG,zG,HRL.out];rfl) HRK'.out e1;rw[show fillL ls m rest' (chooseC ls c u v) (row++[v])=g v by rw[HG.out]]at CF;have CF:=zA CF;obtain⟨u9a,u9c,hu9⟩:=q1.slice;obtain⟨n9,hn9⟩:∃q,q=(row++[v]).length:=⟨_,rfl⟩
      rw[<- hn9]at hu9;subst hu9;clear hn9;clear q1 q1b q2x q3 q4 q5 q6 q7 q8 hk9 hq79 e1 e2;go_wp2_with fail;refine CF.out.mono ?_;rintro e w5 ⟨rfl,h5⟩;rw[List.append_assoc,<- HTK.out];have H5:Hid (FO F wx jb (J.with fv') ds n m lks ls us l' X' (.slice ra nr rc) row ((fl++(VL.take (j+1)).flatMap g).take 4097) w5):=zA (by
       have:=E3.out _ _ h5;rw[List.append_assoc,<- HTK.out]at this;exact this)
      have H50:=zA (FO.from_ HFF.out HX.out H5.out);clear h5 CF;by_cases hle:(fl++(VL.take (j+1)).flatMap g).length<=4096
      . rw[yA hle];have h6:=H5.out;rw[take_fit (Nat.le_succ_of_le hle)]at h6;obtain⟨fv6,l6,X6,n1,n2,n3⟩:=HFI.out.next h6 hle
        have N1:Hid (FI F w5 jb (J.with fv6) ds n m lks ls us l6 X6 C (.slice (some ⟨gc,ofc,none⟩) nc cc) c (.slice ra nr rc) row (fl++(VL.take (j+1)).flatMap g)):=zA n1;have N2:Hid (∀k,X6 k->X k\/w.heap.size<=k):=zA (fun k hk=>by
         rcases n2 k hk with h1|h1
         . exact HX.out k h1
         . have:=HFF.out.size;exact .inr (by omega))
        have N3:Hid (FFr w w5 l l6 (FM jb X (.slice ra nr rc))):=zA (HFF.out.trans n3 (fun k hk=>by
         rcases hk with hk|hk|hk
         . exact .inl (.inl hk)
         . exact(HX.out k hk).imp (fun h1=>.inr (.inl h1)) id
         . exact .inl (.inr (.inr hk))))
        have N4:Hid (Fr C w1 w5):=zA (HFC.out.trans ⟨n3.os,n3.tape,n3.output,n3.size,fun k hk=>by
         obtain⟨b1,b2,b3,b4,b5⟩:=HFI.out.cm k hk;refine n3.keep k b1 b2 (fun hm=>?_);rcases hm with hm|hm|hm
         . exact b3 hm
         . exact b4 hm
         . exact b5 hm⟩)
        clear h6 n1 n2 n3 hle;go_wp2;go_roundw
        case rel=>exact⟨j+1,fv6,l6,X6,by omega,by go_num,N1,N2,N3,N4⟩
        case measure=>simp[intOf];omega
      . rw[decide_eq_false hle];have HE:=zA (HQ.out w5 false (by
         obtain⟨post,hpost⟩:=HTOT.out;rw[HFA.out,hpost,<- List.append_assoc,zG];exact(decide_eq_false (by omega)).symm) (by
         obtain⟨post,hpost⟩:=HTOT.out;rw[HFA.out,hpost,<- List.append_assoc,List.take_append_of_le_length (by omega)];exact H50.out))
        clear hle;go_wp2;all_goals (first|(go_ret;exact HE.out)|exact HE.out)
    . have hjI:¬(j:Int)<(nv:Int):=by omega
      have htk:VL.take j=VL:=zK (by rw[<- HNV.out];omega);have HE:=zA (HQ.out wx true (by
       rw[HFA.out,<- htk];exact(yA HFI.out.fle).symm) (by
       rw[HFA.out,take_fit (by have:=HFI.out.fle;rw[htk]at this;omega)];have hI:=HFI.out;rw[htk]at hI;exact FO.from_ (fv:=fv') HFF.out HX.out ⟨fv',l',X',hI.jz,hI.xm,hI.fo,hI.row,fun k hk=>.inl hk,FFr.refl _ _ _⟩))
      clear htk;go_wp2;all_goals (first|(go_ret;exact HE.out)|exact HE.out)
theorem fillJ_any{F:Nat->Prop}{jb:Nat}{ds:List Sy}{n m:Nat}{lks:List Lm}{ls:List Lk}{us:List Nat}(hus:us≠[])(hum:∀u∈us,u<m):∀k,FillP k F jb ds n m lks ls us
 |0=>fillJ_step hus hum (fun k' e=>by omega)
 |k+1=>fillJ_step hus hum (fun k' e=>by
  obtain rfl:k=k':=by omega
  exact fillJ_any hus hum k)
theorem NI.rebase{w0:World}{O F:Nat->Prop}{v:Value}{ds:List Sy}{n:Nat}{c:Ch}{w:World}{l:List Sx}{Z:Nat->Prop}{rows:List (Value×List Nat)}(h:NI w0 O F (fun _=>False) v ds n c w l Z rows)(hO:∀k,w0.heap.size<=k->O k):NI w O F (fun _=>False) v ds n c w l Z rows:=
 ⟨h.pool,h.like,h.ch,h.rc,h.zl,h.zu,h.kv,h.cb,Fr.refl _ _,h.fo,h.go,h.gk,h.gf,fun k hk _=>by
  by_cases hkw:k<w0.heap.size
  . exact h.zo k hk hkw
  . exact hO k (by omega)⟩
structure RSt (F:Nat->Prop) (w0:World) (l0:List Sx) (ds:List Sy) (n m:Nat) (v:Value) (c:Ch) (w:World):Prop where
 ex:∃l Z rows,NI w (fun k=>F k\/w0.heap.size<=k) (fun k=>k<w0.heap.size/\UL l0 k) (fun _=>False) v ds n c w l Z rows
 fr:Fr (fun k=>k<w0.heap.size/\UL l0 k) w0 w
 cl:c.length=m
section
variable {F:Nat->Prop} {w0 w w':World} {jb:Nat} {J:Jv} {ds:List Sy} {n m:Nat} {lks:List Lm} {ls:List Lk} {us:List Nat} {l0:List Sx} {v:Value} {c:Ch}
theorem RSt.below(h:RSt F w0 l0 ds n m v c w)(hb:Below w.heap.size w w'):RSt F w0 l0 ds n m v c w':=by
 obtain⟨l,Z,rows,hn⟩:=h.ex;have h1:NI w (fun k=>F k\/w0.heap.size<=k) (fun k=>k<w0.heap.size/\UL l0 k) (fun _=>False) v ds n c w' l Z rows:=hn.grow hb.size hb.os hb.tape hb.output (fun k hk _=>hb.block k hk) (fun _ hk=>hk.elim) (fun k hk=>(hn.fo k hk).1) (zD _);refine⟨⟨l,Z,rows,h1.rebase (fun k hk=>.inr (zQ h.fr.size hk))⟩,h.fr.trans ⟨hb.os,hb.tape,hb.output,hb.size,fun k hk=>hb.block k (zO hk.1 h.fr.size)⟩,h.cl⟩
theorem NI.jz{l:List Sx}{Z:Nat->Prop}{rows:List (Value×List Nat)}{O:Nat->Prop}(h0:Jz F w0 jb J ds n m lks ls us l0)(hfr:Fr (fun k=>k<w0.heap.size/\UL l0 k) w0 w)(hn:NI w O (fun k=>k<w0.heap.size/\UL l0 k) (fun _=>False) v ds n c w l Z rows):Jz F w jb J ds n m lks ls us l:=by
 have hF:Fr F w0 w:=hfr.sub (fun k hk=>⟨h0.low k hk,h0.un k hk⟩);exact⟨hn.pool,hn.like,h0.tab.fr h0.f0 hF,h0.f0,h0.low.fr hF,fun k hk=>(hn.fo k ⟨h0.low k hk,h0.un k hk⟩).2.1,(hn.fo jb ⟨h0.lt,h0.ju⟩).2.1,h0.jF,h0.jk,(hfr.block jb ⟨h0.lt,h0.ju⟩).trans h0.blk,h0.lk.fr hF,h0.al.fr hF,h0.va.fr hF,h0.ll,h0.ok,h0.nn,h0.mm,h0.ul⟩
theorem RSt.jz(h0:Jz F w0 jb J ds n m lks ls us l0)(h:RSt F w0 l0 ds n m v c w):∃l Z rows,NI w (fun k=>F k\/w0.heap.size<=k) (fun k=>k<w0.heap.size/\UL l0 k) (fun _=>False) v ds n c w l Z rows/\Jz F w jb J ds n m lks ls us l:=by
 obtain⟨l,Z,rows,hn⟩:=h.ex;exact⟨l,Z,rows,hn,hn.jz h0 h.fr⟩
theorem RSt.narrow(h0:Jz F w0 jb J ds n m lks ls us l0)(hm:0<m)(h:RSt F w0 l0 ds n m v c w):Calls Tryz.prog 43 #[.pointer (some ⟨jb,0,none⟩),v,J.av] w fun e w'=>e=.returned (.tuple #[])/\RSt F w0 l0 ds n m v (narrowC ls c) w':=by
 obtain⟨l,Z,rows,hn,hj⟩:=h.jz h0;have hcl:=h.cl;have hmm:=h0.mm;have hFU:∀k,F k->k<w0.heap.size/\UL l0 k:=fun k hk=>⟨h0.low k hk,h0.un k hk⟩
 have hok:LinksOk ds n c.length lks ls:=by rw[hcl];exact h0.ok
 have C:=narrow_any (jb:=jb) (lv:=J.lv) (chv:=J.av) (T0:=List.range m) hn h0.nn hj.tab (hFU 0 h0.f0) (fun k hk=>(hn.fo k hk).1) (by omega) hj.cell.2.2.1 ⟨h0.lt,h0.ju⟩ (hj.lk.sub (fun k hk _=>hFU k hk)) h0.ll hok (hj.al.1.sub (fun k hk _=>hFU k hk)) (by intro e;have:=congrArg List.length e;simp at this;omega) (by simpa using hmm) (fun k hk=>by rw[hcl];exact yD.1 hk) (fun l hl=>⟨.inl (yD.2 (h0.ok.lt l hl).1),.inl (yD.2 (h0.ok.lt l hl).2)⟩);refine C.mono ?_;rintro e w' ⟨rfl,l',Z',rows',hn'⟩;exact⟨rfl,⟨l',Z',rows',hn'.rebase (fun k hk=>.inr (zQ h.fr.size hk))⟩,h.fr.trans hn'.fr,by rw[narrow_len];exact hcl⟩
theorem RSt.ring{wz:World}(h0:Jz F w0 jb J ds n m lks ls us l0)(h:RSt F w0 l0 ds n m v c w)(hbz:Below w.heap.size w wz){a q sb:Nat}{r:Lk}(ha:a<m)(hr:r.fr=a)(hs:SeaOk ds n q sb r.R):
 ∃g cap av na,v=.slice (some ⟨g,0,none⟩) m cap/\g<w.heap.size/\(∃aa ac,av=.slice aa na ac)/\wz.cell? ⟨g,a,none⟩=some av/\Calls Tryz.prog 44 #[.pointer (some ⟨sb,0,none⟩),av] wz fun e w'=>∃lv,e=.returned lv/\(∃la nl lc,lv=.slice la nl lc)/\w'.cell? ⟨g,a,none⟩=some av/\w'.frozen? ⟨g,a,none⟩=false/\(∀k,w.heap.size<=k->k<wz.heap.size->w'.heap[k]?=wz.heap[k]?)/\RSt F w0 l0 ds n m v (ringC c r) (w'.setCell ⟨g,a,none⟩ lv):=by
 obtain⟨l,Z,rows,hno⟩:=h.ex;have hn1:NI w (fun k=>F k\/w0.heap.size<=k) (fun k=>k<w0.heap.size/\UL l0 k) (fun _=>False) v ds n c wz l Z rows:=hno.grow hbz.size hbz.os hbz.tape hbz.output (fun k hk _=>hbz.block k hk) (fun _ hk=>hk.elim) (fun k hk=>(hno.fo k hk).1) (zD _);have hn:=hn1.rebase (fun k hk=>.inr (zQ h.fr.size hk));have hfz1:Fr (fun k=>k<w0.heap.size/\UL l0 k) w0 wz:=h.fr.trans ⟨hbz.os,hbz.tape,hbz.output,hbz.size,fun k hk=>hbz.block k (zO hk.1 h.fr.size)⟩;have hj:=hn.jz h0 hfz1;have hcl:=h.cl;obtain⟨d,hq,hdn,hol,hQ⟩:=hs.ex;have hql:∃x,l[q]?=some x/\syOf x=(sb,d):=by
  have h1:=hn.like;rw[<- h1,zI]at hq;cases hx:l[q]? with
  |none=>rw[hx]at hq;simp at hq
  |some x=>rw[hx]at hq;exact⟨x,rfl,by simpa using hq⟩
 obtain⟨x,hx,hxe⟩:=hql;obtain⟨xb,xd,xm⟩:=x;unfold syOf at hxe;simp only[Prod.mk.injEq]at hxe;obtain⟨rfl,rfl⟩:=hxe;have hxm:=zC hx;obtain⟨s,hsr,hre⟩:=hn.pool.at_ _ hxm;dsimp only at hsr hre;have hrl:rows.length=m:=by rw[<- hcl,<- hn.rc,zH]
 obtain⟨ra,hra⟩:∃r,rows[a]?=some r:=⟨_,zB (by omega)⟩
 have hca:atC c a=ra.2:=by unfold atC;rw[<- hn.rc,List.getD,zI,hra];rfl
 obtain⟨g,cap,hv,hcell,hfz⟩:=hn.ch.at_ hra;rw[hrl]at hv;have hram:=zC hra;have hnat:=hn.ch.ats ra hram;have hcb:=hn.cb ra hram;have hgo:v.ownBlock=some g:=by rw[hv];rfl
 have hgZ:=hn.ch.own g hgo;have hgw:g<w.heap.size:=by
  have:=hno.zl g (hno.ch.own g hgo);exact this
 obtain⟨aa,ac,hav⟩:=hnat.1.slice;have h0':=hn.fo 0 ⟨h0.low 0 h0.f0,h0.un 0 h0.f0⟩;have C:=loops_any (P:=ringB r) (Z:=fun k=>Z k/\v.ownBlock≠some k) hsr (fun k hk=>hk.1) hre (by rw[hdn];exact h0.nn) hol hj.tab ⟨h0'.1,h0'.2.1 _ hxm⟩ hnat (fun k hk=>⟨hn.zl k hk.1,hn.zu k hk.1 _ hxm⟩) (fun x hx2=>by rw[hdn];exact hcb.1 x hx2) hcb.2 (fun x hx2=>by
  rw[ringB_iff];rw[hdn]at hx2;exact(hQ x x hx2 hx2).symm)
 refine⟨g,cap,ra.1,ra.2.length,hv,hgw,⟨aa,ac,hav⟩,hcell,C.mono ?_⟩;rintro e w' ⟨lv,rfl,hown,T,s',m',t1,t2,t3,t4,t5,t6⟩;have hgS:g<wz.heap.size/\¬OwnX (xb,xd,xm) g:=⟨hn.zl g hgZ,hn.zu g hgZ _ hxm⟩
 have hgb:=t6.block g hgS;have hzz:wz.heap.size<=w'.heap.size:=t6.size;obtain⟨la,lc,hlve⟩:=own_slice hown;refine⟨lv,rfl,⟨la,_,lc,hlve⟩,by simpa only[World.cell?,hgb]using hcell,by simpa only[World.frozen?,hgb]using hfz,fun k hk1 hk2=>t6.block k ⟨hk2,fun ho=>?_⟩,?_⟩
 . have:=hno.pool.own_lt hxm ho;omega
 . have hset:∀k,k≠g->(w'.setCell ⟨g,a,none⟩ lv).heap[k]?=w'.heap[k]?:=fun k hk=>zL _ _ _ _ hk
   have hsz:(w'.setCell ⟨g,a,none⟩ lv).heap.size=w'.heap.size:=by simp
   have hTg:T g:=t1 g hgS;have hil:=(zE.1 hx).1;have hcase:∀y∈l.set q (xb,xd,m'),y=(xb,xd,m')\/∃j,j≠q/\l[j]?=some y:=fun y hy=>by
    obtain⟨j,hj⟩:=List.getElem?_of_mem hy;rw[List.getElem?_set]at hj;by_cases ej:q=j
    . rw[if_pos ej,if_pos (by omega)]at hj;injection hj with hj;exact .inl hj.symm
    . rw[if_neg ej]at hj;exact .inr ⟨j,fun e=>ej e.symm,hj⟩
   have hnot:∀k,k<wz.heap.size->(∀x∈l,¬OwnX x k)->∀y∈l.set q (xb,xd,m'),¬OwnX y k:=fun k hk1 hk2 y hy=>by
    rcases hcase y hy with rfl|⟨j,_,hj⟩
    . exact fun ho=>t3.own_no ho (t1 k ⟨hk1,hk2 _ hxm⟩)
    . exact hk2 y (zC hj)
   have hsrF:SrS T (w'.setCell ⟨g,a,none⟩ lv) xb xd s' m':=t3.keep (by rw[hsz];exact zD _) (fun k hk ho=>⟨t3.own_no ho,hset k (fun e=>t3.own_no ho (e▸hTg))⟩) (fun k hk hkk=>hset k (fun e=>hn.kv _ hxm k hkk (by rw[e];exact hgo))) t3.kS;have hlowF:Low T (w'.setCell ⟨g,a,none⟩ lv):=fun k hk=>by rw[hsz];exact t2 k hk
   have hpool:=hn.pool.turn hx (T:=T) (s':=s') (m':=m') (fun k hk=>t1 k hk) hlowF hsrF t4 (by rw[hsz];exact hzz) (fun y hy k hk hnx=>(hset k (fun e=>hk.elim (fun ho=>hn.zu g hgZ y hy (e▸ho)) (fun hkp=>hn.kv y hy k hkp (by rw[e];exact hgo)))).trans (t6.block k ⟨hk.elim (hn.pool.own_lt hy) (hn.pool.kp_lt hy),hnx⟩));have hmap:(rows.set a (lv,ra.2.filter (ringB r))).map (·.2)=ringC c r:=by rw[List.map_set,hn.rc,ringC,hr,hca]
   have hF2:∀k,k<w0.heap.size/\UL l0 k->(w'.setCell ⟨g,a,none⟩ lv).heap[k]?=wz.heap[k]?:=fun k hk=>by
    obtain⟨a1,a2,a3⟩:=hn.fo k hk;exact(hset k (fun e=>a3 (by rw[e];exact hgo))).trans (t6.block k ⟨a1,a2 _ hxm⟩)
   refine⟨⟨l.set q (xb,xd,m'),fun k=>(Z k\/wz.heap.size<=k)/\T k,rows.set a (lv,ra.2.filter (ringB r)),hpool,?_,⟨?_,fun k hk=>?_,fun y hy=>?_⟩,hmap,fun k hk=>hlowF k hk.2,fun k hk y hy=>?_,fun y hy k hk=>?_,fun y hy=>?_,Fr.refl _ _,fun k hk=>?_,fun _ hk=>hk.elim,fun _ hk=>hk.elim,fun _ hk=>hk.elim,fun k hk _=>?_⟩,hfz1.trans ⟨t6.os,t6.tape,t6.output,by rw[hsz];exact hzz,hF2⟩,by rw[ring_len];exact hcl⟩
   . rw[List.map_set,<- hn.like];apply List.ext_getElem?;intro j;rw[List.getElem?_set];by_cases ej:q=j
     . subst ej;rw[if_pos rfl,if_pos (by rw[zH];exact hil),zI,hx];rfl
     . rw[if_neg ej]
   . have h1:w'.ownsRow 0 63 1 v rows.length (rows.flatMap csRow):=owns_key hn.ch.row (fun k o hk ho=>by
      have e:g=k:=by rw[hgo]at hk;injection hk
      subst e;exact hgb.trans ho)
     rw[List.length_set,flat_set,hrl,hv];rw[hv,hrl]at h1;exact(h1.stored a lv).1
   . have e:g=k:=by rw[hgo]at hk;injection hk
     subst e;exact⟨.inl hgZ,hTg⟩
   . have hlift:∀ {u:Value} {L:List Nat} {Y:Nat->Prop},NatC Y w' u L->(∀k,Y k->k<w'.heap.size->((Z k\/wz.heap.size<=k)/\T k)/\k≠g)->NatC (fun k=>((Z k\/wz.heap.size<=k)/\T k)/\v.ownBlock≠some k) (w'.setCell ⟨g,a,none⟩ lv) u L:=fun hu hY=>hu.keep (by rw[hsz];exact zD _) (fun k hk hkl=>⟨⟨(hY k hk hkl).1,fun e=>(hY k hk hkl).2 (by rw[hgo]at e;injection e with e;exact e.symm)⟩,hset k (hY k hk hkl).2⟩)
     rcases List.mem_or_eq_of_mem_set hy with hy|hy
     . refine hlift ((hn.ch.ats y hy).keep (T:=fun k=>Z k/\v.ownBlock≠some k) hzz (fun k hk hkl=>⟨hk,t6.block k ⟨hkl,hn.zu k hk.1 _ hxm⟩⟩)) (fun k hk _=>⟨⟨.inl hk.1,t1 k ⟨hn.zl k hk.1,hn.zu k hk.1 _ hxm⟩⟩,fun e=>hk.2 (by rw[e];exact hgo)⟩)
     . rw[hy];refine hlift (own_natC hown) (fun k hk _=>?_);have h2:=hown.lt k hk;exact⟨⟨.inr h2.1,t5 k hk⟩,fun e=>by have:=hgS.1;omega⟩
   . rcases hcase y hy with rfl|⟨j,hj1,hj2⟩
     . exact fun ho=>t3.own_no ho hk.2
     . rcases hk.1 with h1|h1
       . exact hn.zu k h1 y (zC hj2)
       . exact fun ho=>by have:=hn.pool.own_lt (zC hj2) ho;omega
   . rcases hcase y hy with rfl|⟨j,hj1,hj2⟩
     . exact hn.kv _ hxm k hk
     . exact hn.kv y (zC hj2) k hk
   . rcases List.mem_or_eq_of_mem_set hy with hy|hy
     . exact hn.cb y hy
     . rw[hy];exact⟨fun u hu=>hcb.1 u (zW.1 hu).1,zQ (yC _ _) hcb.2⟩
   . obtain⟨a1,a2,a3⟩:=hn.fo k hk;exact⟨by rw[hsz];omega,hnot k a1 a2,a3⟩
   . rcases hk.1 with h1|h1
     . exact hn.zo k h1 (hn.zl k h1)
     . exact .inr (zQ hfz1.size h1)
theorem Jz.begin{w1:World}{rows:List (Value×List Nat)}{g1 nr cap:Nat}(h0:Jz F w0 jb J ds n m lks ls us l0)(hrc:rows.map (·.2)=c)(hcl:c.length=m)(hat:∀r∈rows,NatC F w0 r.1 r.2)(hbd:∀r∈rows,(∀u∈r.2,u<n)/\r.2.length<=10000)(hnr:nr=rows.length)(hb1:Below w0.heap.size w0 w1)(hown:w1.ownsRow w0.heap.size 63 1 (.slice (some ⟨g1,0,none⟩) nr cap) nr (rows.flatMap csRow)):RSt F w0 l0 ds n m (.slice (some ⟨g1,0,none⟩) nr cap) c w1:=by
 have hz1:=hb1.size;have hg1:=hown.lt g1 rfl;have hob:∀k,(Value.slice (some ⟨g1,0,none⟩) nr cap).ownBlock=some k->k=g1:=fun k e=>by
  have h3:g1=k:=by simpa[Value.ownBlock]using e
  exact h3.symm
 have hnew:∀k,w0.heap.size<=k->UL l0 k:=fun k hk2=>(h0.fresh hk2).1
 refine⟨⟨l0,fun k=>(k<w1.heap.size/\UL l0 k)/\(F k\/w0.heap.size<=k),rows,h0.pool.below hb1,h0.like,⟨?_,fun k hk=>?_,fun r hr=>?_⟩,hrc,fun k hk=>hk.1.1,fun k hk=>hk.1.2,fun x hx k hk e=>?_,hbd,Fr.refl _ _,fun k hk=>?_,fun _ hk=>hk.elim,fun _ hk=>hk.elim,fun _ hk=>hk.elim,fun k hk _=>hk.2⟩,⟨hb1.os,hb1.tape,hb1.output,hb1.size,fun k hk=>hb1.block k hk.1⟩,hcl⟩
 . rw[<- hnr];refine⟨hown.1,hown.2.imp id ?_⟩;rintro⟨g,cp,cur,e1,_,e3⟩;exact⟨g,cp,cur,e1,zR _,e3⟩
 . rw[hob k hk];exact⟨⟨hg1.2,hnew g1 hg1.1⟩,.inr hg1.1⟩
 . exact(hat r hr).keep hz1 (fun k hk hl=>⟨⟨⟨⟨by omega,h0.un k hk⟩,.inl hk⟩,fun e=>by have:=hob k e;omega⟩,hb1.block k hl⟩)
 . have:=h0.pool.kp_lt hx hk;have:=hob k e;omega
 . exact⟨by omega,hk.2,fun e=>by have:=hob k e;omega⟩
theorem RSt.fill(h0:Jz F w0 jb J ds n m lks ls us l0)(hm:0<m)(hfv:J.fv=.slice none 0 0)(h:RSt F w0 l0 ds n m v c w)(hac:AC ls c):∃l C,FI F w jb J ds n m lks ls us l (fun _=>False) C v c (.slice none 0 0) [] []/\FFr w0 w l0 l (fun _=>False):=by
 obtain⟨l,Z,rows,hn,hj⟩:=h.jz h0;have hqn:∀k,¬QB (.slice none 0 0) k:=fun k hk=>by obtain⟨_,_,_,e⟩:=hk;cases e
 refine⟨l,Z,⟨hj,fun _ hk=>hk.elim,⟨[],rfl,by rw[hfv];exact World.ownsRow_nil _ _ _ _,fun g hg=>by rw[hfv]at hg;simp[Value.ownBlock]at hg,fun r hr=>by simp at hr⟩,.inl ⟨rfl,rfl⟩,fun k hk=>absurd hk (hqn k),fun k hk=>absurd hk (hqn k),⟨rows,hn.rc,(own_sl csRow_len hn.ch.row rfl).sub (fun k hk _=>hn.ch.own k hk),fun r hr=>(hn.ch.ats r hr).sub (fun k hk _=>hk.1),hn.cb⟩,fun k hk=>⟨hn.zl k hk,hn.zu k hk,fun e=>?_,fun h2=>h2,hqn k⟩,hac,h.cl,hm,by simp⟩,h.fr.os,h.fr.tape,h.fr.output,h.fr.size,fun k hk hu _=>h.fr.block k ⟨hk,hu⟩,fun k hk hu=>(hn.fo k ⟨hk,hu⟩).2.1⟩;subst e;rcases hn.zo k hk (hn.zl k hk)with h1|h1
 . exact h0.jF h1
 . have:=h0.lt;omega
end
end Go.Proofs.YtkbgmcmcpbegjabGreatDoor
