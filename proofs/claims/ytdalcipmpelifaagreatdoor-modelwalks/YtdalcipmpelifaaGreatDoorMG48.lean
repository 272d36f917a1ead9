/- BWill3. -/
import Derived.Test.YtdalcipmpelifaaGreatDoorMG26
set_option maxRecDepth 100000
namespace Go.Proofs.YtdalcipmpelifaaGreatDoor
open Go.RowKit Go.Shelf
set_option maxHeartbeats 8000000 in
theorem rW_oft{S T:Nat->Prop}{k:Int}{wd:Wd}{v:Value}{x:Vt}(hk45:k=4\/k=5)(hk:WillC S T x):∀(N:Nat) (w:World) (wv:Value) (L:List Wd),L.length=N->VOk S w ⟨k,wd,v,[x]⟩->TxtS T w wv L->CapS wv L.length->L.length<=1000000->
 Calls Tryz.prog 10 #[encN ⟨k,wd,v,[x]⟩,wv] w fun e w'=>∃b:Bool,e=.returned (.bool b)/\(b=true↔oftL k (willL x.pt) L)/\Below w.heap.size w w':=by
 intro N;induction N using Nat.strongRecOn with
 |_ N IH0=>
 intro w wv L hNL hok htx hcap hL;have hok2:=hok.parts;obtain⟨ao,cap,hv⟩:=hok2.1.slice;dsimp only at hok2 hv;subst hv;have hxo:=hok2.2.2.2 x (by simp);obtain⟨ans,hans⟩:=known_some (oftL k (willL x.pt) L);have HANS:=zA hans;have HTX:=zA htx;have HOKP:=zA hok;obtain⟨g,off,rfl,hgS,hgl,hcell⟩:=hok2.1.get (j:=0) (x:=x) rfl;obtain⟨wa,wcap,rfl,hwc⟩:=hcap;have C:Hid (∀u i,Below w.heap.size w u->i<=L.length->∀b:Bool,(b=true↔willL x.pt (L.take i))->Calls Tryz.prog 10 #[encN x,.slice wa i wcap] u fun e w'=>e=.returned (.bool b)/\Below u.heap.size u w'):=zA (fun u i hu hi b hb=>Calls.known (hk u (.slice wa i wcap) (L.take i) (hxo.below hu) (sl_take (htx.below hu) hi) ⟨wa,wcap,by rw[yL,Nat.min_eq_left hi],by rw[yL];omega⟩ (by rw[yL];omega)) hb);have IH:Hid (∀u i,Below w.heap.size w u->1<=i->i<L.length->∀b:Bool,(b=true↔oftL k (willL x.pt) (L.drop i))->Calls Tryz.prog 10 #[encN ⟨k,wd,.slice (some ⟨g,off,none⟩) [x].length cap,[x]⟩,.slice (if wcap=i then wa else Option.map (fun x=>x.add i) wa) (L.length-i) (wcap-i)] u fun e w'=>e=.returned (.bool b)/\Below u.heap.size u w'):=zA (fun u i hu h1 h2 b hb=>Calls.known (IH0 (L.drop i).length (by rw[List.length_drop];omega) u _ (L.drop i) rfl (hok.below hu) (cut_words (htx.below hu) rfl (by omega) hwc) ⟨_,_,by rw[List.length_drop],by rw[List.length_drop];omega⟩ (by rw[List.length_drop];omega)) hb);have HKC:Hid (∀u,Below w.heap.size w u->u.cell? ⟨g,off,none⟩=some (.int .i64 x.kind)/\u.cell? ⟨g,off+1,none⟩=some (.string ⟨x.word.toArray⟩)/\u.cell? ⟨g,off+2,none⟩=some x.val):=zA (fun u hu=>by
  obtain⟨q0,q1,q2⟩:=getN hcell;rw[Nat.zero_mul,yF]at q0 q1 q2;exact⟨(hu.cell (p:=⟨g,off,none⟩) hgl).trans q0,(hu.cell (p:=⟨g,off+1,none⟩) hgl).trans q1,(hu.cell (p:=⟨g,off+2,none⟩) hgl).trans q2⟩)
 obtain⟨xa,xc,hxv⟩:=hxo.parts.1.slice;obtain⟨xn,hxn⟩:∃n,n=x.kids.length:=⟨_,rfl⟩
 rw[<- hxn]at hxv;obtain⟨f,hf⟩:∃f,f=willL x.pt:=⟨_,rfl⟩
 rw[<- hf]at HANS C IH;obtain⟨xk,xw,xv,xl⟩:=x;dsimp only at HKC hxv;subst hxv;obtain⟨m,hm⟩:∃n,n=L.length:=⟨_,rfl⟩
 rw[<- hm]at C IH HTX hL hwc ⊢;have HM:=zA hm;have HK45:=zA hk45;suffices hgoal:Calls Tryz.prog 10 #[.agg #[.int .i64 k,.string ⟨wd.toArray⟩,.slice (some ⟨g,off,none⟩) 1 cap],.slice wa m wcap] w fun e w'=>e=.returned (.bool ans)/\Below w.heap.size w w' by
  refine hgoal.mono ?_;rintro e w' ⟨rfl,hb⟩;exact⟨ans,rfl,by rw[<- hf];exact HANS.out,hb⟩
 clear hok htx hok2 hm hans hk hcell hxn hxo hf IH0 hNL HOKP hk45;obtain⟨o,ho⟩:∃o,o=Obj.cells #[.int .i64 k,.string ⟨wd.toArray⟩,.slice (some ⟨g,off,none⟩) 1 cap] 25:=⟨_,rfl⟩
 have HOB:=zA ho;have HC:Hid (∀wr,Below (w.alloc o).heap.size (w.alloc o) wr->(wr.cell? ⟨w.heap.size,0,none⟩=some (.int .i64 k)/\wr.cell? ⟨w.heap.size,1,none⟩=some (.string ⟨wd.toArray⟩)/\wr.cell? ⟨w.heap.size,2,none⟩=some (.slice (some ⟨g,off,none⟩) 1 cap))/\(wr.cell? ⟨g,off,none⟩=some (.int .i64 xk)/\wr.cell? ⟨g,off+1,none⟩=some (.string ⟨xw.toArray⟩)/\wr.cell? ⟨g,off+2,none⟩=some (.slice xa xn xc))):=zA (fun wr hb=>by
  have h:=box_keptQ hb;rw[HOB.out]at h;refine⟨?_,HKC.out wr (below_boxQ hb)⟩;simp[World.cell?,h])
 have HB0:Hid (Below (w.alloc o).heap.size (w.alloc o) (w.alloc (.cells #[.int .i64 k,.string ⟨wd.toArray⟩,.slice (some ⟨g,off,none⟩) 1 cap] 25))):=zA (by rw[HOB.out];exact zF _ _);clear ho;have k1:¬k=1:=by rcases HK45.out with h|h<;>omega
 have k2:¬k=2:=by rcases HK45.out with h|h<;>omega
 have k3:¬k=3:=by rcases HK45.out with h|h<;>omega
 have k6:¬k=6:=by rcases HK45.out with h|h<;>omega
 obtain⟨a1,b1⟩:=not_both k1;obtain⟨a2,b2⟩:=not_both k2;obtain⟨a3,b3⟩:=not_both k3;obtain⟨a6,b6⟩:=not_both k6;clear k1 k2 k3 k6;by_cases h0:m=0
 . have hL0:L=[]:=yG.1 (by rw[<- HM.out];exact h0);obtain⟨b,hb⟩:=known_some (f []);have C0:=zA (fun u hu=>C.out u 0 hu (by omega) b (by rw[List.take_zero];exact hb));have HT:Hid (ans=true↔k=4\/b=true):=zA (by rw[HANS.out,hL0,oft_nil,hb]);subst h0;clear hb hL0 C IH;by_cases k4:k=4
   . have HT2:Hid (ans=true):=zA (HT.out.2 (.inl k4));subst k4;go_enter Tryz.func10,Tryz.ntmps10;go_wp2;go_ret;exact⟨by rw[HT2.out];rfl,below_boxQ HB0.out⟩
   . have HT2:Hid (ans=b):=zA (bool_same (by rw[HT.out];exact⟨fun h=>h.elim (fun e=>absurd e k4) id,.inr⟩));obtain⟨a4,b4⟩:=not_both k4;obtain⟨_,p0,p1,p2⟩:=HC.out _ HB0.out;have q:=HKC.out w (zF _ _);obtain⟨q0,q1,q2⟩:=q;clear k4;go_enter Tryz.func10,Tryz.ntmps10;go_wp2_with fail;refine(C0.out _ (below_boxQ HB0.out)).mono ?_;rintro e w2 ⟨rfl,hb2⟩;have HB2:=zA (HB0.out.trans (hb2.mono HB0.out.size));clear hb2;go_wp2;go_ret;exact⟨by rw[HT2.out];rfl,below_boxQ HB2.out⟩
 . have hL0:¬L=[]:=fun h=>h0 (by rw[HM.out,h];rfl)
   have HCUT:Hid (ans=true↔∃i,1<=i/\i<=m/\f (L.take i)/\(i=m\/oftL k f (L.drop i))):=zA (by rw[HANS.out,oft_cut hL0,<- HM.out]);obtain⟨d1,d2⟩:=not_both (a:=(m:Int)) (b:=0) (by omega);clear h0 hL0;go_enter Tryz.func10,Tryz.ntmps10;go_wp2_with fail;go_loopw [6] (fun c wr=>∃i:Nat,1<=i/\i<=m+1/\c=.int .i64 i/\(∀j,1<=j->j<i->¬(f (L.take j)/\(j=m\/oftL k f (L.drop j))))/\Below (w.alloc o).heap.size (w.alloc o) wr) (fun c _=>m+1-(intOf c).toNat)
   case atStart=>exact⟨1,zD _,by omega,rfl,fun j h1 h2=>absurd h2 (by omega),HB0.out⟩
   case round=>
    obtain⟨i,h1i,him,rfl,hall,hbq⟩:=hrel;have HBQ:=zA hbq;have HAll:=zA hall;clear hbq hall;by_cases hlt:i<=m
    . have hltI:(i:Int)<=(m:Int):=by omega
      obtain⟨b,hb⟩:=known_some (f (L.take i));have HBB:=zA hb;have HDW:Hid (Below (w.alloc o).heap.size (w.alloc o) wr.drew):=zA HBQ.out.drew;have E1:=zA (C.out wr.drew i (below_boxQ HDW.out) hlt b hb);obtain⟨⟨c0,c1,c2⟩,⟨p0,p1,p2⟩⟩:=HC.out _ HBQ.out;have hiw:(i:Int)<=(wcap:Int):=by omega
      have hmw:(m:Int)<=(wcap:Int):=by omega
      clear hb;cases b with
      |false=>
       have HA2:Hid (∀j,1<=j->j<i+1->¬(f (L.take j)/\(j=m\/oftL k f (L.drop j)))):=zA (fun j g1 g2 h=>by
        by_cases e:j=i
        . subst e;have:=HBB.out.2 h.1;cases this
        . exact HAll.out j g1 (by omega) h)
       go_wp2_with fail;refine wp_region_held_drew (S:=fun u=>(u.cell? ⟨w.heap.size,0,none⟩=some (.int .i64 k)/\u.cell? ⟨w.heap.size,1,none⟩=some (.string ⟨wd.toArray⟩)/\u.cell? ⟨w.heap.size,2,none⟩=some (.slice (some ⟨g,off,none⟩) 1 cap))/\(u.cell? ⟨g,off,none⟩=some (.int .i64 xk)/\u.cell? ⟨g,off+1,none⟩=some (.string ⟨xw.toArray⟩)/\u.cell? ⟨g,off+2,none⟩=some (.slice xa xn xc))) (by kernel_rfl) ?_ (fun hHeld=>?_)
       . exact HC.out _ HDW.out
       refine tkH (i:=0) (oi:=⟨some 77,.fieldAddr 25 (.tmp 2) 2,0, "ref.go:216",#[],none⟩) (v:=?_) rfl ?_ hHeld ?_;rotate_left 1
       . rintro W ⟨⟨t0,t1,t2⟩,⟨t3,t4,t5⟩⟩;go_simp;try with_reducible rfl
       simp only[Act.put,zIB,zSZ,zSS];refine tkH (i:=1) (oi:=⟨some 78,.load 23 (.tmp 77),23, "ref.go:216",#[⟨0,.data⟩],none⟩) (v:=?_) rfl ?_ hHeld ?_;rotate_left 1
       . rintro W ⟨⟨t0,t1,t2⟩,⟨t3,t4,t5⟩⟩;go_simp;try with_reducible rfl
       simp only[Act.put,zIB,zSZ,zSS];refine tkH (i:=2) (oi:=⟨some 79,.indexAddr 23 (.tmp 78) (.const (.int .i64 0)),0, "ref.go:216",#[⟨1,.data⟩],none⟩) (v:=?_) rfl ?_ hHeld ?_;rotate_left 1
       . rintro W ⟨⟨t0,t1,t2⟩,⟨t3,t4,t5⟩⟩;go_simp;try with_reducible rfl
       simp only[Act.put,zIB,zSZ,zSS];refine tkH (i:=3) (oi:=⟨some 80,.load 25 (.tmp 79),25, "ref.go:216",#[⟨2,.data⟩],none⟩) (v:=?_) rfl ?_ hHeld ?_;rotate_left 1
       . rintro W ⟨⟨t0,t1,t2⟩,⟨t3,t4,t5⟩⟩;go_simp;try with_reducible rfl
       simp only[Act.put,zIB,zSZ,zSS];refine tkH (i:=4) (oi:=⟨some 81,.move (.tmp 1),22, "ref.go:216",#[],none⟩) (v:=?_) rfl ?_ hHeld ?_;rotate_left 1
       . rintro W ⟨⟨t0,t1,t2⟩,⟨t3,t4,t5⟩⟩;go_simp;try with_reducible rfl
       simp only[Act.put,zIB,zSZ,zSS];refine tkH (i:=5) (oi:=⟨some 82,.move (.tmp 6),3, "ref.go:216",#[],none⟩) (v:=?_) rfl ?_ hHeld ?_;rotate_left 1
       . rintro W ⟨⟨t0,t1,t2⟩,⟨t3,t4,t5⟩⟩;go_simp;try with_reducible rfl
       simp only[Act.put,zIB,zSZ,zSS];refine tkH (i:=6) (oi:=⟨some 83,.slice 22 (.tmp 81) none (some (.tmp 82)) none,22, "ref.go:216",#[⟨4,.data⟩,⟨5,.data⟩],none⟩) (v:=?_) rfl ?_ hHeld ?_;rotate_left 1
       . rintro W ⟨⟨t0,t1,t2⟩,⟨t3,t4,t5⟩⟩;go_simp;try with_reducible rfl
       simp only[Act.put,zIB,zSZ,zSS];refine wpAnyH_ready (rs:=[7]) (by kernel_rfl) (by simp) ?_;refine AllReadyH.cons (o:=⟨some 84,.call { callee:=.value (.func 10),args:=#[.tmp 80,.tmp 83],argTypes:=#[25,22] },4, "ref.go:216",#[⟨3,.data⟩,⟨6,.data⟩],none⟩) rfl (fun K hK=>?_) AllReadyH.nil;go_simp;refine E1.out.mono ?_;rintro e w3 ⟨rfl,hb3⟩;have HB3:=zA (HDW.out.trans (hb3.mono HDW.out.size));clear hb3;go_wp2_with fail;refine hK.out _ _ (HC.out _ HB3.out) (fun hHeld=>?_);clear hK K;refine tkH (i:=8) (oi:=⟨some 85,.move (.tmp 84),4, "ref.go:216",#[⟨7,.data⟩,⟨7,.chain⟩],none⟩) (v:=?_) rfl ?_ hHeld ?_;rotate_left 1
       . rintro W ⟨⟨t0,t1,t2⟩,⟨t3,t4,t5⟩⟩;go_simp;try with_reducible rfl
       simp only[Act.put,zIB,zSZ,zSS];refine wpAnyH_take (i:=9) (oi:=⟨some 86,.move (.tmp 6),3, "ref.go:216",#[⟨8,.guard⟩],some (8,true)⟩) (v:=undef) rfl (by kernel_rfl) (by kernel_rfl) (by kernel_rfl) (fun _ _ _ h=>h) (Or.inr ⟨by rfl,rfl⟩) hHeld ?_;simp only[Act.put,zIB,zSZ,zSS];refine wpAnyH_take (i:=10) (oi:=⟨some 87,.move (.tmp 1),22, "ref.go:216",#[⟨8,.guard⟩],some (8,true)⟩) (v:=undef) rfl (by kernel_rfl) (by kernel_rfl) (by kernel_rfl) (fun _ _ _ h=>h) (Or.inr ⟨by rfl,rfl⟩) hHeld ?_;simp only[Act.put,zIB,zSZ,zSS];refine wpAnyH_take (i:=11) (oi:=⟨some 88,.call { callee:=.builtin .len,args:=#[.tmp 87],argTypes:=#[22] },3, "ref.go:216",#[⟨10,.data⟩,⟨8,.guard⟩],some (8,true)⟩) (v:=undef) rfl (by kernel_rfl) (by kernel_rfl) (by kernel_rfl) (fun _ _ _ h=>h) (Or.inr ⟨by rfl,rfl⟩) hHeld ?_;simp only[Act.put,zIB,zSZ,zSS];refine wpAnyH_take (i:=12) (oi:=⟨some 89,.binOp .eql 3 (.tmp 86) (.tmp 88) 3,4, "ref.go:216",#[⟨9,.data⟩,⟨11,.data⟩,⟨8,.guard⟩],some (8,true)⟩) (v:=undef) rfl (by kernel_rfl) (by kernel_rfl) (by kernel_rfl) (fun _ _ _ h=>h) (Or.inr ⟨by rfl,rfl⟩) hHeld ?_;simp only[Act.put,zIB,zSZ,zSS];refine wpAnyH_take (i:=13) (oi:=⟨some 90,.move (.tmp 89),4, "ref.go:216",#[⟨12,.data⟩,⟨8,.chain⟩,⟨8,.guard⟩],some (8,true)⟩) (v:=undef) rfl (by kernel_rfl) (by kernel_rfl) (by kernel_rfl) (fun _ _ _ h=>h) (Or.inr ⟨by rfl,rfl⟩) hHeld ?_;simp only[Act.put,zIB,zSZ,zSS];refine wpAnyH_take (i:=14) (oi:=⟨some 91,.load 25 (.tmp 2),25, "ref.go:216",#[⟨13,.guard⟩],some (13,false)⟩) (v:=undef) rfl (by kernel_rfl) (by kernel_rfl) (by kernel_rfl) (fun _ _ _ h=>h) (Or.inr ⟨by rfl,rfl⟩) hHeld ?_;simp only[Act.put,zIB,zSZ,zSS];refine wpAnyH_take (i:=15) (oi:=⟨some 92,.move (.tmp 1),22, "ref.go:216",#[⟨13,.guard⟩],some (13,false)⟩) (v:=undef) rfl (by kernel_rfl) (by kernel_rfl) (by kernel_rfl) (fun _ _ _ h=>h) (Or.inr ⟨by rfl,rfl⟩) hHeld ?_;simp only[Act.put,zIB,zSZ,zSS];refine wpAnyH_take (i:=16) (oi:=⟨some 93,.move (.tmp 6),3, "ref.go:216",#[⟨13,.guard⟩],some (13,false)⟩) (v:=undef) rfl (by kernel_rfl) (by kernel_rfl) (by kernel_rfl) (fun _ _ _ h=>h) (Or.inr ⟨by rfl,rfl⟩) hHeld ?_;simp only[Act.put,zIB,zSZ,zSS];refine wpAnyH_take (i:=17) (oi:=⟨some 94,.slice 22 (.tmp 92) (some (.tmp 93)) none none,22, "ref.go:216",#[⟨15,.data⟩,⟨16,.data⟩,⟨13,.guard⟩],some (13,false)⟩) (v:=undef) rfl (by kernel_rfl) (by kernel_rfl) (by kernel_rfl) (fun _ _ _ h=>h) (Or.inr ⟨by rfl,rfl⟩) hHeld ?_;simp only[Act.put,zIB,zSZ,zSS];refine wpAnyH_take (i:=18) (oi:=⟨some 95,.call { callee:=.value (.func 10),args:=#[.tmp 91,.tmp 94],argTypes:=#[25,22] },4, "ref.go:216",#[⟨14,.data⟩,⟨17,.data⟩,⟨13,.chain⟩,⟨13,.guard⟩],some (13,false)⟩) (v:=undef) rfl (by kernel_rfl) (by kernel_rfl) (by kernel_rfl) (fun _ _ _ h=>h) (Or.inr ⟨by rfl,rfl⟩) hHeld ?_;simp only[Act.put,zIB,zSZ,zSS];refine wpAnyH_take (i:=19) (oi:=⟨some 96,.pick (.tmp 90) (.const (.bool true)) (.tmp 95),4, "ref.go:216",#[⟨13,.data⟩,⟨18,.data⟩,⟨8,.guard⟩],some (8,true)⟩) (v:=undef) rfl (by kernel_rfl) (by kernel_rfl) (by kernel_rfl) (fun _ _ _ h=>h) (Or.inr ⟨by rfl,rfl⟩) hHeld ?_;simp only[Act.put,zIB,zSZ,zSS];refine tkH (i:=20) (oi:=⟨some 97,.pick (.tmp 85) (.tmp 96) (.const (.bool false)),4, "ref.go:216",#[⟨8,.data⟩,⟨19,.data⟩],none⟩) (v:=?_) rfl ?_ hHeld ?_;rotate_left 1
       . rintro W ⟨⟨t0,t1,t2⟩,⟨t3,t4,t5⟩⟩;go_simp;try with_reducible rfl
       simp only[Act.put,zIB,zSZ,zSS];refine wpAnyH_done (by kernel_rfl) ?_ _;go_wp2;go_roundw
       case rel=>exact⟨i+1,by omega,by omega,by go_num,HA2.out,HB3.out⟩
       case measure=>simp[intOf];omega
      |true=>
       by_cases him2:i=m
       . have HT:Hid (ans=true):=zA (HCUT.out.2 ⟨i,h1i,by omega,HBB.out.1 rfl,.inl him2⟩);subst him2;go_wp2_with fail;refine wp_region_held_drew (S:=fun u=>(u.cell? ⟨w.heap.size,0,none⟩=some (.int .i64 k)/\u.cell? ⟨w.heap.size,1,none⟩=some (.string ⟨wd.toArray⟩)/\u.cell? ⟨w.heap.size,2,none⟩=some (.slice (some ⟨g,off,none⟩) 1 cap))/\(u.cell? ⟨g,off,none⟩=some (.int .i64 xk)/\u.cell? ⟨g,off+1,none⟩=some (.string ⟨xw.toArray⟩)/\u.cell? ⟨g,off+2,none⟩=some (.slice xa xn xc))) (by kernel_rfl) ?_ (fun hHeld=>?_)
         . exact HC.out _ HDW.out
         refine tkH (i:=0) (oi:=⟨some 77,.fieldAddr 25 (.tmp 2) 2,0, "ref.go:216",#[],none⟩) (v:=?_) rfl ?_ hHeld ?_;rotate_left 1
         . rintro W ⟨⟨t0,t1,t2⟩,⟨t3,t4,t5⟩⟩;go_simp;try with_reducible rfl
         simp only[Act.put,zIB,zSZ,zSS];refine tkH (i:=1) (oi:=⟨some 78,.load 23 (.tmp 77),23, "ref.go:216",#[⟨0,.data⟩],none⟩) (v:=?_) rfl ?_ hHeld ?_;rotate_left 1
         . rintro W ⟨⟨t0,t1,t2⟩,⟨t3,t4,t5⟩⟩;go_simp;try with_reducible rfl
         simp only[Act.put,zIB,zSZ,zSS];refine tkH (i:=2) (oi:=⟨some 79,.indexAddr 23 (.tmp 78) (.const (.int .i64 0)),0, "ref.go:216",#[⟨1,.data⟩],none⟩) (v:=?_) rfl ?_ hHeld ?_;rotate_left 1
         . rintro W ⟨⟨t0,t1,t2⟩,⟨t3,t4,t5⟩⟩;go_simp;try with_reducible rfl
         simp only[Act.put,zIB,zSZ,zSS];refine tkH (i:=3) (oi:=⟨some 80,.load 25 (.tmp 79),25, "ref.go:216",#[⟨2,.data⟩],none⟩) (v:=?_) rfl ?_ hHeld ?_;rotate_left 1
         . rintro W ⟨⟨t0,t1,t2⟩,⟨t3,t4,t5⟩⟩;go_simp;try with_reducible rfl
         simp only[Act.put,zIB,zSZ,zSS];refine tkH (i:=4) (oi:=⟨some 81,.move (.tmp 1),22, "ref.go:216",#[],none⟩) (v:=?_) rfl ?_ hHeld ?_;rotate_left 1
         . rintro W ⟨⟨t0,t1,t2⟩,⟨t3,t4,t5⟩⟩;go_simp;try with_reducible rfl
         simp only[Act.put,zIB,zSZ,zSS];refine tkH (i:=5) (oi:=⟨some 82,.move (.tmp 6),3, "ref.go:216",#[],none⟩) (v:=?_) rfl ?_ hHeld ?_;rotate_left 1
         . rintro W ⟨⟨t0,t1,t2⟩,⟨t3,t4,t5⟩⟩;go_simp;try with_reducible rfl
         simp only[Act.put,zIB,zSZ,zSS];refine tkH (i:=6) (oi:=⟨some 83,.slice 22 (.tmp 81) none (some (.tmp 82)) none,22, "ref.go:216",#[⟨4,.data⟩,⟨5,.data⟩],none⟩) (v:=?_) rfl ?_ hHeld ?_;rotate_left 1
         . rintro W ⟨⟨t0,t1,t2⟩,⟨t3,t4,t5⟩⟩;go_simp;try with_reducible rfl
         simp only[Act.put,zIB,zSZ,zSS];refine wpAnyH_ready (rs:=[7]) (by kernel_rfl) (by simp) ?_;refine AllReadyH.cons (o:=⟨some 84,.call { callee:=.value (.func 10),args:=#[.tmp 80,.tmp 83],argTypes:=#[25,22] },4, "ref.go:216",#[⟨3,.data⟩,⟨6,.data⟩],none⟩) rfl (fun K hK=>?_) AllReadyH.nil;go_simp;refine E1.out.mono ?_;rintro e w3 ⟨rfl,hb3⟩;have HB3:=zA (HDW.out.trans (hb3.mono HDW.out.size));clear hb3;go_wp2_with fail;refine hK.out _ _ (HC.out _ HB3.out) (fun hHeld=>?_);clear hK K;refine tkH (i:=8) (oi:=⟨some 85,.move (.tmp 84),4, "ref.go:216",#[⟨7,.data⟩,⟨7,.chain⟩],none⟩) (v:=?_) rfl ?_ hHeld ?_;rotate_left 1
         . rintro W ⟨⟨t0,t1,t2⟩,⟨t3,t4,t5⟩⟩;go_simp;try with_reducible rfl
         simp only[Act.put,zIB,zSZ,zSS];refine tkH (i:=9) (oi:=⟨some 86,.move (.tmp 6),3, "ref.go:216",#[⟨8,.guard⟩],some (8,true)⟩) (v:=?_) rfl ?_ hHeld ?_;rotate_left 1
         . rintro W ⟨⟨t0,t1,t2⟩,⟨t3,t4,t5⟩⟩;go_simp;try with_reducible rfl
         simp only[Act.put,zIB,zSZ,zSS];refine tkH (i:=10) (oi:=⟨some 87,.move (.tmp 1),22, "ref.go:216",#[⟨8,.guard⟩],some (8,true)⟩) (v:=?_) rfl ?_ hHeld ?_;rotate_left 1
         . rintro W ⟨⟨t0,t1,t2⟩,⟨t3,t4,t5⟩⟩;go_simp;try with_reducible rfl
         simp only[Act.put,zIB,zSZ,zSS];refine tkH (i:=11) (oi:=⟨some 88,.call { callee:=.builtin .len,args:=#[.tmp 87],argTypes:=#[22] },3, "ref.go:216",#[⟨10,.data⟩,⟨8,.guard⟩],some (8,true)⟩) (v:=?_) rfl ?_ hHeld ?_;rotate_left 1
         . rintro W ⟨⟨t0,t1,t2⟩,⟨t3,t4,t5⟩⟩;go_simp;try with_reducible rfl
         simp only[Act.put,zIB,zSZ,zSS];refine tkH (i:=12) (oi:=⟨some 89,.binOp .eql 3 (.tmp 86) (.tmp 88) 3,4, "ref.go:216",#[⟨9,.data⟩,⟨11,.data⟩,⟨8,.guard⟩],some (8,true)⟩) (v:=?_) rfl ?_ hHeld ?_;rotate_left 1
         . rintro W ⟨⟨t0,t1,t2⟩,⟨t3,t4,t5⟩⟩;go_simp;try with_reducible rfl
         simp only[Act.put,zIB,zSZ,zSS];refine tkH (i:=13) (oi:=⟨some 90,.move (.tmp 89),4, "ref.go:216",#[⟨12,.data⟩,⟨8,.chain⟩,⟨8,.guard⟩],some (8,true)⟩) (v:=?_) rfl ?_ hHeld ?_;rotate_left 1
         . rintro W ⟨⟨t0,t1,t2⟩,⟨t3,t4,t5⟩⟩;go_simp;try with_reducible rfl
         simp only[Act.put,zIB,zSZ,zSS];refine wpAnyH_take (i:=14) (oi:=⟨some 91,.load 25 (.tmp 2),25, "ref.go:216",#[⟨13,.guard⟩],some (13,false)⟩) (v:=undef) rfl (by kernel_rfl) (by kernel_rfl) (by kernel_rfl) (fun _ _ _ h=>h) (Or.inr ⟨by rfl,rfl⟩) hHeld ?_;simp only[Act.put,zIB,zSZ,zSS];refine wpAnyH_take (i:=15) (oi:=⟨some 92,.move (.tmp 1),22, "ref.go:216",#[⟨13,.guard⟩],some (13,false)⟩) (v:=undef) rfl (by kernel_rfl) (by kernel_rfl) (by kernel_rfl) (fun _ _ _ h=>h) (Or.inr ⟨by rfl,rfl⟩) hHeld ?_;simp only[Act.put,zIB,zSZ,zSS];refine wpAnyH_take (i:=16) (oi:=⟨some 93,.move (.tmp 6),3, "ref.go:216",#[⟨13,.guard⟩],some (13,false)⟩) (v:=undef) rfl (by kernel_rfl) (by kernel_rfl) (by kernel_rfl) (fun _ _ _ h=>h) (Or.inr ⟨by rfl,rfl⟩) hHeld ?_;simp only[Act.put,zIB,zSZ,zSS];refine wpAnyH_take (i:=17) (oi:=⟨some 94,.slice 22 (.tmp 92) (some (.tmp 93)) none none,22, "ref.go:216",#[⟨15,.data⟩,⟨16,.data⟩,⟨13,.guard⟩],some (13,false)⟩) (v:=undef) rfl (by kernel_rfl) (by kernel_rfl) (by kernel_rfl) (fun _ _ _ h=>h) (Or.inr ⟨by rfl,rfl⟩) hHeld ?_;simp only[Act.put,zIB,zSZ,zSS];refine wpAnyH_take (i:=18) (oi:=⟨some 95,.call { callee:=.value (.func 10),args:=#[.tmp 91,.tmp 94],argTypes:=#[25,22] },4, "ref.go:216",#[⟨14,.data⟩,⟨17,.data⟩,⟨13,.chain⟩,⟨13,.guard⟩],some (13,false)⟩) (v:=undef) rfl (by kernel_rfl) (by kernel_rfl) (by kernel_rfl) (fun _ _ _ h=>h) (Or.inr ⟨by rfl,rfl⟩) hHeld ?_;simp only[Act.put,zIB,zSZ,zSS];refine tkH (i:=19) (oi:=⟨some 96,.pick (.tmp 90) (.const (.bool true)) (.tmp 95),4, "ref.go:216",#[⟨13,.data⟩,⟨18,.data⟩,⟨8,.guard⟩],some (8,true)⟩) (v:=?_) rfl ?_ hHeld ?_;rotate_left 1
         . rintro W ⟨⟨t0,t1,t2⟩,⟨t3,t4,t5⟩⟩;go_simp;try with_reducible rfl
         simp only[Act.put,zIB,zSZ,zSS];refine tkH (i:=20) (oi:=⟨some 97,.pick (.tmp 85) (.tmp 96) (.const (.bool false)),4, "ref.go:216",#[⟨8,.data⟩,⟨19,.data⟩],none⟩) (v:=?_) rfl ?_ hHeld ?_;rotate_left 1
         . rintro W ⟨⟨t0,t1,t2⟩,⟨t3,t4,t5⟩⟩;go_simp;try with_reducible rfl
         simp only[Act.put,zIB,zSZ,zSS];refine wpAnyH_done (by kernel_rfl) ?_ _;go_wp2;go_ret;exact⟨by rw[HT.out];rfl,below_boxQ HB3.out⟩
       . obtain⟨b',hb'⟩:=known_some (oftL k f (L.drop i));have hilt:i<m:=by omega
         have hiltI:(i:Int)<(m:Int):=by omega
         obtain⟨e1,e2⟩:=not_both (a:=(i:Int)) (b:=(m:Int)) (by omega);have hwi:¬wcap=i:=by omega
         have E2:Hid (∀u,Below (w.alloc o).heap.size (w.alloc o) u->Calls Tryz.prog 10 #[.agg #[.int .i64 k,.string ⟨wd.toArray⟩,.slice (some ⟨g,off,none⟩) 1 cap],.slice (Option.map (fun x=>x.add i) wa) (m-i) (wcap-i)] u fun e w'=>e=.returned (.bool b')/\Below u.heap.size u w'):=zA (fun u hu=>by
          have h:=IH.out u i (below_boxQ hu) h1i hilt b' hb';rw[if_neg hwi]at h;exact h)
         have HB':=zA hb';clear hb' him2;cases b' with
         |true=>
          have HT:Hid (ans=true):=zA (HCUT.out.2 ⟨i,h1i,by omega,HBB.out.1 rfl,.inr (HB'.out.1 rfl)⟩);go_wp2_with fail;go_region_held3 (fun u=>(u.cell? ⟨w.heap.size,0,none⟩=some (.int .i64 k)/\u.cell? ⟨w.heap.size,1,none⟩=some (.string ⟨wd.toArray⟩)/\u.cell? ⟨w.heap.size,2,none⟩=some (.slice (some ⟨g,off,none⟩) 1 cap))/\(u.cell? ⟨g,off,none⟩=some (.int .i64 xk)/\u.cell? ⟨g,off+1,none⟩=some (.string ⟨xw.toArray⟩)/\u.cell? ⟨g,off+2,none⟩=some (.slice xa xn xc)))
           (first|with_reducible exact HC.out _ HDW.out|with_reducible exact HC.out _ z4|with_reducible exact HC.out _ z3)
           (first
            |(go_at_call 10;with_reducible refine E1.out.mono ?_;rintro e w3 ⟨rfl,hb3⟩;have z3:=HDW.out.trans (hb3.mono HDW.out.size))
            |(go_at_call 10;with_reducible refine (E2.out _ z3).mono ?_;rintro e w4 ⟨rfl,hb4⟩;have z4:=z3.trans (hb4.mono z3.size)))
          all_goals (
           have Z4:=zA z4;clear hb3 hb4 z3 z4;go_wp2;go_ret;exact⟨by rw[HT.out];rfl,below_boxQ Z4.out⟩)
         |false=>
          have HA2:Hid (∀j,1<=j->j<i+1->¬(f (L.take j)/\(j=m\/oftL k f (L.drop j)))):=zA (fun j g1 g2 h=>by
           by_cases e:j=i
           . subst e;rcases h.2 with h3|h3
             . omega
             . have:=HB'.out.2 h3;cases this
           . exact HAll.out j g1 (by omega) h)
          go_wp2_with fail;go_region_held3 (fun u=>(u.cell? ⟨w.heap.size,0,none⟩=some (.int .i64 k)/\u.cell? ⟨w.heap.size,1,none⟩=some (.string ⟨wd.toArray⟩)/\u.cell? ⟨w.heap.size,2,none⟩=some (.slice (some ⟨g,off,none⟩) 1 cap))/\(u.cell? ⟨g,off,none⟩=some (.int .i64 xk)/\u.cell? ⟨g,off+1,none⟩=some (.string ⟨xw.toArray⟩)/\u.cell? ⟨g,off+2,none⟩=some (.slice xa xn xc)))
           (first|with_reducible exact HC.out _ HDW.out|with_reducible exact HC.out _ z4|with_reducible exact HC.out _ z3)
           (first
            |(go_at_call 10;with_reducible refine E1.out.mono ?_;rintro e w3 ⟨rfl,hb3⟩;have z3:=HDW.out.trans (hb3.mono HDW.out.size))
            |(go_at_call 10;with_reducible refine (E2.out _ z3).mono ?_;rintro e w4 ⟨rfl,hb4⟩;have z4:=z3.trans (hb4.mono z3.size)))
          all_goals (
           have Z4:=zA z4;clear hb3 hb4 z3 z4;go_wp2;go_roundw
           case rel=>exact⟨i+1,by omega,by omega,by go_num,HA2.out,Z4.out⟩
           case measure=>simp[intOf];omega)
    . have hltI:¬(i:Int)<=(m:Int):=by omega
      have HT:Hid (ans=false):=zA (by
       cases ha:ans with
       |false=>rfl
       |true=>
        obtain⟨j,g1,g2,g3⟩:=HCUT.out.1 ha;exact absurd g3 (HAll.out j g1 (by omega)))
      go_wp2;go_ret;exact⟨by rw[HT.out];rfl,below_boxQ HBQ.out⟩
theorem rWill_any{S T:Nat->Prop}:∀(t:Vt) (d:Nat),shapedP d t.pt=true->VCap t->WillC S T t:=by
 apply Vt.ind;intro k wd v l ih d hsh hcap;cases d with
 |zero=>simp[shapedP]at hsh
 |succ d=>
  rw[Vt.pt_mk,shapedP,Bool.and_eq_true,Bool.and_eq_true,yJ,decide_eq_true_eq,zH]at hsh;obtain⟨⟨hfo,h24⟩,hk⟩:=hsh;obtain⟨hc1,hc2⟩:=vcap_mk.1 hcap;have hkids:∀x∈l,WillC S T x:=fun x hx=>ih x hx d (hk x.pt (zU hx)) (hc2 x hx)
  have oft:∀k:Int,k=4\/k=5->∀x,l=[x]->WillC S T ⟨k,wd,v,l⟩:=by
   intro k hk45 x hx;subst hx;intro w wv L h1 h2 h3 h4;have:=rW_oft (v:=v) (wd:=wd) hk45 (hkids x (by simp)) L.length w wv L rfl h1 h2 h3 h4;rw[Vt.pt_mk,List.map_cons,List.map_nil,will_oft hk45];exact this
  rcases formed_cases hfo with⟨rfl,hn,_⟩|⟨rfl,hn⟩|⟨rfl,hn⟩|⟨rfl,hn⟩|⟨rfl,hn⟩|⟨rfl,hn⟩
  . obtain rfl:l=[]:=yG.1 hn;exact rW_word
  . exact rW_seq hkids hc1 (by omega)
  . exact rW_alt hkids
  . obtain⟨x,hx⟩:=List.length_eq_one_iff.1 hn;exact oft 4 (.inl rfl) x hx
  . obtain⟨x,hx⟩:=List.length_eq_one_iff.1 hn;exact oft 5 (.inr rfl) x hx
  . obtain⟨x,rfl⟩:=List.length_eq_one_iff.1 hn;exact rW_maybe (hkids x (by simp))
end Go.Proofs.YtdalcipmpelifaaGreatDoor
