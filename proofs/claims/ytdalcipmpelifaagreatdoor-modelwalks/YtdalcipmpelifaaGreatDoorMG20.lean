/- ARow. -/
import Derived.Test.YtdalcipmpelifaaGreatDoorMG10
import Derived.Deep.RegionWith
set_option maxRecDepth 100000
namespace Go.Proofs.YtdalcipmpelifaaGreatDoor
open Go.RowKit Go.Shelf
theorem cut_words{S:Nat->Prop}{w:World}{wa:Option Addr}{n wcap c i:Nat}{L:List Wd}(h:TxtS S w (.slice wa n wcap) L)(hn:n=L.length)(hi:i<=n)(hc:n<=wcap):TxtS S w (.slice (if wcap=i then wa else Option.map (fun x=>x.add i) wa) (n-i) c) (L.drop i):=by
 by_cases e:wcap=i
 . have h1:L.drop i=[]:=List.drop_eq_nil_iff.2 (by omega);rw[h1,show n-i=0 by omega];exact sl_end _ _
 . rw[if_neg e];rcases L with _|⟨y,L⟩
   . rw[List.drop_nil,show n-i=0 by rw[hn];simp];exact sl_end _ _
   . obtain⟨g,off,rfl,_⟩:=h.get (j:=0) (x:=y) rfl;have:=sl_drop (i:=i) (cap2:=c) h hn;rw[yK]at this;rw[Option.map_some,addA];exact this
theorem cut_kids{S:Nat->Prop}{w:World}{g off m cap c:Nat}{x:Vt}{r:List Vt}(h:SlS csN 3 S w (.slice (some ⟨g,off,none⟩) (m+1) cap) (x::r))(hm:m=r.length)(hc:m+1<=cap):SlS csN 3 S w (.slice (if cap=1 then some ⟨g,off,none⟩else some ⟨g,off+3,none⟩) m c) r:=by
 by_cases e:cap=1
 . have h1:r=[]:=yG.1 (by omega);rw[h1,show m=0 by omega];exact sl_end _ _
 . rw[if_neg e];have:=sl_drop (i:=1) (cap2:=c) h (by rw[hm,yE]);simpa using this
set_option maxHeartbeats 4000000 in
theorem rRow_any{S T:Nat->Prop}:∀(l:List Vt),(∀x∈l,WillC S T x)->∀(w:World) (v wv:Value) (L:List Wd),SlS csN 3 S w v l->CapS v l.length->(∀x∈l,VOk S w x)->TxtS T w wv L->CapS wv L.length->L.length<=1000000->l.length<=1000000->
 Calls Tryz.prog 26 #[v,wv] w fun e w'=>∃b:Bool,e=.returned (.bool b)/\(b=true↔seqL (l.map fun x=>willL x.pt) L)/\Below w.heap.size w w'
 |[],_=>by
  intro w v wv L _ hcap _ _ hwc hL _;obtain⟨ao,cap,rfl,hc⟩:=hcap;obtain⟨wa,wcap,rfl,hc2⟩:=hwc;obtain⟨n,hn⟩:∃n,n=L.length:=⟨_,rfl⟩
  rw[<- hn]at hL ⊢;by_cases h0:n=0
  . have HX:Hid (seqL ([].map fun x:Vt=>willL x.pt) L):=zA (yG.1 (by omega));subst h0;clear hn;go_enter Tryz.func26,Tryz.ntmps26;go_wp2;go_ret;exact⟨true,rfl,⟨fun _=>HX.out,fun _=>rfl⟩,zF _ _⟩
  . have HX:Hid (¬seqL ([].map fun x:Vt=>willL x.pt) L):=zA (fun h=>h0 (by
     have:L=[]:=h;rw[hn,this];rfl))
    obtain⟨e1,e2⟩:=not_both (a:=(n:Int)) (b:=0) (by omega);clear hn;go_enter Tryz.func26,Tryz.ntmps26;go_wp2;go_ret;exact⟨false,rfl,⟨fun h=>(by cases h),fun h=>absurd h HX.out⟩,zF _ _⟩
 |x::r,hI=>by
  intro w v wv L hsl hcap hok htx hwc hL hl;have IH:=zA (rRow_any r (fun y hy=>hI y (zP _ hy)));have HWI:=zA (hI x (zL ..));obtain⟨ao,cap,rfl,hc⟩:=hcap;obtain⟨wa,wcap,rfl,hc2⟩:=hwc;obtain⟨g,off,rfl,_,_,hcell⟩:=hsl.get (j:=0) (x:=x) rfl;rw[Nat.zero_mul,yF]at hcell;obtain⟨ans,hans⟩:=known_some (seqL ((x::r).map fun x=>willL x.pt) L);have HSL:=zA hsl;have HTX:=zA htx;have HOK:=zA hok;have HCELL:=zA hcell;have HANS:=zA hans;obtain⟨n,hn⟩:∃n,n=L.length:=⟨_,rfl⟩
  rw[<- hn]at hL HTX hc2 ⊢;obtain⟨m,hm⟩:∃m,m=r.length:=⟨_,rfl⟩
  rw[yE,<- hm]at HSL hc hl ⊢;have HN:=zA hn;have HM:=zA hm;suffices hgoal:Calls Tryz.prog 26 #[.slice (some ⟨g,off,none⟩) (m+1) cap,.slice wa n wcap] w fun e w'=>e=.returned (.bool ans)/\Below w.heap.size w w' by
   refine hgoal.mono ?_;rintro e w' ⟨rfl,hb⟩;exact⟨ans,rfl,HANS.out,hb⟩
  clear hsl htx hok hcell hans hn hm hI;have hm0:((m:Int)+1==0)=false:=by simp;omega
  have hm1:¬((m:Int)+1=0):=by omega
  go_enter Tryz.func26,Tryz.ntmps26;go_wp2_with fail;go_loopw [5] (fun c wr=>∃i:Nat,i<=n+1/\c=.int .i64 i/\(∀j,j<i->¬(willL x.pt (L.take j)/\seqL (r.map fun x=>willL x.pt) (L.drop j)))/\Below w.heap.size w wr) (fun c _=>n+1-(intOf c).toNat)
  case atStart=>exact⟨0,zS _,rfl,fun j hj=>absurd hj (by omega),zF _ _⟩
  case round=>
   obtain⟨i,hi,rfl,hall,hbq⟩:=hrel;have HAll:=zA hall;have HBQ:=zA hbq;clear hall hbq;by_cases hlt:i<=n
   . have hltI:(i:Int)<=(n:Int):=by omega
     obtain⟨q0,q1,q2⟩:=getN (t:=x) (fun c u hu=>by
      have:=((HSL.out.below HBQ.out).get (j:=0) (x:=x) rfl)
      obtain⟨g',off',e,_,_,hh⟩:=this;injection e with e;injection e with e1 e2;subst e1 e2;have:=hh c u hu;rw[Nat.zero_mul,yF]at this;exact this)
     have HTI:Hid (TxtS T wr (.slice wa i wcap) (L.take i)):=zA (sl_take (HTX.out.below HBQ.out) (by rw[<- HN.out];exact hlt));obtain⟨b1,hb1⟩:=known_some (willL x.pt (L.take i));have HCA:Hid (Calls Tryz.prog 10 #[encN x,.slice wa i wcap] wr.drew fun e w'=>e=.returned (.bool b1)/\Below wr.drew.heap.size wr.drew w'):=zA (Calls.known (HWI.out wr.drew (.slice wa i wcap) (L.take i) ((HOK.out x (zL ..)).below HBQ.out.drew) (HTI.out.below (zF _ _).drew) ⟨wa,wcap,by rw[yL,Nat.min_eq_left (by rw[<- HN.out];exact hlt)],by rw[yL,Nat.min_eq_left (by rw[<- HN.out];exact hlt)];omega⟩ (by rw[yL,Nat.min_eq_left (by rw[<- HN.out];exact hlt)];omega)) hb1);have HB1:=zA hb1;clear hb1;have hiw:i<=wcap:=by omega
     have hiwI:(i:Int)<=(wcap:Int):=by omega
     have hmI:(0:Int)<(m:Int)+1:=by omega
     have HKC:Hid (∀wr,Below w.heap.size w wr->wr.cell? ⟨g,off,none⟩=some (.int .i64 x.kind)/\wr.cell? ⟨g,off+1,none⟩=some (.string ⟨x.word.toArray⟩)/\wr.cell? ⟨g,off+2,none⟩=some x.val):=zA (fun wr hb=>getN (t:=x) (fun c u hu=>by
      obtain⟨g',off',e,_,_,hh⟩:=((HSL.out.below hb).get (j:=0) (x:=x) rfl)
      injection e with e;injection e with e1 e2;subst e1 e2;have:=hh c u hu;rw[Nat.zero_mul,yF]at this;exact this))
     obtain⟨xk,xw,xv,xl⟩:=x;dsimp only at q0 q1 q2 HCA HKC;obtain⟨xa,xc,hxv⟩:=(HOK.out _ (zL ..)).parts.1.slice;obtain⟨xn,hxn⟩:∃n,n=xl.length:=⟨_,rfl⟩
     dsimp only at hxv;rw[<- hxn]at hxv;subst hxv;clear hxn;cases b1 with
     |false=>
      have HA2:Hid (∀j,j<i+1->¬(willL (Vt.pt ⟨xk,xw,.slice xa xn xc,xl⟩) (L.take j)/\seqL (r.map fun x=>willL x.pt) (L.drop j))):=zA (fun j hj h=>by
       by_cases e:j=i
       . subst e;exact absurd (HB1.out.2 h.1) (by decide)
       . exact HAll.out j (by omega) h)
      go_wp2_with fail;first|(go_region_law (go_simp;refine HCA.out.mono ?_;rintro e w3 ⟨rfl,hb3⟩))|fail
      all_goals (
       have HB3:=zA (HBQ.out.drew.trans (hb3.mono HBQ.out.size));clear hb3;go_wp2;go_roundw
       case rel=>exact⟨i+1,by omega,by go_num,HA2.out,HB3.out⟩
       case measure=>simp[intOf];omega)
     |true=>
      have h1c:(1:Int)<=(cap:Int):=by omega
      have h1m:(1:Int)<=(m:Int)+1:=by omega
      have hmc:(m:Int)+1<=(cap:Int):=by omega
      have hnw:(n:Int)<=(wcap:Int):=by omega
      obtain⟨b2,hb2⟩:=known_some (seqL (r.map fun x=>willL x.pt) (L.drop i));have HCB:Hid (∀w3,Below w.heap.size w w3->Calls Tryz.prog 26 #[.slice (if cap=1 then some ⟨g,off,none⟩else some ⟨g,off+3,none⟩) m (cap-1),.slice (if wcap=i then wa else Option.map (fun x=>x.add i) wa) (n-i) (wcap-i)] w3 fun e w'=>e=.returned (.bool b2)/\Below w3.heap.size w3 w'):=zA (fun w3 hb=>Calls.known (IH.out w3 _ _ (L.drop i) (cut_kids (HSL.out.below hb) HM.out hc) ⟨_,cap-1,by rw[HM.out],by have:=HM.out;omega⟩ (fun y hy=>(HOK.out y (zP _ hy)).below hb) (cut_words (HTX.out.below hb) HN.out hlt hc2) ⟨_,wcap-i,by rw[List.length_drop,HN.out],by rw[List.length_drop,<- HN.out];omega⟩ (by rw[List.length_drop,<- HN.out];omega) (by rw[<- HM.out];omega)) hb2);have HB2:=zA hb2;clear hb2;cases b2 with
      |true=>
       have HT:Hid (ans=true):=zA (HANS.out.2 (by
        rw[List.map_cons,seq_cut];exact⟨i,by rw[<- HN.out];exact hlt,HB1.out.1 rfl,HB2.out.1 rfl⟩))
       go_wp2_with fail;first|(go_region_law (first|(go_simp;refine HCA.out.mono ?_;rintro e w3 ⟨rfl,hb3⟩;have hb3w:=HBQ.out.drew.trans (hb3.mono HBQ.out.size))|(go_simp;refine(HCB.out w3 hb3w).mono ?_;rintro e w4 ⟨rfl,hb4⟩)))|fail
       all_goals (
        have HB4:=zA (hb3w.trans (hb4.mono hb3w.size));clear hb3 hb3w hb4;go_wp2;all_goals (
         go_ret;exact⟨by rw[HT.out];rfl,HB4.out⟩))
      |false=>
       have HA2:Hid (∀j,j<i+1->¬(willL (Vt.pt ⟨xk,xw,.slice xa xn xc,xl⟩) (L.take j)/\seqL (r.map fun x=>willL x.pt) (L.drop j))):=zA (fun j hj h=>by
        by_cases e:j=i
        . subst e;exact absurd (HB2.out.2 h.2) (by decide)
        . exact HAll.out j (by omega) h)
       go_wp2_with fail;first|(go_region_law (first|(go_simp;refine HCA.out.mono ?_;rintro e w3 ⟨rfl,hb3⟩;have hb3w:=HBQ.out.drew.trans (hb3.mono HBQ.out.size))|(go_simp;refine(HCB.out w3 hb3w).mono ?_;rintro e w4 ⟨rfl,hb4⟩)))|fail
       all_goals (
        have HB4:=zA (hb3w.trans (hb4.mono hb3w.size));clear hb3 hb3w hb4;go_wp2;go_roundw
        case rel=>exact⟨i+1,by omega,by go_num,HA2.out,HB4.out⟩
        case measure=>simp[intOf];omega)
   . have hltI:¬(i:Int)<=(n:Int):=by omega
     have HF:Hid (ans=false):=zA (by
      cases ha:ans with
      |false=>rfl
      |true=>
       have h1:=HANS.out.1 ha;rw[List.map_cons,seq_cut]at h1;obtain⟨j,hj,h2,h3⟩:=h1;rw[<- HN.out]at hj;exact absurd ⟨h2,h3⟩ (HAll.out j (by omega)))
     go_wp2;go_ret;exact⟨by rw[HF.out];rfl,HBQ.out⟩
end Go.Proofs.YtdalcipmpelifaaGreatDoor
