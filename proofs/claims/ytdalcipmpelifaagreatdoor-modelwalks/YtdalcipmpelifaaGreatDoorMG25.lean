/- BAuto. -/
import Derived.Test.YtdalcipmpelifaaGreatDoorMG23
set_option maxRecDepth 100000
namespace Go.Proofs.YtdalcipmpelifaaGreatDoor
open Go.RowKit
theorem infoInts:(Tryz.prog.info? 56).map (fun i=>(i.zero,i.size,i.bytes))=some (some (.slice none 0 0),1,24):=by kernel_rfl
theorem five_cells{w:World}{b:Nat}{c0 c1 c2 c3 c4:Value}{t:TypeId}(h:w.heap[b]?=some (.cells #[c0,c1,c2,c3,c4] t (0,0))):
 (w.cell? ⟨b,0,none⟩=some c0/\w.cell? ⟨b,1,none⟩=some c1/\w.cell? ⟨b,2,none⟩=some c2/\w.cell? ⟨b,3,none⟩=some c3/\w.cell? ⟨b,4,none⟩=some c4)/\
 (w.frozen? ⟨b,0,none⟩=false/\w.frozen? ⟨b,1,none⟩=false/\w.frozen? ⟨b,2,none⟩=false/\w.frozen? ⟨b,3,none⟩=false/\w.frozen? ⟨b,4,none⟩=false):=by
 simp[World.cell?,World.frozen?,h]
def set5P(w:World)(b:Nat)(c0 c1 c2 c3 c4:Value):World:=((((w.setCell ⟨b,0,none⟩ c0).setCell ⟨b,1,none⟩ c1).setCell ⟨b,2,none⟩ c2).setCell ⟨b,3,none⟩ c3).setCell ⟨b,4,none⟩ c4
theorem set5P_at{w:World}{b:Nat}{x0 x1 x2 x3 x4 c0 c1 c2 c3 c4:Value}{t:TypeId}(h:w.heap[b]?=some (.cells #[x0,x1,x2,x3,x4] t (0,0))):(set5P w b c0 c1 c2 c3 c4).heap[b]?=some (.cells #[c0,c1,c2,c3,c4] t (0,0)):=by
 simp[set5P,World.setCell,Array.getElem?_modify,h]
theorem set5P_other{w:World}{b k:Nat}(h:k≠b)(c0 c1 c2 c3 c4:Value):(set5P w b c0 c1 c2 c3 c4).heap[k]?=w.heap[k]?:=by
 unfold set5P;rw[zM _ _ _ _ (by exact h),zM _ _ _ _ (by exact h),zM _ _ _ _ (by exact h),zM _ _ _ _ (by exact h),zM _ _ _ _ (by exact h)]
theorem Below.set5P{B:Nat}{a w:World}{b:Nat}(h:Below B a w)(hb:B<=b)(c0 c1 c2 c3 c4:Value):Below B a (set5P w b c0 c1 c2 c3 c4):=((((h.setCell (p:=⟨b,0,none⟩) hb c0).setCell (p:=⟨b,1,none⟩) hb c1).setCell (p:=⟨b,2,none⟩) hb c2).setCell (p:=⟨b,3,none⟩) hb c3).setCell (p:=⟨b,4,none⟩) hb c4
theorem set5P_size(w:World)(b:Nat)(c0 c1 c2 c3 c4:Value):(set5P w b c0 c1 c2 c3 c4).heap.size=w.heap.size:=by simp[set5P]
theorem set3_at5{w:World}{b:Nat}{c0 c1 c2 c3 c4 v:Value}{t:TypeId}(h:w.heap[b]?=some (.cells #[c0,c1,c2,c3,c4] t (0,0))):(w.setCell ⟨b,3,none⟩ v).heap[b]?=some (.cells #[c0,c1,c2,v,c4] t (0,0)):=by simp[World.setCell,Array.getElem?_modify,h]
theorem au_mk{ws:List Wd}{a b a' b':List Int}{c c':List (List Int)}{e:Bool}(h1:a=a')(h2:b=b')(h3:c=c'):(⟨ws,a,b,c,e⟩:Au)=⟨ws,a',b',c',e⟩:=by rw[h1,h2,h3]
def Oth(lo ab:Nat)(u:Value):Nat->Prop:=fun g=>lo<=g/\g≠ab/\u.ownBlock≠some g
set_option maxHeartbeats 40000000 in
theorem auto_any{S:Nat->Prop}{w:World}{mb kb:Nat}{ws:List Wd}{F:Nat->Nat}{wv:Value}{ps:List (Nat×Nat)}{f l:Nat}{A B:List Nat}{em:Bool}(hS:Low S w)(hm:MkAt S w mb kb ws F wv)(hf:FolOf F ps)(ha:BitsOf f A)(hb:BitsOf l B)(hn24:ws.length<=24)
 (hA:∀i∈A,i<ws.length) (hB:∀i∈B,i<ws.length) (hP:∀p∈ps,p.2<ws.length) (hwb:∀s∈ws,s.length<=1000) (lo:Nat) (hlo:∀g,wv.ownBlock=some g->lo<=g) (hlw:lo<=w.heap.size):
 Calls Tryz.prog 36 #[.pointer (some ⟨mb,0,none⟩),ptV f l em] w fun e w'=>∃m:Mu,e=.returned (encU m)/\UOk (fun g=>lo<=g) w' m/\m.au=⟨ws,rise ws.length A,rise ws.length B,(List.range ws.length).map (fun k=>rise ws.length (folN ps k)),em⟩/\Below w.heap.size w w':=by
 obtain⟨i0,hi0,hz0,hz1,hz2⟩:=info_parts infoInts;obtain⟨wa,wc,hwv⟩:=own_slice hm.row;subst hwv;obtain⟨n,hn⟩:∃n,n=ws.length:=⟨_,rfl⟩
 obtain⟨W1,hW1⟩:∃W,W=(w.alloc (.cells #[.int .u32 (f:Int),.int .u32 (l:Int),.bool em] 87)).alloc (.cells #[.slice none 0 0,.slice none 0 0,.slice none 0 0,.slice none 0 0,.bool false] 59):=⟨_,rfl⟩
 have hbW:Below w.heap.size w W1:=by rw[hW1];exact((zF _ _).alloc (zD _) _).alloc (by simp) _
 have hsz:W1.heap.size=w.heap.size+2:=by rw[hW1];simp
 have hm1:=hm.below hS hbW;have q0:=hm1.c0;rw[<- hn]at q0;obtain⟨b0,b1,b2⟩:W1.cell? ⟨w.heap.size,0,none⟩=some (.int .u32 (f:Int))/\W1.cell? ⟨w.heap.size,1,none⟩=some (.int .u32 (l:Int))/\W1.cell? ⟨w.heap.size,2,none⟩=some (.bool em):=by rw[hW1];simp
 have hmlt:mb<W1.heap.size:=hm1.lt;have hnlt:w.heap.size<W1.heap.size:=by omega
 have KC:Hid (∀u,Below W1.heap.size W1 u->u.cell? ⟨mb,0,none⟩=some (.slice wa n wc)/\u.cell? ⟨w.heap.size,0,none⟩=some (.int .u32 (f:Int))/\u.cell? ⟨w.heap.size,1,none⟩=some (.int .u32 (l:Int))/\u.cell? ⟨w.heap.size,2,none⟩=some (.bool em)):=zA (fun u hu=>⟨(hu.cell (p:=⟨mb,0,none⟩) hmlt).trans q0,(hu.cell (p:=⟨w.heap.size,0,none⟩) hnlt).trans b0,(hu.cell (p:=⟨w.heap.size,1,none⟩) hnlt).trans b1,(hu.cell (p:=⟨w.heap.size,2,none⟩) hnlt).trans b2⟩);have HPA:Hid (Below W1.heap.size W1 W1.drew):=zA (zF _ _).drew;have HPB:Hid (Below W1.heap.size W1 (W1.alloc (.cells #[.slice none 0 0,.slice none 0 0,.slice none 0 0,.slice none 0 0,.bool false] 59)).drew):=zA (((zF _ _).alloc (zD _) _).drew);have HZB:Hid ((W1.alloc (.cells #[.slice none 0 0,.slice none 0 0,.slice none 0 0,.slice none 0 0,.bool false] 59)).drew.heap[W1.heap.size]?=some (.cells #[.slice none 0 0,.slice none 0 0,.slice none 0 0,.slice none 0 0,.bool false] 59 (0,0))):=zA (heap_alloc_new W1 _);have CFA:=zA (list_any f W1.drew ha.1);have CFB:=zA (list_any f (W1.alloc (.cells #[.slice none 0 0,.slice none 0 0,.slice none 0 0,.slice none 0 0,.bool false] 59)).drew ha.1);have CL:=zA (fun u=>list_any l u hb.1);have HN:=zA hn;have HMW:=zA hm;have HW1:=zA hW1;rw[<- hn];have HSZ:=zA hsz;have HBW:=zA hbW;have HN24:Hid (n<=24):=zA (by rw[hn];exact hn24);have HFO:=zA hf;have HAB:=zA (And.intro ha hb);have HAL:=zA (And.intro hA (And.intro hB hP));have HWB:=zA hwb;have HLO:Hid (∀g,(Value.slice wa ws.length wc).ownBlock=some g->lo<=g):=zA hlo;clear hbW hf hb hA hB hP hwb hn24 hlo;clear hm hm1 hW1 hn hsz;show Calls Tryz.prog _ #[_,.agg #[.int .u32 (f:Int),.int .u32 (l:Int),.bool em]] w _;go_enter Tryz.func36,Tryz.ntmps36;go_wp2_with fail;rw[<- HW1.out];go_region_held3 (fun u=>u.cell? ⟨mb,0,none⟩=some (.slice wa n wc)/\u.cell? ⟨w.heap.size,0,none⟩=some (.int .u32 (f:Int))/\u.cell? ⟨w.heap.size,1,none⟩=some (.int .u32 (l:Int))/\u.cell? ⟨w.heap.size,2,none⟩=some (.bool em))
  (first|with_reducible exact KC.out _ HPA.out|with_reducible exact KC.out _ HPB.out|with_reducible exact KC.out _ hp3|with_reducible exact KC.out _ (hp3.alloc hp3.size _)|with_reducible exact KC.out _ hp2|with_reducible exact KC.out _ (hp2.alloc hp2.size _)|with_reducible exact KC.out _ (((((hp3.setCell (p:=⟨_,0,none⟩) hbz3 _).setCell (p:=⟨_,1,none⟩) hbz3 _).setCell (p:=⟨_,2,none⟩) hbz3 _).setCell (p:=⟨_,3,none⟩) hbz3 _).setCell (p:=⟨_,4,none⟩) hbz3 _))
  (first
   |(go_at_call 61;with_reducible refine CFB.out.mono ?_;rintro e w2 ⟨v2,rfl,ho2,hb2⟩;obtain⟨a2,k2,hv2⟩:=own_slice ho2;subst hv2;have hp2:=HPB.out.trans (hb2.mono HPB.out.size);have hz2:=(hb2.block W1.heap.size (by simp)).trans HZB.out;have hne2:=(ho2.lt);have hq2:=hz2)
   |(go_at_call 61;with_reducible refine CFA.out.mono ?_;rintro e w2 ⟨v2,rfl,ho2,hb2⟩;obtain⟨a2,k2,hv2⟩:=own_slice ho2;subst hv2;have hp2:=HPA.out.trans (hb2.mono HPA.out.size))
   |(go_at_call 61;with_reducible refine (CL.out (w2.alloc (.cells #[.slice none 0 0,.slice none 0 0,.slice none 0 0,.slice none 0 0,.bool false] 59))).mono ?_;rintro e w3 ⟨v3,rfl,ho3,hb3⟩;obtain⟨a3,k3,hv3⟩:=own_slice ho3;subst hv3;have hp3:=(hp2.alloc hp2.size _).trans (hb3.mono (hp2.alloc hp2.size _).size);have hz3:=(hb3.block w2.heap.size (by simp)).trans (heap_alloc_new w2 _);have hbz3:W1.heap.size<=w2.heap.size:=hp2.size;obtain⟨⟨g0,g1,g2,g3,g4⟩,⟨h0,h1,h2,h3,h4⟩⟩:=five_cells hz3)
   |(go_at_call 61;with_reducible refine (CL.out w2).mono ?_;rintro e w3 ⟨v3,rfl,ho3,hb3⟩;obtain⟨a3,k3,hv3⟩:=own_slice ho3;subst hv3;have hp3:=hp2.trans (hb3.mono hp2.size);have hz3:=(hb3.block W1.heap.size (lt_of_block hq2)).trans hq2;have hbz3:W1.heap.size<=W1.heap.size:=zD _;obtain⟨⟨g0,g1,g2,g3,g4⟩,⟨h0,h1,h2,h3,h4⟩⟩:=five_cells hz3)
   |(go_at_call 61;with_reducible refine (CL.out w2).mono ?_;rintro e w3 ⟨v3,rfl,ho3,hb3⟩;obtain⟨a3,k3,hv3⟩:=own_slice ho3;subst hv3;have hp3:=hp2.trans (hb3.mono hp2.size)))
 . obtain⟨W,ab,hWW,habb,KA,KB,KC1,KV2,KV3⟩:∃(W:World) (ab:Nat),w3.alloc (.cells #[.slice wa n wc,.slice a2 (listN 24 f).length k2,.slice a3 (listN 24 l).length k3,.slice none 0 0,.bool em] 59)=W/\w3.heap.size=ab/\W.heap[ab]?=some (.cells #[.slice wa n wc,.slice a2 (listN 24 f).length k2,.slice a3 (listN 24 l).length k3,.slice none 0 0,.bool em] 59 (0,0))/\Below W1.heap.size W1 W/\W1.heap.size<=ab/\IntZ (Oth W1.heap.size ab (.slice none 0 0)) W (.slice a2 (listN 24 f).length k2) (listN 24 f)/\IntZ (Oth W1.heap.size ab (.slice none 0 0)) W (.slice a3 (listN 24 l).length k3) (listN 24 l):=by
    refine⟨_,_,rfl,rfl,heap_alloc_new _ _,hp3.alloc hp3.size _,hp3.size,?_,?_⟩
    . exact((own_sl csZ_len ho2 rfl).below hb3).keep (by simp) (fun b hb hlt=>⟨⟨zQ HPA.out.size (ho2.lt b hb).1,by omega,by simp[Value.ownBlock]⟩,heap_alloc_old _ _ hlt⟩)
    . exact(own_sl csZ_len ho3 rfl).keep (by simp) (fun b hb hlt=>⟨⟨zQ hp2.size (ho3.lt b hb).1,by omega,by simp[Value.ownBlock]⟩,heap_alloc_old _ _ hlt⟩)
   rw[hWW];simp only[habb];have HWn:Hid (W1.heap.size=w.heap.size+2):=HSZ;clear hWW habb;clear ho2 hb2 ho3 hb3 hp2 hp3;have HKA:=zA KA;have HKB:=zA KB;have HKV2:=zA KV2;have HKV3:=zA KV3;have hm3:=HMW.out.below hS ((show Below w.heap.size w W1 from HBW.out).trans (KB.mono HBW.out.size));have q9:=hm3.c0;rw[<- HN.out]at q9;obtain⟨⟨c0,c1,c2,c3,c4⟩,_⟩:=five_cells KA;have HM3:=zA hm3;clear KA KB KV2 KV3 hm3;obtain⟨v2,hv2⟩:∃v,v=Value.slice a2 (listN 24 f).length k2:=⟨_,rfl⟩
   obtain⟨v3,hv3⟩:∃v,v=Value.slice a3 (listN 24 l).length k3:=⟨_,rfl⟩
   rw[<- hv2]at HKV2;rw[<- hv3]at HKV3;have HV2:=zA hv2;have HV3:=zA hv3;go_wp2_with fail;go_loopw [25] (fun c wr=>∃(i:Nat) (u:Value) (os:List (Value×List Int)),i<=n/\c=.int .i64 i/\wr.heap[ab]?=some (.cells #[.slice wa n wc,.slice a2 (listN 24 f).length k2,.slice a3 (listN 24 l).length k3,u,.bool em] 59 (0,0))/\os.length=i/\wr.ownsRow W1.heap.size 56 1 u os.length (os.flatMap csW)/\(∀g,u.ownBlock=some g->g≠ab)/\(∀(j:Nat) p,os[j]?=some p->p.2=listN 24 (F j)/\IntZ (Oth W1.heap.size ab u) wr p.1 p.2)/\IntZ (Oth W1.heap.size ab u) wr v2 (listN 24 f)/\IntZ (Oth W1.heap.size ab u) wr v3 (listN 24 l)/\Below W1.heap.size W1 wr) (fun c _=>n-(intOf c).toNat)
   case atStart=>exact⟨0,.slice none 0 0,[],zS _,rfl,HKA.out,rfl,World.ownsRow_nil _ _ _ _,by simp[Value.ownBlock],by simp,HKV2.out,HKV3.out,HKB.out⟩
   case round=>
    clear c0 c1 c2 c3 c4 q9;obtain⟨i,u,os,hi,rfl,ka,hol,hrow,hno,hall,kv2,kv3,kb1⟩:=hrel;obtain⟨ua,uc,hu⟩:=own_slice hrow;rw[hol]at hu;subst hu;have hm4:=HMW.out.below hS ((show Below w.heap.size w W1 from HBW.out).trans (kb1.mono HBW.out.size));obtain⟨⟨c0,c1,c2,c3,c4⟩,⟨y0,y1,y2,y3,y4⟩⟩:=five_cells ka;have habl:=lt_of_block ka;have HKA2:=zA ka;have HOL:=zA hol;have HROW:=zA hrow;have HNO:=zA hno;have HALL:=zA hall;have HKV2b:=zA kv2;have HKV3b:=zA kv3;have HKB1:=zA kb1;by_cases hlt:i<n
    . have hltI:(i:Int)<(n:Int):=by omega
      have hi24:i<24:=by have:=HN24.out;omega
      have hi24I:(i:Int)<24:=by omega
      obtain⟨p0,_⟩:=hm4.fol i hi24;have hFi:=(HFO.out i hi24).1;have C:=zA (list_any (F i) wr.drew hFi);obtain⟨Fi,hFie⟩:∃x,x=F i:=⟨_,rfl⟩
      rw[<- hFie]at p0 hFi C;have HFI:=zA hFie;have hrow2:=hrow;rw[hol]at hrow2;have HROW2:=zA hrow2;have hsB:W1.heap.size<=wr.heap.size:=kb1.size;clear ka hol hrow hno hall kv2 kv3 kb1 hm4 hFie hrow2 c0 c1 c2 c4 y0 y1 y2 y4;go_wp2_with fail;go_region_law (first
       |(go_simp;refine C.out.mono ?_;rintro e w5 ⟨v5,rfl,ho5,hb5⟩;obtain⟨a5,k5,hv5⟩:=own_slice ho5;subst hv5;have c35:=(hb5.cell (p:=⟨ab,3,none⟩) habl).trans c3;have y35:=(hb5.frozen (p:=⟨ab,3,none⟩) habl).trans y3;have habl5:ab<w5.heap.size:=zO habl hb5.size)
       |(refine step_append_lies _ (by rfl) _ _ _ (by rfl) W1.heap.size 56 i0 _ 1 24 Tryz.underlying57 hi0 hz0 hz1 hz2 rfl (by decide) (.slice ua i uc) _ _ (by rfl) ((owns_below HROW2.out.drew hb5).alloc _) ⟨w5.heap.size,0,none⟩ 1 1 [.slice a5 (listN 24 Fi).length k5] (by rfl) (by rfl) (World.news_of_block (cs:=#[.slice a5 (listN 24 Fi).length k5]) (t:=56) (fr:=(0,0)) (heap_alloc_new w5 _)) (by simp[Value.oneCell']) (by decide) (by unfold maxLen;omega) (by omega) (by have:=hb5.size;simp at this ⊢;omega) (w5.heap.size+1) (by simp) ?_;intro gg cap2 w9 hown9 hgrow9 hat9 hlt9;have hh9:=grown_at hgrow9 habl5 (fun e=>HNO.out _ (by cases ua<;>exact e) rfl);have q09:=cell_of hh9 c35;have q19:=froz_of hh9 y35))
      all_goals (
       have hK:∀b,b<w5.heap.size->b≠ab->(Value.slice ua i uc).ownBlock≠some b->(W1.heap.size<=b->Oth W1.heap.size ab (.slice (some ⟨gg,0,none⟩) (i+1) cap2) b)/\(w9.setCell ⟨ab,3,none⟩ (.slice (some ⟨gg,0,none⟩) (i+1) cap2)).heap[b]?=w5.heap[b]?:=fun b hlb hba hbu=>by
        refine⟨fun hlo=>⟨hlo,hba,fun e=>?_⟩,?_⟩
        . have e2:gg=b:=by simpa[Value.ownBlock]using e
          rcases hat9 with h|h
          . exact hbu (by rw[h,e2])
          . omega
        . rw[zM _ _ _ _ (by exact hba)];exact grown_at hgrow9 hlb hbu
       have hsz5:wr.heap.size<=w5.heap.size:=hb5.size;have hsz9:w5.heap.size<=w9.heap.size:=by have:=hgrow9.size;simp at this;omega
       have hkeep:∀ {v:Value} {L:List Int},IntZ (Oth W1.heap.size ab (.slice ua i uc)) wr v L->IntZ (Oth W1.heap.size ab (.slice (some ⟨gg,0,none⟩) (i+1) cap2)) (w9.setCell ⟨ab,3,none⟩ (.slice (some ⟨gg,0,none⟩) (i+1) cap2)) v L:=fun h=>by
        refine h.keep (by simp;omega) (fun b hb hlb=>⟨(hK b (by omega) hb.2.1 hb.2.2).1 hb.1,(hK b (by omega) hb.2.1 hb.2.2).2.trans (hb5.block b hlb)⟩)
       have HR:Hid (∃(u:Value) (os2:List (Value×List Int)),Value.slice (some ⟨gg,0,none⟩) (i+1) cap2=u/\(w9.setCell ⟨ab,3,none⟩ (.slice (some ⟨gg,0,none⟩) (i+1) cap2)).heap[ab]?=some (.cells #[.slice wa n wc,.slice a2 (listN 24 f).length k2,.slice a3 (listN 24 l).length k3,u,.bool em] 59 (0,0))/\os2.length=i+1/\(w9.setCell ⟨ab,3,none⟩ (.slice (some ⟨gg,0,none⟩) (i+1) cap2)).ownsRow W1.heap.size 56 1 u os2.length (os2.flatMap csW)/\(∀g,u.ownBlock=some g->g≠ab)/\(∀(j:Nat) p,os2[j]?=some p->p.2=listN 24 (F j)/\IntZ (Oth W1.heap.size ab u) (w9.setCell ⟨ab,3,none⟩ (.slice (some ⟨gg,0,none⟩) (i+1) cap2)) p.1 p.2)/\IntZ (Oth W1.heap.size ab u) (w9.setCell ⟨ab,3,none⟩ (.slice (some ⟨gg,0,none⟩) (i+1) cap2)) v2 (listN 24 f)/\IntZ (Oth W1.heap.size ab u) (w9.setCell ⟨ab,3,none⟩ (.slice (some ⟨gg,0,none⟩) (i+1) cap2)) v3 (listN 24 l)/\Below W1.heap.size W1 (w9.setCell ⟨ab,3,none⟩ (.slice (some ⟨gg,0,none⟩) (i+1) cap2))):=zA (by
        have hgne:gg≠ab:=by
         rcases hat9 with h|h
         . exact HNO.out gg (by cases ua<;>exact h)
         . omega
        refine⟨_,os++[(.slice a5 (listN 24 Fi).length k5,listN 24 Fi)],rfl,?_,by rw[zG,HOL.out];rfl,?_,fun g hg=>?_,fun j p hp=>?_,hkeep HKV2b.out,hkeep HKV3b.out,?_⟩
        . refine set3_at5 (t:=59) (c3:=.slice ua i uc) ?_;rw[hh9,hb5.block ab habl];exact HKA2.out
        . rw[zG,HOL.out,zY];refine owns_key (w:=w9) (by simpa[csW]using hown9) (fun g o hg ho=>(zM _ _ _ _ (by
           have e2:gg=g:=by simpa[Value.ownBlock]using hg
           exact e2▸hgne)).trans ho)
        . have e2:gg=g:=by simpa[Value.ownBlock]using hg
          exact e2▸hgne
        . by_cases hj:j<os.length
          . rw[yH hj]at hp;have:=HALL.out j p hp;exact⟨this.1,hkeep this.2⟩
          . rw[yM (by omega)]at hp;have hj0:j-os.length=0:=by
             have:=(zE.1 hp).1;simp at this;omega
            rw[hj0]at hp;simp at hp;subst hp;have hji:j=i:=by have:=HOL.out;omega
            refine⟨by rw[HFI.out,hji],?_⟩;exact(own_sl csZ_len ho5 rfl).keep (by simp;omega) (fun b hb hlb=>by
             have hb2:wr.heap.size<=b:=(ho5.lt b hb).1;have hbu:(Value.slice ua i uc).ownBlock≠some b:=fun e=>by
              have:b<wr.heap.size:=(HROW2.out.lt b e).2;omega
             exact⟨(hK b hlb (by omega) hbu).1 (by omega),(hK b hlb (by omega) hbu).2⟩)
        . have hB5:Below W1.heap.size W1 w5:=HKB1.out.drew.trans (hb5.mono hsB);have hB9:Below W1.heap.size W1 w9:=(hB5.alloc hB5.size _).grown hgrow9 (by simp;omega) (fun k e=>(HROW2.out.lt k e).1);exact hB9.setCell (p:=⟨ab,3,none⟩) KC1 _)
       clear hK hkeep hown9 hgrow9 hat9 hlt9 hh9 q09 q19 ho5 hb5 c35 y35;go_wp2;go_roundw
       case rel=>
        obtain⟨u,os2,_,r1,r2,r3,r4,r5,r6,r7,r8⟩:=HR.out;exact⟨i+1,u,os2,by omega,by go_num,r1,r2,r3,r4,r5,r6,r7,r8⟩
       case measure=>simp[intOf];omega)
    . have hltI:¬(i:Int)<(n:Int):=by omega
      have hin:i=n:=by omega
      have e1:wr.heap[w.heap.size+1]?=some (.cells #[.slice none 0 0,.slice none 0 0,.slice none 0 0,.slice none 0 0,.bool false] 59 (0,0)):=by
       rw[kb1.block (w.heap.size+1) (by have:=HSZ.out;omega),HW1.out];exact(by simpa using heap_alloc_new (w.alloc (.cells #[.int .u32 (f:Int),.int .u32 (l:Int),.bool em] 87)) _)
      obtain⟨⟨r0,r1,r2,r3,r4⟩,⟨x0,x1,x2,x3,x4⟩⟩:=five_cells e1;obtain⟨⟨z0,z1,z2,z3,z4⟩,_⟩:=five_cells (set5P_at (c0:=.slice wa n wc) (c1:=.slice a2 (listN 24 f).length k2) (c2:=.slice a3 (listN 24 l).length k3) (c3:=.slice ua i uc) (c4:=.bool em) e1);have hE:∃m:Mu,(Value.agg #[.slice wa n wc,.slice a2 (listN 24 f).length k2,.slice a3 (listN 24 l).length k3,.slice ua i uc,.bool em]:Value)=encU m/\UOk (fun g=>lo<=g) (set5P wr (w.heap.size+1) (.slice wa n wc) (.slice a2 (listN 24 f).length k2) (.slice a3 (listN 24 l).length k3) (.slice ua i uc) (.bool em)) m/\m.au=⟨ws,rise n A,rise n B,(List.range n).map (fun k=>rise n (folN ps k)),em⟩/\Below w.heap.size w (set5P wr (w.heap.size+1) (.slice wa n wc) (.slice a2 (listN 24 f).length k2) (.slice a3 (listN 24 l).length k3) (.slice ua i uc) (.bool em)):=by
       have hk5:∀b,lo<=b->b≠w.heap.size+1->lo<=b/\(set5P wr (w.heap.size+1) (.slice wa n wc) (.slice a2 (listN 24 f).length k2) (.slice a3 (listN 24 l).length k3) (.slice ua i uc) (.bool em)).heap[b]?=wr.heap[b]?:=fun b hbl hb=>⟨hbl,set5P_other hb _ _ _ _ _⟩
       have hsz5:wr.heap.size<=(set5P wr (w.heap.size+1) (.slice wa n wc) (.slice a2 (listN 24 f).length k2) (.slice a3 (listN 24 l).length k3) (.slice ua i uc) (.bool em)).heap.size:=by rw[set5P_size];exact zD _
       have hsW:=HSZ.out;have hL2:=listN_len 24 f;have hL3:=listN_len 24 l;have hN24:=HN24.out;have hwsl:ws.length<=24:=by rw[<- HN.out];exact hN24
       refine⟨⟨.slice wa n wc,ws,.slice a2 (listN 24 f).length k2,listN 24 f,.slice a3 (listN 24 l).length k3,listN 24 l,.slice ua i uc,os,em⟩,rfl,⟨?_,?_,by dsimp only;omega,?_,by dsimp only;omega,?_,by dsimp only;omega,?_,?_,by dsimp only;rw[HOL.out];omega⟩,?_,?_⟩
       . have:=(own_sl (enc:=csT) (k:=1) (fun _=>rfl) hm4.row rfl).keep (T:=fun g=>lo<=g) hsz5 (fun b hb _=>hk5 b (HLO.out b (by cases wa<;>exact hb)) (by have:=(HMW.out.row.lt b hb).2;omega));rw[<- HN.out]at this;exact this
       . intro s hs;have:=HWB.out s hs;omega
       . have:=HKV2b.out.keep (T:=fun g=>lo<=g) hsz5 (fun b hb _=>hk5 b (by have:=hb.1;omega) (by have:=hb.1;omega));rw[HV2.out]at this;exact this
       . have:=HKV3b.out.keep (T:=fun g=>lo<=g) hsz5 (fun b hb _=>hk5 b (by have:=hb.1;omega) (by have:=hb.1;omega));rw[HV3.out]at this;exact this
       . have:=(own_sl (enc:=csW) (k:=1) (fun _=>rfl) HROW.out rfl).keep (T:=fun g=>lo<=g) hsz5 (fun b hb _=>hk5 b (by have:=(HROW.out.lt b hb).1;omega) (by have:=(HROW.out.lt b hb).1;omega));exact this
       . intro p hp;obtain⟨j,hj⟩:=List.getElem?_of_mem hp;obtain⟨h1,h2⟩:=HALL.out j p hj;refine⟨h2.keep hsz5 (fun b hb _=>hk5 b (by have:=hb.1;omega) (by have:=hb.1;omega)),?_⟩;rw[h1];have:=listN_len 24 (F j);omega
       . refine au_mk ?_ ?_ ?_
         . exact listN_rise HAB.out.1.2 (by rw[HN.out];exact HAL.out.1) hN24
         . exact listN_rise HAB.out.2.2 (by rw[HN.out];exact HAL.out.2.1) hN24
         . apply List.ext_getElem?;intro j;rw[zI,zI];by_cases hj:j<n
           . obtain⟨p,hp⟩:∃p,os[j]?=some p:=⟨_,zB (by rw[HOL.out];omega)⟩
             rw[hp,yO hj];simp only[Option.map_some];rw[(HALL.out j p hp).1];refine congrArg some (listN_rise (fun i=>?_) (fun i hi=>?_) hN24)
             . rw[(HFO.out j (by omega)).2,mem_folN]
             . rw[HN.out];exact HAL.out.2.2 (j,i) (mem_folN.1 hi)
           . rw[yB (by rw[HOL.out];omega),yB (by simp;omega)];rfl
       . exact Below.set5P ((show Below w.heap.size w W1 from HBW.out).trans (HKB1.out.mono HBW.out.size)) (by omega) _ _ _ _ _
      obtain⟨m,hmE,hE2,hE3,hE4⟩:=hE;have HE:Hid (∃m:Mu,Ending.returned (Value.agg #[.slice wa n wc,.slice a2 (listN 24 f).length k2,.slice a3 (listN 24 l).length k3,.slice ua i uc,.bool em])=.returned (encU m)/\UOk (fun g=>lo<=g) (set5P wr (w.heap.size+1) (.slice wa n wc) (.slice a2 (listN 24 f).length k2) (.slice a3 (listN 24 l).length k3) (.slice ua i uc) (.bool em)) m/\m.au=⟨ws,rise n A,rise n B,(List.range n).map (fun k=>rise n (folN ps k)),em⟩/\Below w.heap.size w (set5P wr (w.heap.size+1) (.slice wa n wc) (.slice a2 (listN 24 f).length k2) (.slice a3 (listN 24 l).length k3) (.slice ua i uc) (.bool em))):=zA ⟨m,by rw[hmE],hE2,hE3,hE4⟩;have Z0:=zA z0;have Z1:=zA z1;have Z2:=zA z2;have Z3:=zA z3;have Z4:=zA z4;have HIN:=zA hin;clear ka hol hrow hno hall kv2 kv3 kb1 hm4 z0 z1 z2 z3 z4 hmE hE2 hE3 hE4 e1 hin;unfold set5P at HE Z0 Z1 Z2 Z3 Z4;go_wp2;refine bodyPost_ret (v:=.agg #[.slice wa n wc,.slice a2 (listN 24 f).length k2,.slice a3 (listN 24 l).length k3,.slice ua i uc,.bool em]) ?_ rfl HE.out;simp[results,Tryz.results36,go_sem,Z0.out,Z1.out,Z2.out,Z3.out,Z4.out]
 . obtain⟨W,ab,hWW,habb,KA,KB,KC1,KV2,KV3⟩:∃(W:World) (ab:Nat),(((((w3.setCell ⟨w2.heap.size,0,none⟩ (.slice wa n wc)).setCell ⟨w2.heap.size,1,none⟩ (.slice a2 (listN 24 f).length k2)).setCell ⟨w2.heap.size,2,none⟩ (.slice a3 (listN 24 l).length k3)).setCell ⟨w2.heap.size,3,none⟩ (.slice none 0 0)).setCell ⟨w2.heap.size,4,none⟩ (.bool em))=W/\w2.heap.size=ab/\W.heap[ab]?=some (.cells #[.slice wa n wc,.slice a2 (listN 24 f).length k2,.slice a3 (listN 24 l).length k3,.slice none 0 0,.bool em] 59 (0,0))/\Below W1.heap.size W1 W/\W1.heap.size<=ab/\IntZ (Oth W1.heap.size ab (.slice none 0 0)) W (.slice a2 (listN 24 f).length k2) (listN 24 f)/\IntZ (Oth W1.heap.size ab (.slice none 0 0)) W (.slice a3 (listN 24 l).length k3) (listN 24 l):=by
    refine⟨_,_,rfl,rfl,set5P_at hz3,Below.set5P hp3 hbz3 (.slice wa n wc) (.slice a2 (listN 24 f).length k2) (.slice a3 (listN 24 l).length k3) (.slice none 0 0) (.bool em),hbz3,?_,?_⟩
    . exact(own_sl csZ_len ho2 rfl).keep (w':=set5P w3 w2.heap.size (.slice wa n wc) (.slice a2 (listN 24 f).length k2) (.slice a3 (listN 24 l).length k3) (.slice none 0 0) (.bool em)) (by rw[set5P_size];have:=hb3.size;simp at this;omega) (fun b hb hlt=>⟨⟨zQ HPA.out.size (ho2.lt b hb).1,by omega,by simp[Value.ownBlock]⟩,(set5P_other (by omega) (.slice wa n wc) (.slice a2 (listN 24 f).length k2) (.slice a3 (listN 24 l).length k3) (.slice none 0 0) (.bool em)).trans ((hb3.block b (by simp;omega)).trans (heap_alloc_old _ _ hlt))⟩)
    . exact(own_sl csZ_len ho3 rfl).keep (w':=set5P w3 w2.heap.size (.slice wa n wc) (.slice a2 (listN 24 f).length k2) (.slice a3 (listN 24 l).length k3) (.slice none 0 0) (.bool em)) (by rw[set5P_size];exact zD _) (fun b hb hlt=>⟨⟨zQ hbz3 (zQ (by simp) (ho3.lt b hb).1),by have:=(ho3.lt b hb).1;simp at this;omega,by simp[Value.ownBlock]⟩,set5P_other (by have:=(ho3.lt b hb).1;simp at this;omega) (.slice wa n wc) (.slice a2 (listN 24 f).length k2) (.slice a3 (listN 24 l).length k3) (.slice none 0 0) (.bool em)⟩)
   rw[hWW];simp only[habb];have HWn:Hid (W1.heap.size=w.heap.size+2):=HSZ;clear hWW habb;clear ho2 hb2 ho3 hb3 hp2 hp3 hz3 hbz3 g0 g1 g2 g3 g4 h0 h1 h2 h3 h4;have HKA:=zA KA;have HKB:=zA KB;have HKV2:=zA KV2;have HKV3:=zA KV3;have hm3:=HMW.out.below hS ((show Below w.heap.size w W1 from HBW.out).trans (KB.mono HBW.out.size));have q9:=hm3.c0;rw[<- HN.out]at q9;obtain⟨⟨c0,c1,c2,c3,c4⟩,_⟩:=five_cells KA;have HM3:=zA hm3;clear KA KB KV2 KV3 hm3;obtain⟨v2,hv2⟩:∃v,v=Value.slice a2 (listN 24 f).length k2:=⟨_,rfl⟩
   obtain⟨v3,hv3⟩:∃v,v=Value.slice a3 (listN 24 l).length k3:=⟨_,rfl⟩
   rw[<- hv2]at HKV2;rw[<- hv3]at HKV3;have HV2:=zA hv2;have HV3:=zA hv3;go_wp2_with fail;go_loopw [25] (fun c wr=>∃(i:Nat) (u:Value) (os:List (Value×List Int)),i<=n/\c=.int .i64 i/\wr.heap[ab]?=some (.cells #[.slice wa n wc,.slice a2 (listN 24 f).length k2,.slice a3 (listN 24 l).length k3,u,.bool em] 59 (0,0))/\os.length=i/\wr.ownsRow W1.heap.size 56 1 u os.length (os.flatMap csW)/\(∀g,u.ownBlock=some g->g≠ab)/\(∀(j:Nat) p,os[j]?=some p->p.2=listN 24 (F j)/\IntZ (Oth W1.heap.size ab u) wr p.1 p.2)/\IntZ (Oth W1.heap.size ab u) wr v2 (listN 24 f)/\IntZ (Oth W1.heap.size ab u) wr v3 (listN 24 l)/\Below W1.heap.size W1 wr) (fun c _=>n-(intOf c).toNat)
   case atStart=>exact⟨0,.slice none 0 0,[],zS _,rfl,HKA.out,rfl,World.ownsRow_nil _ _ _ _,by simp[Value.ownBlock],by simp,HKV2.out,HKV3.out,HKB.out⟩
   case round=>
    clear c0 c1 c2 c3 c4 q9;obtain⟨i,u,os,hi,rfl,ka,hol,hrow,hno,hall,kv2,kv3,kb1⟩:=hrel;obtain⟨ua,uc,hu⟩:=own_slice hrow;rw[hol]at hu;subst hu;have hm4:=HMW.out.below hS ((show Below w.heap.size w W1 from HBW.out).trans (kb1.mono HBW.out.size));obtain⟨⟨c0,c1,c2,c3,c4⟩,⟨y0,y1,y2,y3,y4⟩⟩:=five_cells ka;have habl:=lt_of_block ka;have HKA2:=zA ka;have HOL:=zA hol;have HROW:=zA hrow;have HNO:=zA hno;have HALL:=zA hall;have HKV2b:=zA kv2;have HKV3b:=zA kv3;have HKB1:=zA kb1;by_cases hlt:i<n
    . have hltI:(i:Int)<(n:Int):=by omega
      have hi24:i<24:=by have:=HN24.out;omega
      have hi24I:(i:Int)<24:=by omega
      obtain⟨p0,_⟩:=hm4.fol i hi24;have hFi:=(HFO.out i hi24).1;have C:=zA (list_any (F i) wr.drew hFi);obtain⟨Fi,hFie⟩:∃x,x=F i:=⟨_,rfl⟩
      rw[<- hFie]at p0 hFi C;have HFI:=zA hFie;have hrow2:=hrow;rw[hol]at hrow2;have HROW2:=zA hrow2;have hsB:W1.heap.size<=wr.heap.size:=kb1.size;clear ka hol hrow hno hall kv2 kv3 kb1 hm4 hFie hrow2 c0 c1 c2 c4 y0 y1 y2 y4;go_wp2_with fail;go_region_law (first
       |(go_simp;refine C.out.mono ?_;rintro e w5 ⟨v5,rfl,ho5,hb5⟩;obtain⟨a5,k5,hv5⟩:=own_slice ho5;subst hv5;have c35:=(hb5.cell (p:=⟨ab,3,none⟩) habl).trans c3;have y35:=(hb5.frozen (p:=⟨ab,3,none⟩) habl).trans y3;have habl5:ab<w5.heap.size:=zO habl hb5.size)
       |(refine step_append_lies _ (by rfl) _ _ _ (by rfl) W1.heap.size 56 i0 _ 1 24 Tryz.underlying57 hi0 hz0 hz1 hz2 rfl (by decide) (.slice ua i uc) _ _ (by rfl) ((owns_below HROW2.out.drew hb5).alloc _) ⟨w5.heap.size,0,none⟩ 1 1 [.slice a5 (listN 24 Fi).length k5] (by rfl) (by rfl) (World.news_of_block (cs:=#[.slice a5 (listN 24 Fi).length k5]) (t:=56) (fr:=(0,0)) (heap_alloc_new w5 _)) (by simp[Value.oneCell']) (by decide) (by unfold maxLen;omega) (by omega) (by have:=hb5.size;simp at this ⊢;omega) (w5.heap.size+1) (by simp) ?_;intro gg cap2 w9 hown9 hgrow9 hat9 hlt9;have hh9:=grown_at hgrow9 habl5 (fun e=>HNO.out _ (by cases ua<;>exact e) rfl);have q09:=cell_of hh9 c35;have q19:=froz_of hh9 y35))
      all_goals (
       have hK:∀b,b<w5.heap.size->b≠ab->(Value.slice ua i uc).ownBlock≠some b->(W1.heap.size<=b->Oth W1.heap.size ab (.slice (some ⟨gg,0,none⟩) (i+1) cap2) b)/\(w9.setCell ⟨ab,3,none⟩ (.slice (some ⟨gg,0,none⟩) (i+1) cap2)).heap[b]?=w5.heap[b]?:=fun b hlb hba hbu=>by
        refine⟨fun hlo=>⟨hlo,hba,fun e=>?_⟩,?_⟩
        . have e2:gg=b:=by simpa[Value.ownBlock]using e
          rcases hat9 with h|h
          . exact hbu (by rw[h,e2])
          . omega
        . rw[zM _ _ _ _ (by exact hba)];exact grown_at hgrow9 hlb hbu
       have hsz5:wr.heap.size<=w5.heap.size:=hb5.size;have hsz9:w5.heap.size<=w9.heap.size:=by have:=hgrow9.size;simp at this;omega
       have hkeep:∀ {v:Value} {L:List Int},IntZ (Oth W1.heap.size ab (.slice ua i uc)) wr v L->IntZ (Oth W1.heap.size ab (.slice (some ⟨gg,0,none⟩) (i+1) cap2)) (w9.setCell ⟨ab,3,none⟩ (.slice (some ⟨gg,0,none⟩) (i+1) cap2)) v L:=fun h=>by
        refine h.keep (by simp;omega) (fun b hb hlb=>⟨(hK b (by omega) hb.2.1 hb.2.2).1 hb.1,(hK b (by omega) hb.2.1 hb.2.2).2.trans (hb5.block b hlb)⟩)
       have HR:Hid (∃(u:Value) (os2:List (Value×List Int)),Value.slice (some ⟨gg,0,none⟩) (i+1) cap2=u/\(w9.setCell ⟨ab,3,none⟩ (.slice (some ⟨gg,0,none⟩) (i+1) cap2)).heap[ab]?=some (.cells #[.slice wa n wc,.slice a2 (listN 24 f).length k2,.slice a3 (listN 24 l).length k3,u,.bool em] 59 (0,0))/\os2.length=i+1/\(w9.setCell ⟨ab,3,none⟩ (.slice (some ⟨gg,0,none⟩) (i+1) cap2)).ownsRow W1.heap.size 56 1 u os2.length (os2.flatMap csW)/\(∀g,u.ownBlock=some g->g≠ab)/\(∀(j:Nat) p,os2[j]?=some p->p.2=listN 24 (F j)/\IntZ (Oth W1.heap.size ab u) (w9.setCell ⟨ab,3,none⟩ (.slice (some ⟨gg,0,none⟩) (i+1) cap2)) p.1 p.2)/\IntZ (Oth W1.heap.size ab u) (w9.setCell ⟨ab,3,none⟩ (.slice (some ⟨gg,0,none⟩) (i+1) cap2)) v2 (listN 24 f)/\IntZ (Oth W1.heap.size ab u) (w9.setCell ⟨ab,3,none⟩ (.slice (some ⟨gg,0,none⟩) (i+1) cap2)) v3 (listN 24 l)/\Below W1.heap.size W1 (w9.setCell ⟨ab,3,none⟩ (.slice (some ⟨gg,0,none⟩) (i+1) cap2))):=zA (by
        have hgne:gg≠ab:=by
         rcases hat9 with h|h
         . exact HNO.out gg (by cases ua<;>exact h)
         . omega
        refine⟨_,os++[(.slice a5 (listN 24 Fi).length k5,listN 24 Fi)],rfl,?_,by rw[zG,HOL.out];rfl,?_,fun g hg=>?_,fun j p hp=>?_,hkeep HKV2b.out,hkeep HKV3b.out,?_⟩
        . refine set3_at5 (t:=59) (c3:=.slice ua i uc) ?_;rw[hh9,hb5.block ab habl];exact HKA2.out
        . rw[zG,HOL.out,zY];refine owns_key (w:=w9) (by simpa[csW]using hown9) (fun g o hg ho=>(zM _ _ _ _ (by
           have e2:gg=g:=by simpa[Value.ownBlock]using hg
           exact e2▸hgne)).trans ho)
        . have e2:gg=g:=by simpa[Value.ownBlock]using hg
          exact e2▸hgne
        . by_cases hj:j<os.length
          . rw[yH hj]at hp;have:=HALL.out j p hp;exact⟨this.1,hkeep this.2⟩
          . rw[yM (by omega)]at hp;have hj0:j-os.length=0:=by
             have:=(zE.1 hp).1;simp at this;omega
            rw[hj0]at hp;simp at hp;subst hp;have hji:j=i:=by have:=HOL.out;omega
            refine⟨by rw[HFI.out,hji],?_⟩;exact(own_sl csZ_len ho5 rfl).keep (by simp;omega) (fun b hb hlb=>by
             have hb2:wr.heap.size<=b:=(ho5.lt b hb).1;have hbu:(Value.slice ua i uc).ownBlock≠some b:=fun e=>by
              have:b<wr.heap.size:=(HROW2.out.lt b e).2;omega
             exact⟨(hK b hlb (by omega) hbu).1 (by omega),(hK b hlb (by omega) hbu).2⟩)
        . have hB5:Below W1.heap.size W1 w5:=HKB1.out.drew.trans (hb5.mono hsB);have hB9:Below W1.heap.size W1 w9:=(hB5.alloc hB5.size _).grown hgrow9 (by simp;omega) (fun k e=>(HROW2.out.lt k e).1);exact hB9.setCell (p:=⟨ab,3,none⟩) KC1 _)
       clear hK hkeep hown9 hgrow9 hat9 hlt9 hh9 q09 q19 ho5 hb5 c35 y35;go_wp2;go_roundw
       case rel=>
        obtain⟨u,os2,_,r1,r2,r3,r4,r5,r6,r7,r8⟩:=HR.out;exact⟨i+1,u,os2,by omega,by go_num,r1,r2,r3,r4,r5,r6,r7,r8⟩
       case measure=>simp[intOf];omega)
    . have hltI:¬(i:Int)<(n:Int):=by omega
      have hin:i=n:=by omega
      have e1:wr.heap[w.heap.size+1]?=some (.cells #[.slice none 0 0,.slice none 0 0,.slice none 0 0,.slice none 0 0,.bool false] 59 (0,0)):=by
       rw[kb1.block (w.heap.size+1) (by have:=HSZ.out;omega),HW1.out];exact(by simpa using heap_alloc_new (w.alloc (.cells #[.int .u32 (f:Int),.int .u32 (l:Int),.bool em] 87)) _)
      obtain⟨⟨r0,r1,r2,r3,r4⟩,⟨x0,x1,x2,x3,x4⟩⟩:=five_cells e1;obtain⟨⟨z0,z1,z2,z3,z4⟩,_⟩:=five_cells (set5P_at (c0:=.slice wa n wc) (c1:=.slice a2 (listN 24 f).length k2) (c2:=.slice a3 (listN 24 l).length k3) (c3:=.slice ua i uc) (c4:=.bool em) e1);have hE:∃m:Mu,(Value.agg #[.slice wa n wc,.slice a2 (listN 24 f).length k2,.slice a3 (listN 24 l).length k3,.slice ua i uc,.bool em]:Value)=encU m/\UOk (fun g=>lo<=g) (set5P wr (w.heap.size+1) (.slice wa n wc) (.slice a2 (listN 24 f).length k2) (.slice a3 (listN 24 l).length k3) (.slice ua i uc) (.bool em)) m/\m.au=⟨ws,rise n A,rise n B,(List.range n).map (fun k=>rise n (folN ps k)),em⟩/\Below w.heap.size w (set5P wr (w.heap.size+1) (.slice wa n wc) (.slice a2 (listN 24 f).length k2) (.slice a3 (listN 24 l).length k3) (.slice ua i uc) (.bool em)):=by
       have hk5:∀b,lo<=b->b≠w.heap.size+1->lo<=b/\(set5P wr (w.heap.size+1) (.slice wa n wc) (.slice a2 (listN 24 f).length k2) (.slice a3 (listN 24 l).length k3) (.slice ua i uc) (.bool em)).heap[b]?=wr.heap[b]?:=fun b hbl hb=>⟨hbl,set5P_other hb _ _ _ _ _⟩
       have hsz5:wr.heap.size<=(set5P wr (w.heap.size+1) (.slice wa n wc) (.slice a2 (listN 24 f).length k2) (.slice a3 (listN 24 l).length k3) (.slice ua i uc) (.bool em)).heap.size:=by rw[set5P_size];exact zD _
       have hsW:=HSZ.out;have hL2:=listN_len 24 f;have hL3:=listN_len 24 l;have hN24:=HN24.out;have hwsl:ws.length<=24:=by rw[<- HN.out];exact hN24
       refine⟨⟨.slice wa n wc,ws,.slice a2 (listN 24 f).length k2,listN 24 f,.slice a3 (listN 24 l).length k3,listN 24 l,.slice ua i uc,os,em⟩,rfl,⟨?_,?_,by dsimp only;omega,?_,by dsimp only;omega,?_,by dsimp only;omega,?_,?_,by dsimp only;rw[HOL.out];omega⟩,?_,?_⟩
       . have:=(own_sl (enc:=csT) (k:=1) (fun _=>rfl) hm4.row rfl).keep (T:=fun g=>lo<=g) hsz5 (fun b hb _=>hk5 b (HLO.out b (by cases wa<;>exact hb)) (by have:=(HMW.out.row.lt b hb).2;omega));rw[<- HN.out]at this;exact this
       . intro s hs;have:=HWB.out s hs;omega
       . have:=HKV2b.out.keep (T:=fun g=>lo<=g) hsz5 (fun b hb _=>hk5 b (by have:=hb.1;omega) (by have:=hb.1;omega));rw[HV2.out]at this;exact this
       . have:=HKV3b.out.keep (T:=fun g=>lo<=g) hsz5 (fun b hb _=>hk5 b (by have:=hb.1;omega) (by have:=hb.1;omega));rw[HV3.out]at this;exact this
       . have:=(own_sl (enc:=csW) (k:=1) (fun _=>rfl) HROW.out rfl).keep (T:=fun g=>lo<=g) hsz5 (fun b hb _=>hk5 b (by have:=(HROW.out.lt b hb).1;omega) (by have:=(HROW.out.lt b hb).1;omega));exact this
       . intro p hp;obtain⟨j,hj⟩:=List.getElem?_of_mem hp;obtain⟨h1,h2⟩:=HALL.out j p hj;refine⟨h2.keep hsz5 (fun b hb _=>hk5 b (by have:=hb.1;omega) (by have:=hb.1;omega)),?_⟩;rw[h1];have:=listN_len 24 (F j);omega
       . refine au_mk ?_ ?_ ?_
         . exact listN_rise HAB.out.1.2 (by rw[HN.out];exact HAL.out.1) hN24
         . exact listN_rise HAB.out.2.2 (by rw[HN.out];exact HAL.out.2.1) hN24
         . apply List.ext_getElem?;intro j;rw[zI,zI];by_cases hj:j<n
           . obtain⟨p,hp⟩:∃p,os[j]?=some p:=⟨_,zB (by rw[HOL.out];omega)⟩
             rw[hp,yO hj];simp only[Option.map_some];rw[(HALL.out j p hp).1];refine congrArg some (listN_rise (fun i=>?_) (fun i hi=>?_) hN24)
             . rw[(HFO.out j (by omega)).2,mem_folN]
             . rw[HN.out];exact HAL.out.2.2 (j,i) (mem_folN.1 hi)
           . rw[yB (by rw[HOL.out];omega),yB (by simp;omega)];rfl
       . exact Below.set5P ((show Below w.heap.size w W1 from HBW.out).trans (HKB1.out.mono HBW.out.size)) (by omega) _ _ _ _ _
      obtain⟨m,hmE,hE2,hE3,hE4⟩:=hE;have HE:Hid (∃m:Mu,Ending.returned (Value.agg #[.slice wa n wc,.slice a2 (listN 24 f).length k2,.slice a3 (listN 24 l).length k3,.slice ua i uc,.bool em])=.returned (encU m)/\UOk (fun g=>lo<=g) (set5P wr (w.heap.size+1) (.slice wa n wc) (.slice a2 (listN 24 f).length k2) (.slice a3 (listN 24 l).length k3) (.slice ua i uc) (.bool em)) m/\m.au=⟨ws,rise n A,rise n B,(List.range n).map (fun k=>rise n (folN ps k)),em⟩/\Below w.heap.size w (set5P wr (w.heap.size+1) (.slice wa n wc) (.slice a2 (listN 24 f).length k2) (.slice a3 (listN 24 l).length k3) (.slice ua i uc) (.bool em))):=zA ⟨m,by rw[hmE],hE2,hE3,hE4⟩;have Z0:=zA z0;have Z1:=zA z1;have Z2:=zA z2;have Z3:=zA z3;have Z4:=zA z4;have HIN:=zA hin;clear ka hol hrow hno hall kv2 kv3 kb1 hm4 z0 z1 z2 z3 z4 hmE hE2 hE3 hE4 e1 hin;unfold set5P at HE Z0 Z1 Z2 Z3 Z4;go_wp2;refine bodyPost_ret (v:=.agg #[.slice wa n wc,.slice a2 (listN 24 f).length k2,.slice a3 (listN 24 l).length k3,.slice ua i uc,.bool em]) ?_ rfl HE.out;simp[results,Tryz.results36,go_sem,Z0.out,Z1.out,Z2.out,Z3.out,Z4.out]
 . obtain⟨W,ab,hWW,habb,KA,KB,KC1,KV2,KV3⟩:∃(W:World) (ab:Nat),(((((w3.setCell ⟨W1.heap.size,0,none⟩ (.slice wa n wc)).setCell ⟨W1.heap.size,1,none⟩ (.slice a2 (listN 24 f).length k2)).setCell ⟨W1.heap.size,2,none⟩ (.slice a3 (listN 24 l).length k3)).setCell ⟨W1.heap.size,3,none⟩ (.slice none 0 0)).setCell ⟨W1.heap.size,4,none⟩ (.bool em))=W/\W1.heap.size=ab/\W.heap[ab]?=some (.cells #[.slice wa n wc,.slice a2 (listN 24 f).length k2,.slice a3 (listN 24 l).length k3,.slice none 0 0,.bool em] 59 (0,0))/\Below W1.heap.size W1 W/\W1.heap.size<=ab/\IntZ (Oth W1.heap.size ab (.slice none 0 0)) W (.slice a2 (listN 24 f).length k2) (listN 24 f)/\IntZ (Oth W1.heap.size ab (.slice none 0 0)) W (.slice a3 (listN 24 l).length k3) (listN 24 l):=by
    refine⟨_,_,rfl,rfl,set5P_at hz3,Below.set5P hp3 hbz3 (.slice wa n wc) (.slice a2 (listN 24 f).length k2) (.slice a3 (listN 24 l).length k3) (.slice none 0 0) (.bool em),hbz3,?_,?_⟩
    . exact(own_sl csZ_len ho2 rfl).keep (w':=set5P w3 W1.heap.size (.slice wa n wc) (.slice a2 (listN 24 f).length k2) (.slice a3 (listN 24 l).length k3) (.slice none 0 0) (.bool em)) (by rw[set5P_size];exact hb3.size) (fun b hb hlt=>⟨⟨zQ HPB.out.size (ho2.lt b hb).1,by have:=(ho2.lt b hb).1;simp at this;omega,by simp[Value.ownBlock]⟩,(set5P_other (by have:=(ho2.lt b hb).1;simp at this;omega) (.slice wa n wc) (.slice a2 (listN 24 f).length k2) (.slice a3 (listN 24 l).length k3) (.slice none 0 0) (.bool em)).trans (hb3.block b hlt)⟩)
    . exact(own_sl csZ_len ho3 rfl).keep (w':=set5P w3 W1.heap.size (.slice wa n wc) (.slice a2 (listN 24 f).length k2) (.slice a3 (listN 24 l).length k3) (.slice none 0 0) (.bool em)) (by rw[set5P_size];exact zD _) (fun b hb hlt=>⟨⟨zQ hp2.size (ho3.lt b hb).1,by have:=(ho3.lt b hb).1;have:=lt_of_block hq2;omega,by simp[Value.ownBlock]⟩,set5P_other (by have:=(ho3.lt b hb).1;have:=lt_of_block hq2;omega) (.slice wa n wc) (.slice a2 (listN 24 f).length k2) (.slice a3 (listN 24 l).length k3) (.slice none 0 0) (.bool em)⟩)
   rw[hWW];simp only[habb];have HWn:Hid (W1.heap.size=w.heap.size+2):=HSZ;clear hWW habb;clear ho2 hb2 ho3 hb3 hp2 hp3 hz3 hbz3 hz2 hne2 hq2 g0 g1 g2 g3 g4 h0 h1 h2 h3 h4;have HKA:=zA KA;have HKB:=zA KB;have HKV2:=zA KV2;have HKV3:=zA KV3;have hm3:=HMW.out.below hS ((show Below w.heap.size w W1 from HBW.out).trans (KB.mono HBW.out.size));have q9:=hm3.c0;rw[<- HN.out]at q9;obtain⟨⟨c0,c1,c2,c3,c4⟩,_⟩:=five_cells KA;have HM3:=zA hm3;clear KA KB KV2 KV3 hm3;obtain⟨v2,hv2⟩:∃v,v=Value.slice a2 (listN 24 f).length k2:=⟨_,rfl⟩
   obtain⟨v3,hv3⟩:∃v,v=Value.slice a3 (listN 24 l).length k3:=⟨_,rfl⟩
   rw[<- hv2]at HKV2;rw[<- hv3]at HKV3;have HV2:=zA hv2;have HV3:=zA hv3;go_wp2_with fail;go_loopw [25] (fun c wr=>∃(i:Nat) (u:Value) (os:List (Value×List Int)),i<=n/\c=.int .i64 i/\wr.heap[ab]?=some (.cells #[.slice wa n wc,.slice a2 (listN 24 f).length k2,.slice a3 (listN 24 l).length k3,u,.bool em] 59 (0,0))/\os.length=i/\wr.ownsRow W1.heap.size 56 1 u os.length (os.flatMap csW)/\(∀g,u.ownBlock=some g->g≠ab)/\(∀(j:Nat) p,os[j]?=some p->p.2=listN 24 (F j)/\IntZ (Oth W1.heap.size ab u) wr p.1 p.2)/\IntZ (Oth W1.heap.size ab u) wr v2 (listN 24 f)/\IntZ (Oth W1.heap.size ab u) wr v3 (listN 24 l)/\Below W1.heap.size W1 wr) (fun c _=>n-(intOf c).toNat)
   case atStart=>exact⟨0,.slice none 0 0,[],zS _,rfl,HKA.out,rfl,World.ownsRow_nil _ _ _ _,by simp[Value.ownBlock],by simp,HKV2.out,HKV3.out,HKB.out⟩
   case round=>
    clear c0 c1 c2 c3 c4 q9;obtain⟨i,u,os,hi,rfl,ka,hol,hrow,hno,hall,kv2,kv3,kb1⟩:=hrel;obtain⟨ua,uc,hu⟩:=own_slice hrow;rw[hol]at hu;subst hu;have hm4:=HMW.out.below hS ((show Below w.heap.size w W1 from HBW.out).trans (kb1.mono HBW.out.size));obtain⟨⟨c0,c1,c2,c3,c4⟩,⟨y0,y1,y2,y3,y4⟩⟩:=five_cells ka;have habl:=lt_of_block ka;have HKA2:=zA ka;have HOL:=zA hol;have HROW:=zA hrow;have HNO:=zA hno;have HALL:=zA hall;have HKV2b:=zA kv2;have HKV3b:=zA kv3;have HKB1:=zA kb1;by_cases hlt:i<n
    . have hltI:(i:Int)<(n:Int):=by omega
      have hi24:i<24:=by have:=HN24.out;omega
      have hi24I:(i:Int)<24:=by omega
      obtain⟨p0,_⟩:=hm4.fol i hi24;have hFi:=(HFO.out i hi24).1;have C:=zA (list_any (F i) wr.drew hFi);obtain⟨Fi,hFie⟩:∃x,x=F i:=⟨_,rfl⟩
      rw[<- hFie]at p0 hFi C;have HFI:=zA hFie;have hrow2:=hrow;rw[hol]at hrow2;have HROW2:=zA hrow2;have hsB:W1.heap.size<=wr.heap.size:=kb1.size;clear ka hol hrow hno hall kv2 kv3 kb1 hm4 hFie hrow2 c0 c1 c2 c4 y0 y1 y2 y4;go_wp2_with fail;go_region_law (first
       |(go_simp;refine C.out.mono ?_;rintro e w5 ⟨v5,rfl,ho5,hb5⟩;obtain⟨a5,k5,hv5⟩:=own_slice ho5;subst hv5;have c35:=(hb5.cell (p:=⟨ab,3,none⟩) habl).trans c3;have y35:=(hb5.frozen (p:=⟨ab,3,none⟩) habl).trans y3;have habl5:ab<w5.heap.size:=zO habl hb5.size)
       |(refine step_append_lies _ (by rfl) _ _ _ (by rfl) W1.heap.size 56 i0 _ 1 24 Tryz.underlying57 hi0 hz0 hz1 hz2 rfl (by decide) (.slice ua i uc) _ _ (by rfl) ((owns_below HROW2.out.drew hb5).alloc _) ⟨w5.heap.size,0,none⟩ 1 1 [.slice a5 (listN 24 Fi).length k5] (by rfl) (by rfl) (World.news_of_block (cs:=#[.slice a5 (listN 24 Fi).length k5]) (t:=56) (fr:=(0,0)) (heap_alloc_new w5 _)) (by simp[Value.oneCell']) (by decide) (by unfold maxLen;omega) (by omega) (by have:=hb5.size;simp at this ⊢;omega) (w5.heap.size+1) (by simp) ?_;intro gg cap2 w9 hown9 hgrow9 hat9 hlt9;have hh9:=grown_at hgrow9 habl5 (fun e=>HNO.out _ (by cases ua<;>exact e) rfl);have q09:=cell_of hh9 c35;have q19:=froz_of hh9 y35))
      all_goals (
       have hK:∀b,b<w5.heap.size->b≠ab->(Value.slice ua i uc).ownBlock≠some b->(W1.heap.size<=b->Oth W1.heap.size ab (.slice (some ⟨gg,0,none⟩) (i+1) cap2) b)/\(w9.setCell ⟨ab,3,none⟩ (.slice (some ⟨gg,0,none⟩) (i+1) cap2)).heap[b]?=w5.heap[b]?:=fun b hlb hba hbu=>by
        refine⟨fun hlo=>⟨hlo,hba,fun e=>?_⟩,?_⟩
        . have e2:gg=b:=by simpa[Value.ownBlock]using e
          rcases hat9 with h|h
          . exact hbu (by rw[h,e2])
          . omega
        . rw[zM _ _ _ _ (by exact hba)];exact grown_at hgrow9 hlb hbu
       have hsz5:wr.heap.size<=w5.heap.size:=hb5.size;have hsz9:w5.heap.size<=w9.heap.size:=by have:=hgrow9.size;simp at this;omega
       have hkeep:∀ {v:Value} {L:List Int},IntZ (Oth W1.heap.size ab (.slice ua i uc)) wr v L->IntZ (Oth W1.heap.size ab (.slice (some ⟨gg,0,none⟩) (i+1) cap2)) (w9.setCell ⟨ab,3,none⟩ (.slice (some ⟨gg,0,none⟩) (i+1) cap2)) v L:=fun h=>by
        refine h.keep (by simp;omega) (fun b hb hlb=>⟨(hK b (by omega) hb.2.1 hb.2.2).1 hb.1,(hK b (by omega) hb.2.1 hb.2.2).2.trans (hb5.block b hlb)⟩)
       have HR:Hid (∃(u:Value) (os2:List (Value×List Int)),Value.slice (some ⟨gg,0,none⟩) (i+1) cap2=u/\(w9.setCell ⟨ab,3,none⟩ (.slice (some ⟨gg,0,none⟩) (i+1) cap2)).heap[ab]?=some (.cells #[.slice wa n wc,.slice a2 (listN 24 f).length k2,.slice a3 (listN 24 l).length k3,u,.bool em] 59 (0,0))/\os2.length=i+1/\(w9.setCell ⟨ab,3,none⟩ (.slice (some ⟨gg,0,none⟩) (i+1) cap2)).ownsRow W1.heap.size 56 1 u os2.length (os2.flatMap csW)/\(∀g,u.ownBlock=some g->g≠ab)/\(∀(j:Nat) p,os2[j]?=some p->p.2=listN 24 (F j)/\IntZ (Oth W1.heap.size ab u) (w9.setCell ⟨ab,3,none⟩ (.slice (some ⟨gg,0,none⟩) (i+1) cap2)) p.1 p.2)/\IntZ (Oth W1.heap.size ab u) (w9.setCell ⟨ab,3,none⟩ (.slice (some ⟨gg,0,none⟩) (i+1) cap2)) v2 (listN 24 f)/\IntZ (Oth W1.heap.size ab u) (w9.setCell ⟨ab,3,none⟩ (.slice (some ⟨gg,0,none⟩) (i+1) cap2)) v3 (listN 24 l)/\Below W1.heap.size W1 (w9.setCell ⟨ab,3,none⟩ (.slice (some ⟨gg,0,none⟩) (i+1) cap2))):=zA (by
        have hgne:gg≠ab:=by
         rcases hat9 with h|h
         . exact HNO.out gg (by cases ua<;>exact h)
         . omega
        refine⟨_,os++[(.slice a5 (listN 24 Fi).length k5,listN 24 Fi)],rfl,?_,by rw[zG,HOL.out];rfl,?_,fun g hg=>?_,fun j p hp=>?_,hkeep HKV2b.out,hkeep HKV3b.out,?_⟩
        . refine set3_at5 (t:=59) (c3:=.slice ua i uc) ?_;rw[hh9,hb5.block ab habl];exact HKA2.out
        . rw[zG,HOL.out,zY];refine owns_key (w:=w9) (by simpa[csW]using hown9) (fun g o hg ho=>(zM _ _ _ _ (by
           have e2:gg=g:=by simpa[Value.ownBlock]using hg
           exact e2▸hgne)).trans ho)
        . have e2:gg=g:=by simpa[Value.ownBlock]using hg
          exact e2▸hgne
        . by_cases hj:j<os.length
          . rw[yH hj]at hp;have:=HALL.out j p hp;exact⟨this.1,hkeep this.2⟩
          . rw[yM (by omega)]at hp;have hj0:j-os.length=0:=by
             have:=(zE.1 hp).1;simp at this;omega
            rw[hj0]at hp;simp at hp;subst hp;have hji:j=i:=by have:=HOL.out;omega
            refine⟨by rw[HFI.out,hji],?_⟩;exact(own_sl csZ_len ho5 rfl).keep (by simp;omega) (fun b hb hlb=>by
             have hb2:wr.heap.size<=b:=(ho5.lt b hb).1;have hbu:(Value.slice ua i uc).ownBlock≠some b:=fun e=>by
              have:b<wr.heap.size:=(HROW2.out.lt b e).2;omega
             exact⟨(hK b hlb (by omega) hbu).1 (by omega),(hK b hlb (by omega) hbu).2⟩)
        . have hB5:Below W1.heap.size W1 w5:=HKB1.out.drew.trans (hb5.mono hsB);have hB9:Below W1.heap.size W1 w9:=(hB5.alloc hB5.size _).grown hgrow9 (by simp;omega) (fun k e=>(HROW2.out.lt k e).1);exact hB9.setCell (p:=⟨ab,3,none⟩) KC1 _)
       clear hK hkeep hown9 hgrow9 hat9 hlt9 hh9 q09 q19 ho5 hb5 c35 y35;go_wp2;go_roundw
       case rel=>
        obtain⟨u,os2,_,r1,r2,r3,r4,r5,r6,r7,r8⟩:=HR.out;exact⟨i+1,u,os2,by omega,by go_num,r1,r2,r3,r4,r5,r6,r7,r8⟩
       case measure=>simp[intOf];omega)
    . have hltI:¬(i:Int)<(n:Int):=by omega
      have hin:i=n:=by omega
      have e1:wr.heap[w.heap.size+1]?=some (.cells #[.slice none 0 0,.slice none 0 0,.slice none 0 0,.slice none 0 0,.bool false] 59 (0,0)):=by
       rw[kb1.block (w.heap.size+1) (by have:=HSZ.out;omega),HW1.out];exact(by simpa using heap_alloc_new (w.alloc (.cells #[.int .u32 (f:Int),.int .u32 (l:Int),.bool em] 87)) _)
      obtain⟨⟨r0,r1,r2,r3,r4⟩,⟨x0,x1,x2,x3,x4⟩⟩:=five_cells e1;obtain⟨⟨z0,z1,z2,z3,z4⟩,_⟩:=five_cells (set5P_at (c0:=.slice wa n wc) (c1:=.slice a2 (listN 24 f).length k2) (c2:=.slice a3 (listN 24 l).length k3) (c3:=.slice ua i uc) (c4:=.bool em) e1);have hE:∃m:Mu,(Value.agg #[.slice wa n wc,.slice a2 (listN 24 f).length k2,.slice a3 (listN 24 l).length k3,.slice ua i uc,.bool em]:Value)=encU m/\UOk (fun g=>lo<=g) (set5P wr (w.heap.size+1) (.slice wa n wc) (.slice a2 (listN 24 f).length k2) (.slice a3 (listN 24 l).length k3) (.slice ua i uc) (.bool em)) m/\m.au=⟨ws,rise n A,rise n B,(List.range n).map (fun k=>rise n (folN ps k)),em⟩/\Below w.heap.size w (set5P wr (w.heap.size+1) (.slice wa n wc) (.slice a2 (listN 24 f).length k2) (.slice a3 (listN 24 l).length k3) (.slice ua i uc) (.bool em)):=by
       have hk5:∀b,lo<=b->b≠w.heap.size+1->lo<=b/\(set5P wr (w.heap.size+1) (.slice wa n wc) (.slice a2 (listN 24 f).length k2) (.slice a3 (listN 24 l).length k3) (.slice ua i uc) (.bool em)).heap[b]?=wr.heap[b]?:=fun b hbl hb=>⟨hbl,set5P_other hb _ _ _ _ _⟩
       have hsz5:wr.heap.size<=(set5P wr (w.heap.size+1) (.slice wa n wc) (.slice a2 (listN 24 f).length k2) (.slice a3 (listN 24 l).length k3) (.slice ua i uc) (.bool em)).heap.size:=by rw[set5P_size];exact zD _
       have hsW:=HSZ.out;have hL2:=listN_len 24 f;have hL3:=listN_len 24 l;have hN24:=HN24.out;have hwsl:ws.length<=24:=by rw[<- HN.out];exact hN24
       refine⟨⟨.slice wa n wc,ws,.slice a2 (listN 24 f).length k2,listN 24 f,.slice a3 (listN 24 l).length k3,listN 24 l,.slice ua i uc,os,em⟩,rfl,⟨?_,?_,by dsimp only;omega,?_,by dsimp only;omega,?_,by dsimp only;omega,?_,?_,by dsimp only;rw[HOL.out];omega⟩,?_,?_⟩
       . have:=(own_sl (enc:=csT) (k:=1) (fun _=>rfl) hm4.row rfl).keep (T:=fun g=>lo<=g) hsz5 (fun b hb _=>hk5 b (HLO.out b (by cases wa<;>exact hb)) (by have:=(HMW.out.row.lt b hb).2;omega));rw[<- HN.out]at this;exact this
       . intro s hs;have:=HWB.out s hs;omega
       . have:=HKV2b.out.keep (T:=fun g=>lo<=g) hsz5 (fun b hb _=>hk5 b (by have:=hb.1;omega) (by have:=hb.1;omega));rw[HV2.out]at this;exact this
       . have:=HKV3b.out.keep (T:=fun g=>lo<=g) hsz5 (fun b hb _=>hk5 b (by have:=hb.1;omega) (by have:=hb.1;omega));rw[HV3.out]at this;exact this
       . have:=(own_sl (enc:=csW) (k:=1) (fun _=>rfl) HROW.out rfl).keep (T:=fun g=>lo<=g) hsz5 (fun b hb _=>hk5 b (by have:=(HROW.out.lt b hb).1;omega) (by have:=(HROW.out.lt b hb).1;omega));exact this
       . intro p hp;obtain⟨j,hj⟩:=List.getElem?_of_mem hp;obtain⟨h1,h2⟩:=HALL.out j p hj;refine⟨h2.keep hsz5 (fun b hb _=>hk5 b (by have:=hb.1;omega) (by have:=hb.1;omega)),?_⟩;rw[h1];have:=listN_len 24 (F j);omega
       . refine au_mk ?_ ?_ ?_
         . exact listN_rise HAB.out.1.2 (by rw[HN.out];exact HAL.out.1) hN24
         . exact listN_rise HAB.out.2.2 (by rw[HN.out];exact HAL.out.2.1) hN24
         . apply List.ext_getElem?;intro j;rw[zI,zI];by_cases hj:j<n
           . obtain⟨p,hp⟩:∃p,os[j]?=some p:=⟨_,zB (by rw[HOL.out];omega)⟩
             rw[hp,yO hj];simp only[Option.map_some];rw[(HALL.out j p hp).1];refine congrArg some (listN_rise (fun i=>?_) (fun i hi=>?_) hN24)
             . rw[(HFO.out j (by omega)).2,mem_folN]
             . rw[HN.out];exact HAL.out.2.2 (j,i) (mem_folN.1 hi)
           . rw[yB (by rw[HOL.out];omega),yB (by simp;omega)];rfl
       . exact Below.set5P ((show Below w.heap.size w W1 from HBW.out).trans (HKB1.out.mono HBW.out.size)) (by omega) _ _ _ _ _
      obtain⟨m,hmE,hE2,hE3,hE4⟩:=hE;have HE:Hid (∃m:Mu,Ending.returned (Value.agg #[.slice wa n wc,.slice a2 (listN 24 f).length k2,.slice a3 (listN 24 l).length k3,.slice ua i uc,.bool em])=.returned (encU m)/\UOk (fun g=>lo<=g) (set5P wr (w.heap.size+1) (.slice wa n wc) (.slice a2 (listN 24 f).length k2) (.slice a3 (listN 24 l).length k3) (.slice ua i uc) (.bool em)) m/\m.au=⟨ws,rise n A,rise n B,(List.range n).map (fun k=>rise n (folN ps k)),em⟩/\Below w.heap.size w (set5P wr (w.heap.size+1) (.slice wa n wc) (.slice a2 (listN 24 f).length k2) (.slice a3 (listN 24 l).length k3) (.slice ua i uc) (.bool em))):=zA ⟨m,by rw[hmE],hE2,hE3,hE4⟩;have Z0:=zA z0;have Z1:=zA z1;have Z2:=zA z2;have Z3:=zA z3;have Z4:=zA z4;have HIN:=zA hin;clear ka hol hrow hno hall kv2 kv3 kb1 hm4 z0 z1 z2 z3 z4 hmE hE2 hE3 hE4 e1 hin;unfold set5P at HE Z0 Z1 Z2 Z3 Z4;go_wp2;refine bodyPost_ret (v:=.agg #[.slice wa n wc,.slice a2 (listN 24 f).length k2,.slice a3 (listN 24 l).length k3,.slice ua i uc,.bool em]) ?_ rfl HE.out;simp[results,Tryz.results36,go_sem,Z0.out,Z1.out,Z2.out,Z3.out,Z4.out]
end Go.Proofs.YtdalcipmpelifaaGreatDoor
