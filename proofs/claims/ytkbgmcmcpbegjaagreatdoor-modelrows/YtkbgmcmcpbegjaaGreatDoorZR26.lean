/- BAuto. -/
import Derived.Test.YtkbgmcmcpbegjaaGreatDoorZR24
set_option maxRecDepth 100000
set_option maxHeartbeats 40000000
namespace Go.Proofs.YtkbgmcmcpbegjaaGreatDoor
open Go.RowKit
theorem jkG:(Tryz.prog.info? 59).map (fun i=>(i.zero,i.size,i.bytes))=some (some (.slice none 0 0),1,24):=by kernel_rfl
theorem jar{w:World}{b:Nat}{c0 c1 c2 c3 c4:Value}{t:TypeId}(h:w.heap[b]?=some (.cells #[c0,c1,c2,c3,c4] t (0,0))):
 (w.cell? ⟨b,0,none⟩=some c0/\w.cell? ⟨b,1,none⟩=some c1/\w.cell? ⟨b,2,none⟩=some c2/\w.cell? ⟨b,3,none⟩=some c3/\w.cell? ⟨b,4,none⟩=some c4)/\
 (w.frozen? ⟨b,0,none⟩=false/\w.frozen? ⟨b,1,none⟩=false/\w.frozen? ⟨b,2,none⟩=false/\w.frozen? ⟨b,3,none⟩=false/\w.frozen? ⟨b,4,none⟩=false):=by
 simp[World.cell?,World.frozen?,h]
def set5P(w:World)(b:Nat)(c0 c1 c2 c3 c4:Value):World:=((((w.setCell ⟨b,0,none⟩ c0).setCell ⟨b,1,none⟩ c1).setCell ⟨b,2,none⟩ c2).setCell ⟨b,3,none⟩ c3).setCell ⟨b,4,none⟩ c4
theorem jb2{w:World}{b:Nat}{x0 x1 x2 x3 x4 c0 c1 c2 c3 c4:Value}{t:TypeId}(h:w.heap[b]?=some (.cells #[x0,x1,x2,x3,x4] t (0,0))):(set5P w b c0 c1 c2 c3 c4).heap[b]?=some (.cells #[c0,c1,c2,c3,c4] t (0,0)):=by
 simp[set5P,World.setCell,Array.getElem?_modify,h]
theorem jaS{w:World}{b k:Nat}(h:k≠b)(c0 c1 c2 c3 c4:Value):(set5P w b c0 c1 c2 c3 c4).heap[k]?=w.heap[k]?:=by
 unfold set5P;rw[zM _ _ _ _ (by exact h),zM _ _ _ _ (by exact h),zM _ _ _ _ (by exact h),zM _ _ _ _ (by exact h),zM _ _ _ _ (by exact h)]
theorem Below.set5P{B:Nat}{a w:World}{b:Nat}(h:Below B a w)(hb:B<=b)(c0 c1 c2 c3 c4:Value):Below B a (set5P w b c0 c1 c2 c3 c4):=((((h.setCell (p:=⟨b,0,none⟩) hb c0).setCell (p:=⟨b,1,none⟩) hb c1).setCell (p:=⟨b,2,none⟩) hb c2).setCell (p:=⟨b,3,none⟩) hb c3).setCell (p:=⟨b,4,none⟩) hb c4
theorem jbc(w:World)(b:Nat)(c0 c1 c2 c3 c4:Value):(set5P w b c0 c1 c2 c3 c4).heap.size=w.heap.size:=by simp[set5P]
theorem jfS{w:World}{b:Nat}{c0 c1 c2 c3 c4 v:Value}{t:TypeId}(h:w.heap[b]?=some (.cells #[c0,c1,c2,c3,c4] t (0,0))):(w.setCell ⟨b,3,none⟩ v).heap[b]?=some (.cells #[c0,c1,c2,v,c4] t (0,0)):=by simp[World.setCell,Array.getElem?_modify,h]
theorem jln{ws:List Wd}{a b a' b':List Int}{c c':List (List Int)}{e:Bool}(h1:a=a')(h2:b=b')(h3:c=c'):(⟨ws,a,b,c,e⟩:Au)=⟨ws,a',b',c',e⟩:=by rw[h1,h2,h3]
def Oth(lo ab:Nat)(u:Value):Nat->Prop:=fun g=>lo<=g/\g≠ab/\u.ownBlock≠some g
theorem jkv{S:Nat->Prop}{w:World}{mb kb:Nat}{ws:List Wd}{F:Nat->Nat}{wv:Value}{ps:List (Nat×Nat)}{f l:Nat}{A B:List Nat}{em:Bool}(hS:Low S w)(hm:MkAt S w mb kb ws F wv)(hf:jda F ps)(ha:jaA f A)(hb:jaA l B)(hn24:ws.length<=24)
 (hA:∀i∈A,i<ws.length) (hB:∀i∈B,i<ws.length) (hP:∀p∈ps,p.2<ws.length) (hwb:∀s∈ws,s.length<=1000) (lo:Nat) (hlo:∀g,wv.ownBlock=some g->lo<=g) (hlw:lo<=w.heap.size):
 Calls Tryz.prog 54 #[.pointer (some ⟨mb,0,none⟩),ptV f l em] w fun e w'=>∃m:Mu,e=.returned (encU m)/\UOk (fun g=>lo<=g) w' m/\m.au=⟨ws,rise ws.length A,rise ws.length B,(List.range ws.length).map (fun k=>rise ws.length (folN ps k)),em⟩/\Below w.heap.size w w':=by
 obtain⟨i0,bV,bU,bX,bt⟩:=info_parts jkG;obtain⟨wa,wc,cb⟩:=jab hm.row;subst cb;obtain⟨n,hn⟩:=eX ws.length;obtain⟨W1,bA⟩:=eX ((w.alloc (.cells #[.int .u32 (f:Int),.int .u32 (l:Int),.bool em] 103)).alloc (.cells #[.slice none 0 0,.slice none 0 0,.slice none 0 0,.slice none 0 0,.bool false] 62));have bR:Below w.heap.size w W1:=by rw[bA];exact((zF _ _).alloc (zD _) _).alloc (by simp) _
 have b5:W1.heap.size=w.heap.size+2:=by rw[bA];simp
 have bW:=hm.below hS bR;have q0:=bW.c0;rw[<- hn]at q0;obtain⟨b0,b1,b2⟩:W1.cell? ⟨w.heap.size,0,none⟩=some (.int .u32 (f:Int))/\W1.cell? ⟨w.heap.size,1,none⟩=some (.int .u32 (l:Int))/\W1.cell? ⟨w.heap.size,2,none⟩=some (.bool em):=by rw[bA];simp
 have bT:mb<W1.heap.size:=bW.lt;have bp:w.heap.size<W1.heap.size:=by omega
 have KC:Hid (∀u,Below W1.heap.size W1 u->u.cell? ⟨mb,0,none⟩=some (.slice wa n wc)/\u.cell? ⟨w.heap.size,0,none⟩=some (.int .u32 (f:Int))/\u.cell? ⟨w.heap.size,1,none⟩=some (.int .u32 (l:Int))/\u.cell? ⟨w.heap.size,2,none⟩=some (.bool em)):=zA (fun u hu=>⟨(hu.cell (p:=⟨mb,0,none⟩) bT).trans q0,(hu.cell (p:=⟨w.heap.size,0,none⟩) bp).trans b0,(hu.cell (p:=⟨w.heap.size,1,none⟩) bp).trans b1,(hu.cell (p:=⟨w.heap.size,2,none⟩) bp).trans b2⟩);have bH:Hid (Below W1.heap.size W1 W1.drew):=zA (zF _ _).drew;have bN:Hid (Below W1.heap.size W1 (W1.alloc (.cells #[.slice none 0 0,.slice none 0 0,.slice none 0 0,.slice none 0 0,.bool false] 62)).drew):=zA (((zF _ _).alloc (zD _) _).drew);have b9:Hid ((W1.alloc (.cells #[.slice none 0 0,.slice none 0 0,.slice none 0 0,.slice none 0 0,.bool false] 62)).drew.heap[W1.heap.size]?=some (.cells #[.slice none 0 0,.slice none 0 0,.slice none 0 0,.slice none 0 0,.bool false] 62 (0,0))):=zA (heap_alloc_new W1 _);have ca:=zA (jcP f W1.drew ha.1);have b8:=zA (jcP f (W1.alloc (.cells #[.slice none 0 0,.slice none 0 0,.slice none 0 0,.slice none 0 0,.bool false] 62)).drew ha.1);have CL:=zA (fun u=>jcP l u hb.1);have HN:=zA hn;have a7:=zA hm;have bO:=zA bA;rw[<- hn];have a9:=zA b5;have aC:=zA bR;have aU:Hid (n<=24):=zA (by rw[hn];exact hn24);have br:=zA hf;have bs:=zA (And.intro ha hb);have a8:=zA (And.intro hA (And.intro hB hP));have bP:=zA hwb;have bQ:Hid (∀g,(Value.slice wa ws.length wc).ownBlock=some g->lo<=g):=zA hlo;clear bR hf hb hA hB hP hwb hn24 hlo;clear hm bW bA hn b5;show Calls Tryz.prog _ #[_,.agg #[.int .u32 (f:Int),.int .u32 (l:Int),.bool em]] w _;go_enter Tryz.func54,Tryz.ntmps54;go_wp2_with fail;rw[<- bO.out];go_region_held3 (fun u=>u.cell? ⟨mb,0,none⟩=some (.slice wa n wc)/\u.cell? ⟨w.heap.size,0,none⟩=some (.int .u32 (f:Int))/\u.cell? ⟨w.heap.size,1,none⟩=some (.int .u32 (l:Int))/\u.cell? ⟨w.heap.size,2,none⟩=some (.bool em))
  (first|with_reducible exact KC.out _ bH.out|with_reducible exact KC.out _ bN.out|with_reducible exact KC.out _ aQ|with_reducible exact KC.out _ (aQ.alloc aQ.size _)|with_reducible exact KC.out _ aB|with_reducible exact KC.out _ (aB.alloc aB.size _)|with_reducible exact KC.out _ (((((aQ.setCell (p:=⟨_,0,none⟩) al _).setCell (p:=⟨_,1,none⟩) al _).setCell (p:=⟨_,2,none⟩) al _).setCell (p:=⟨_,3,none⟩) al _).setCell (p:=⟨_,4,none⟩) al _))
  (first
   |(go_at_call 87;with_reducible refine b8.out.mono ?_;rintro e w2 ⟨v2,rfl,aO,a6⟩;obtain⟨a2,k2,aV⟩:=jab aO;subst aV;have aB:=bN.out.trans (a6.mono bN.out.size);have bt:=(a6.block W1.heap.size (by simp)).trans b9.out;have bS:=(aO.lt);have bG:=bt)
   |(go_at_call 87;with_reducible refine ca.out.mono ?_;rintro e w2 ⟨v2,rfl,aO,a6⟩;obtain⟨a2,k2,aV⟩:=jab aO;subst aV;have aB:=bH.out.trans (a6.mono bH.out.size))
   |(go_at_call 87;with_reducible refine (CL.out (w2.alloc (.cells #[.slice none 0 0,.slice none 0 0,.slice none 0 0,.slice none 0 0,.bool false] 62))).mono ?_;rintro e w3 ⟨v3,rfl,aA,aN⟩;obtain⟨a3,k3,aR⟩:=jab aA;subst aR;have aQ:=(aB.alloc aB.size _).trans (aN.mono (aB.alloc aB.size _).size);have bq:=(aN.block w2.heap.size (by simp)).trans (heap_alloc_new w2 _);have al:W1.heap.size<=w2.heap.size:=aB.size;obtain⟨⟨g0,g1,g2,g3,g4⟩,⟨h0,h1,h2,h3,h4⟩⟩:=jar bq)
   |(go_at_call 87;with_reducible refine (CL.out w2).mono ?_;rintro e w3 ⟨v3,rfl,aA,aN⟩;obtain⟨a3,k3,aR⟩:=jab aA;subst aR;have aQ:=aB.trans (aN.mono aB.size);have bq:=(aN.block W1.heap.size (lt_of_block bG)).trans bG;have al:W1.heap.size<=W1.heap.size:=zD _;obtain⟨⟨g0,g1,g2,g3,g4⟩,⟨h0,h1,h2,h3,h4⟩⟩:=jar bq)
   |(go_at_call 87;with_reducible refine (CL.out w2).mono ?_;rintro e w3 ⟨v3,rfl,aA,aN⟩;obtain⟨a3,k3,aR⟩:=jab aA;subst aR;have aQ:=aB.trans (aN.mono aB.size)))
 . obtain⟨W,ab,bn,aH,KA,KB,bz,bb,bg⟩:∃(W:World) (ab:Nat),w3.alloc (.cells #[.slice wa n wc,.slice a2 (jad 24 f).length k2,.slice a3 (jad 24 l).length k3,.slice none 0 0,.bool em] 62)=W/\w3.heap.size=ab/\W.heap[ab]?=some (.cells #[.slice wa n wc,.slice a2 (jad 24 f).length k2,.slice a3 (jad 24 l).length k3,.slice none 0 0,.bool em] 62 (0,0))/\Below W1.heap.size W1 W/\W1.heap.size<=ab/\IntZ (Oth W1.heap.size ab (.slice none 0 0)) W (.slice a2 (jad 24 f).length k2) (jad 24 f)/\IntZ (Oth W1.heap.size ab (.slice none 0 0)) W (.slice a3 (jad 24 l).length k3) (jad 24 l):=by
    refine⟨_,_,rfl,rfl,heap_alloc_new _ _,aQ.alloc aQ.size _,aQ.size,?_,?_⟩
    . exact((jaD jb4 aO rfl).below aN).keep (by simp) (fun b hb hlt=>⟨⟨zT bH.out.size (aO.lt b hb).1,by omega,by simp[Value.ownBlock]⟩,heap_alloc_old _ _ hlt⟩)
    . exact(jaD jb4 aA rfl).keep (by simp) (fun b hb hlt=>⟨⟨zT aB.size (aA.lt b hb).1,by omega,by simp[Value.ownBlock]⟩,heap_alloc_old _ _ hlt⟩)
   rw[bn];simp only[aH];have b3:Hid (W1.heap.size=w.heap.size+2):=a9;clear bn aH;clear aO a6 aA aN aB aQ;have bJ:=zA KA;have bw:=zA KB;have aM:=zA bb;have aJ:=zA bg;have a1:=a7.out.below hS ((show Below w.heap.size w W1 from aC.out).trans (KB.mono aC.out.size));have q9:=a1.c0;rw[<- HN.out]at q9;obtain⟨⟨c0,c1,c2,c3,c4⟩,_⟩:=jar KA;have bZ:=zA a1;clear KA KB bb bg a1;obtain⟨v2,aV⟩:=eX (Value.slice a2 (jad 24 f).length k2);obtain⟨v3,aR⟩:=eX (Value.slice a3 (jad 24 l).length k3);rw[<- aV]at aM;rw[<- aR]at aJ;have bE:=zA aV;have bF:=zA aR;go_wp2_with fail;go_loopw [25] (fun c wr=>∃(i:Nat) (u:Value) (os:List (Value×List Int)),i<=n/\c=.int .i64 i/\wr.heap[ab]?=some (.cells #[.slice wa n wc,.slice a2 (jad 24 f).length k2,.slice a3 (jad 24 l).length k3,u,.bool em] 62 (0,0))/\os.length=i/\wr.ownsRow W1.heap.size 59 1 u os.length (os.flatMap csW)/\(∀g,u.ownBlock=some g->g≠ab)/\(∀(j:Nat) p,os[j]?=some p->p.2=jad 24 (F j)/\IntZ (Oth W1.heap.size ab u) wr p.1 p.2)/\IntZ (Oth W1.heap.size ab u) wr v2 (jad 24 f)/\IntZ (Oth W1.heap.size ab u) wr v3 (jad 24 l)/\Below W1.heap.size W1 wr) (fun c _=>n-(intOf c).toNat)
   case atStart=>exact⟨0,.slice none 0 0,[],zO _,rfl,bJ.out,rfl,World.ownsRow_nil _ _ _ _,by simp[Value.ownBlock],by simp,aM.out,aJ.out,bw.out⟩
   case round=>
    clear c0 c1 c2 c3 c4 q9;obtain⟨i,u,os,hi,rfl,ka,aK,af,a4,ap,aY,a0,ay⟩:=hrel;obtain⟨ua,uc,hu⟩:=jab af;rw[aK]at hu;subst hu;have aP:=a7.out.below hS ((show Below w.heap.size w W1 from aC.out).trans (ay.mono aC.out.size));obtain⟨⟨c0,c1,c2,c3,c4⟩,⟨y0,y1,y2,y3,y4⟩⟩:=jar ka;have ak:=lt_of_block ka;have aX:=zA ka;have az:=zA aK;have av:=zA af;have ba:=zA a4;have ar:=zA ap;have ao:=zA aY;have am:=zA a0;have aD:=zA ay;by_cases hlt:i<n
    . have aW:(i:Int)<(n:Int):=by omega
      have aG:i<24:=by have:=aU.out;omega
      have bl:(i:Int)<24:=by omega
      obtain⟨p0,_⟩:=aP.fol i aG;have bm:=(br.out i aG).1;have C:=zA (jcP (F i) wr.drew bm);obtain⟨Fi,aq⟩:=eX (F i);rw[<- aq]at p0 bm C;have bM:=zA aq;have ah:=af;rw[aK]at ah;have ag:=zA ah;have bD:W1.heap.size<=wr.heap.size:=ay.size;clear ka aK af a4 ap aY a0 ay aP aq ah c0 c1 c2 c4 y0 y1 y2 y4;go_wp2_with fail;go_region_law (first
       |(go_simp;refine C.out.mono ?_;rintro e w5 ⟨v5,rfl,aT,ai⟩;obtain⟨a5,k5,bK⟩:=jab aT;subst bK;have bd:=(ai.cell (p:=⟨ab,3,none⟩) ak).trans c3;have bk:=(ai.frozen (p:=⟨ab,3,none⟩) ak).trans y3;have aE:ab<w5.heap.size:=zQ ak ai.size)
       |(refine step_append_lies _ (by rfl) _ _ _ (by rfl) W1.heap.size 59 i0 _ 1 24 Tryz.underlying60 bV bU bX bt rfl (by decide) (.slice ua i uc) _ _ (by rfl) ((jao ag.out.drew ai).alloc _) ⟨w5.heap.size,0,none⟩ 1 1 [.slice a5 (jad 24 Fi).length k5] (by rfl) (by rfl) (World.news_of_block (cs:=#[.slice a5 (jad 24 Fi).length k5]) (t:=59) (fr:=(0,0)) (heap_alloc_new w5 _)) (by simp[Value.oneCell']) (by decide) (by unfold maxLen;omega) (by omega) (by have:=ai.size;simp at this ⊢;omega) (w5.heap.size+1) (by simp) ?_;intro gg aa w9 an ac aw aZ;have aS:=jb9 ac aE (fun e=>ba.out _ (by cases ua<;>exact e) rfl);have bC:=jfU aS bd;have bL:=jf7 aS bk))
      all_goals (
       have hK:∀b,b<w5.heap.size->b≠ab->(Value.slice ua i uc).ownBlock≠some b->(W1.heap.size<=b->Oth W1.heap.size ab (.slice (some ⟨gg,0,none⟩) (i+1) aa) b)/\(w9.setCell ⟨ab,3,none⟩ (.slice (some ⟨gg,0,none⟩) (i+1) aa)).heap[b]?=w5.heap[b]?:=fun b hlb hba aL=>by
        refine⟨fun hlo=>⟨hlo,hba,fun e=>?_⟩,?_⟩
        . have e2:gg=b:=by simpa[Value.ownBlock]using e
          rcases aw with h|h
          . exact aL (by rw[h,e2])
          . omega
        . rw[zM _ _ _ _ (by exact hba)];exact jb9 ac hlb aL
       have ae:wr.heap.size<=w5.heap.size:=ai.size;have bx:w5.heap.size<=w9.heap.size:=by have:=ac.size;simp at this;omega
       have ad:∀ {v:Value} {L:List Int},IntZ (Oth W1.heap.size ab (.slice ua i uc)) wr v L->IntZ (Oth W1.heap.size ab (.slice (some ⟨gg,0,none⟩) (i+1) aa)) (w9.setCell ⟨ab,3,none⟩ (.slice (some ⟨gg,0,none⟩) (i+1) aa)) v L:=fun h=>by
        refine h.keep (by simp;omega) (fun b hb hlb=>⟨(hK b (by omega) hb.2.1 hb.2.2).1 hb.1,(hK b (by omega) hb.2.1 hb.2.2).2.trans (ai.block b hlb)⟩)
       have HR:Hid (∃(u:Value) (ax:List (Value×List Int)),Value.slice (some ⟨gg,0,none⟩) (i+1) aa=u/\(w9.setCell ⟨ab,3,none⟩ (.slice (some ⟨gg,0,none⟩) (i+1) aa)).heap[ab]?=some (.cells #[.slice wa n wc,.slice a2 (jad 24 f).length k2,.slice a3 (jad 24 l).length k3,u,.bool em] 62 (0,0))/\ax.length=i+1/\(w9.setCell ⟨ab,3,none⟩ (.slice (some ⟨gg,0,none⟩) (i+1) aa)).ownsRow W1.heap.size 59 1 u ax.length (ax.flatMap csW)/\(∀g,u.ownBlock=some g->g≠ab)/\(∀(j:Nat) p,ax[j]?=some p->p.2=jad 24 (F j)/\IntZ (Oth W1.heap.size ab u) (w9.setCell ⟨ab,3,none⟩ (.slice (some ⟨gg,0,none⟩) (i+1) aa)) p.1 p.2)/\IntZ (Oth W1.heap.size ab u) (w9.setCell ⟨ab,3,none⟩ (.slice (some ⟨gg,0,none⟩) (i+1) aa)) v2 (jad 24 f)/\IntZ (Oth W1.heap.size ab u) (w9.setCell ⟨ab,3,none⟩ (.slice (some ⟨gg,0,none⟩) (i+1) aa)) v3 (jad 24 l)/\Below W1.heap.size W1 (w9.setCell ⟨ab,3,none⟩ (.slice (some ⟨gg,0,none⟩) (i+1) aa))):=zA (by
        have aI:gg≠ab:=by
         rcases aw with h|h
         . exact ba.out gg (by cases ua<;>exact h)
         . omega
        refine⟨_,os++[(.slice a5 (jad 24 Fi).length k5,jad 24 Fi)],rfl,?_,by rw[zG,az.out];rfl,?_,fun g hg=>?_,fun j p hp=>?_,ad ao.out,ad am.out,?_⟩
        . refine jfS (t:=62) (c3:=.slice ua i uc) ?_;rw[aS,ai.block ab ak];exact aX.out
        . rw[zG,az.out,zP];refine jae (w:=w9) (by simpa[csW]using an) (fun g o hg ho=>(zM _ _ _ _ (by
           have e2:gg=g:=by simpa[Value.ownBlock]using hg
           exact e2▸aI)).trans ho)
        . have e2:gg=g:=by simpa[Value.ownBlock]using hg
          exact e2▸aI
        . by_cases hj:j<os.length
          . rw[yJ hj]at hp;have:=ar.out j p hp;exact⟨this.1,ad this.2⟩
          . rw[yM (by omega)]at hp;have bI:j-os.length=0:=by
             have:=(zE.1 hp).1;simp at this;omega
            rw[bI]at hp;simp at hp;subst hp;have bv:j=i:=by have:=az.out;omega
            refine⟨by rw[bM.out,bv],?_⟩;exact(jaD jb4 aT rfl).keep (by simp;omega) (fun b hb hlb=>by
             have a6:wr.heap.size<=b:=(aT.lt b hb).1;have aL:(Value.slice ua i uc).ownBlock≠some b:=fun e=>by
              have:b<wr.heap.size:=(ag.out.lt b e).2;omega
             exact⟨(hK b hlb (by omega) aL).1 (by omega),(hK b hlb (by omega) aL).2⟩)
        . have bf:Below W1.heap.size W1 w5:=aD.out.drew.trans (ai.mono bD);have bu:Below W1.heap.size W1 w9:=(bf.alloc bf.size _).grown ac (by simp;omega) (fun k e=>(ag.out.lt k e).1);exact bu.setCell (p:=⟨ab,3,none⟩) bz _)
       clear hK ad an ac aw aZ aS bC bL aT ai bd bk;go_wp2;go_roundw
       case rel=>
        obtain⟨u,ax,_,r1,r2,r3,r4,r5,r6,r7,r8⟩:=HR.out;exact⟨i+1,u,ax,by omega,by go_num,r1,r2,r3,r4,r5,r6,r7,r8⟩
       case measure=>simp[intOf];omega)
    . have aW:¬(i:Int)<(n:Int):=by omega
      have bc:i=n:=by omega
      have e1:wr.heap[w.heap.size+1]?=some (.cells #[.slice none 0 0,.slice none 0 0,.slice none 0 0,.slice none 0 0,.bool false] 62 (0,0)):=by
       rw[ay.block (w.heap.size+1) (by have:=a9.out;omega),bO.out];exact(by simpa using heap_alloc_new (w.alloc (.cells #[.int .u32 (f:Int),.int .u32 (l:Int),.bool em] 103)) _)
      obtain⟨⟨r0,r1,r2,r3,r4⟩,⟨x0,x1,x2,x3,x4⟩⟩:=jar e1;obtain⟨⟨z0,z1,z2,z3,z4⟩,_⟩:=jar (jb2 (c0:=.slice wa n wc) (c1:=.slice a2 (jad 24 f).length k2) (c2:=.slice a3 (jad 24 l).length k3) (c3:=.slice ua i uc) (c4:=.bool em) e1);have hE:∃m:Mu,(Value.agg #[.slice wa n wc,.slice a2 (jad 24 f).length k2,.slice a3 (jad 24 l).length k3,.slice ua i uc,.bool em]:Value)=encU m/\UOk (fun g=>lo<=g) (set5P wr (w.heap.size+1) (.slice wa n wc) (.slice a2 (jad 24 f).length k2) (.slice a3 (jad 24 l).length k3) (.slice ua i uc) (.bool em)) m/\m.au=⟨ws,rise n A,rise n B,(List.range n).map (fun k=>rise n (folN ps k)),em⟩/\Below w.heap.size w (set5P wr (w.heap.size+1) (.slice wa n wc) (.slice a2 (jad 24 f).length k2) (.slice a3 (jad 24 l).length k3) (.slice ua i uc) (.bool em)):=by
       have aF:∀b,lo<=b->b≠w.heap.size+1->lo<=b/\(set5P wr (w.heap.size+1) (.slice wa n wc) (.slice a2 (jad 24 f).length k2) (.slice a3 (jad 24 l).length k3) (.slice ua i uc) (.bool em)).heap[b]?=wr.heap[b]?:=fun b hbl hb=>⟨hbl,jaS hb _ _ _ _ _⟩
       have ae:wr.heap.size<=(set5P wr (w.heap.size+1) (.slice wa n wc) (.slice a2 (jad 24 f).length k2) (.slice a3 (jad 24 l).length k3) (.slice ua i uc) (.bool em)).heap.size:=by rw[jbc];exact zD _
       have b6:=a9.out;have bY:=ja4 24 f;have b7:=ja4 24 l;have aj:=aU.out;have bB:ws.length<=24:=by rw[<- HN.out];exact aj
       refine⟨⟨.slice wa n wc,ws,.slice a2 (jad 24 f).length k2,jad 24 f,.slice a3 (jad 24 l).length k3,jad 24 l,.slice ua i uc,os,em⟩,rfl,⟨?_,?_,by dsimp only;omega,?_,by dsimp only;omega,?_,by dsimp only;omega,?_,?_,by dsimp only;rw[az.out];omega⟩,?_,?_⟩
       . have:=(jaD (enc:=csT) (k:=1) (fun _=>rfl) aP.row rfl).keep (T:=fun g=>lo<=g) ae (fun b hb _=>aF b (bQ.out b (by cases wa<;>exact hb)) (by have:=(a7.out.row.lt b hb).2;omega));rw[<- HN.out]at this;exact this
       . intro s hs;have:=bP.out s hs;omega
       . have:=ao.out.keep (T:=fun g=>lo<=g) ae (fun b hb _=>aF b (by have:=hb.1;omega) (by have:=hb.1;omega));rw[bE.out]at this;exact this
       . have:=am.out.keep (T:=fun g=>lo<=g) ae (fun b hb _=>aF b (by have:=hb.1;omega) (by have:=hb.1;omega));rw[bF.out]at this;exact this
       . have:=(jaD (enc:=csW) (k:=1) (fun _=>rfl) av.out rfl).keep (T:=fun g=>lo<=g) ae (fun b hb _=>aF b (by have:=(av.out.lt b hb).1;omega) (by have:=(av.out.lt b hb).1;omega));exact this
       . intro p hp;obtain⟨j,hj⟩:=List.getElem?_of_mem hp;obtain⟨h1,h2⟩:=ar.out j p hj;refine⟨h2.keep ae (fun b hb _=>aF b (by have:=hb.1;omega) (by have:=hb.1;omega)),?_⟩;rw[h1];have:=ja4 24 (F j);omega
       . refine jln ?_ ?_ ?_
         . exact jaZ bs.out.1.2 (by rw[HN.out];exact a8.out.1) aj
         . exact jaZ bs.out.2.2 (by rw[HN.out];exact a8.out.2.1) aj
         . apply List.ext_getElem?;intro j;rw[zI,zI];by_cases hj:j<n
           . obtain⟨p,hp⟩:∃p,os[j]?=some p:=⟨_,zB (by rw[az.out];omega)⟩
             rw[hp,yO hj];simp only[Option.map_some];rw[(ar.out j p hp).1];refine congrArg some (jaZ (fun i=>?_) (fun i hi=>?_) aj)
             . rw[(br.out j (by omega)).2,jbK]
             . rw[HN.out];exact a8.out.2.2 (j,i) (jbK.1 hi)
           . rw[yE (by rw[az.out];omega),yE (by simp;omega)];rfl
       . exact Below.set5P ((show Below w.heap.size w W1 from aC.out).trans (aD.out.mono aC.out.size)) (by omega) _ _ _ _ _
      obtain⟨m,bh,bo,bj,bi⟩:=hE;have HE:Hid (∃m:Mu,Ending.returned (Value.agg #[.slice wa n wc,.slice a2 (jad 24 f).length k2,.slice a3 (jad 24 l).length k3,.slice ua i uc,.bool em])=.returned (encU m)/\UOk (fun g=>lo<=g) (set5P wr (w.heap.size+1) (.slice wa n wc) (.slice a2 (jad 24 f).length k2) (.slice a3 (jad 24 l).length k3) (.slice ua i uc) (.bool em)) m/\m.au=⟨ws,rise n A,rise n B,(List.range n).map (fun k=>rise n (folN ps k)),em⟩/\Below w.heap.size w (set5P wr (w.heap.size+1) (.slice wa n wc) (.slice a2 (jad 24 f).length k2) (.slice a3 (jad 24 l).length k3) (.slice ua i uc) (.bool em))):=zA ⟨m,by rw[bh],bo,bj,bi⟩;have Z0:=zA z0;have Z1:=zA z1;have Z2:=zA z2;have Z3:=zA z3;have Z4:=zA z4;have b4:=zA bc;clear ka aK af a4 ap aY a0 ay aP z0 z1 z2 z3 z4 bh bo bj bi e1 bc;unfold set5P at HE Z0 Z1 Z2 Z3 Z4;go_wp2;refine bodyPost_ret (v:=.agg #[.slice wa n wc,.slice a2 (jad 24 f).length k2,.slice a3 (jad 24 l).length k3,.slice ua i uc,.bool em]) ?_ rfl HE.out;simp[results,Tryz.results54,go_sem,Z0.out,Z1.out,Z2.out,Z3.out,Z4.out]
 . obtain⟨W,ab,bn,aH,KA,KB,bz,bb,bg⟩:∃(W:World) (ab:Nat),(((((w3.setCell ⟨w2.heap.size,0,none⟩ (.slice wa n wc)).setCell ⟨w2.heap.size,1,none⟩ (.slice a2 (jad 24 f).length k2)).setCell ⟨w2.heap.size,2,none⟩ (.slice a3 (jad 24 l).length k3)).setCell ⟨w2.heap.size,3,none⟩ (.slice none 0 0)).setCell ⟨w2.heap.size,4,none⟩ (.bool em))=W/\w2.heap.size=ab/\W.heap[ab]?=some (.cells #[.slice wa n wc,.slice a2 (jad 24 f).length k2,.slice a3 (jad 24 l).length k3,.slice none 0 0,.bool em] 62 (0,0))/\Below W1.heap.size W1 W/\W1.heap.size<=ab/\IntZ (Oth W1.heap.size ab (.slice none 0 0)) W (.slice a2 (jad 24 f).length k2) (jad 24 f)/\IntZ (Oth W1.heap.size ab (.slice none 0 0)) W (.slice a3 (jad 24 l).length k3) (jad 24 l):=by
    refine⟨_,_,rfl,rfl,jb2 bq,Below.set5P aQ al (.slice wa n wc) (.slice a2 (jad 24 f).length k2) (.slice a3 (jad 24 l).length k3) (.slice none 0 0) (.bool em),al,?_,?_⟩
    . exact(jaD jb4 aO rfl).keep (w':=set5P w3 w2.heap.size (.slice wa n wc) (.slice a2 (jad 24 f).length k2) (.slice a3 (jad 24 l).length k3) (.slice none 0 0) (.bool em)) (by rw[jbc];have:=aN.size;simp at this;omega) (fun b hb hlt=>⟨⟨zT bH.out.size (aO.lt b hb).1,by omega,by simp[Value.ownBlock]⟩,(jaS (by omega) (.slice wa n wc) (.slice a2 (jad 24 f).length k2) (.slice a3 (jad 24 l).length k3) (.slice none 0 0) (.bool em)).trans ((aN.block b (by simp;omega)).trans (heap_alloc_old _ _ hlt))⟩)
    . exact(jaD jb4 aA rfl).keep (w':=set5P w3 w2.heap.size (.slice wa n wc) (.slice a2 (jad 24 f).length k2) (.slice a3 (jad 24 l).length k3) (.slice none 0 0) (.bool em)) (by rw[jbc];exact zD _) (fun b hb hlt=>⟨⟨zT al (zT (by simp) (aA.lt b hb).1),by have:=(aA.lt b hb).1;simp at this;omega,by simp[Value.ownBlock]⟩,jaS (by have:=(aA.lt b hb).1;simp at this;omega) (.slice wa n wc) (.slice a2 (jad 24 f).length k2) (.slice a3 (jad 24 l).length k3) (.slice none 0 0) (.bool em)⟩)
   rw[bn];simp only[aH];have b3:Hid (W1.heap.size=w.heap.size+2):=a9;clear bn aH;clear aO a6 aA aN aB aQ bq al g0 g1 g2 g3 g4 h0 h1 h2 h3 h4;have bJ:=zA KA;have bw:=zA KB;have aM:=zA bb;have aJ:=zA bg;have a1:=a7.out.below hS ((show Below w.heap.size w W1 from aC.out).trans (KB.mono aC.out.size));have q9:=a1.c0;rw[<- HN.out]at q9;obtain⟨⟨c0,c1,c2,c3,c4⟩,_⟩:=jar KA;have bZ:=zA a1;clear KA KB bb bg a1;obtain⟨v2,aV⟩:=eX (Value.slice a2 (jad 24 f).length k2);obtain⟨v3,aR⟩:=eX (Value.slice a3 (jad 24 l).length k3);rw[<- aV]at aM;rw[<- aR]at aJ;have bE:=zA aV;have bF:=zA aR;go_wp2_with fail;go_loopw [25] (fun c wr=>∃(i:Nat) (u:Value) (os:List (Value×List Int)),i<=n/\c=.int .i64 i/\wr.heap[ab]?=some (.cells #[.slice wa n wc,.slice a2 (jad 24 f).length k2,.slice a3 (jad 24 l).length k3,u,.bool em] 62 (0,0))/\os.length=i/\wr.ownsRow W1.heap.size 59 1 u os.length (os.flatMap csW)/\(∀g,u.ownBlock=some g->g≠ab)/\(∀(j:Nat) p,os[j]?=some p->p.2=jad 24 (F j)/\IntZ (Oth W1.heap.size ab u) wr p.1 p.2)/\IntZ (Oth W1.heap.size ab u) wr v2 (jad 24 f)/\IntZ (Oth W1.heap.size ab u) wr v3 (jad 24 l)/\Below W1.heap.size W1 wr) (fun c _=>n-(intOf c).toNat)
   case atStart=>exact⟨0,.slice none 0 0,[],zO _,rfl,bJ.out,rfl,World.ownsRow_nil _ _ _ _,by simp[Value.ownBlock],by simp,aM.out,aJ.out,bw.out⟩
   case round=>
    clear c0 c1 c2 c3 c4 q9;obtain⟨i,u,os,hi,rfl,ka,aK,af,a4,ap,aY,a0,ay⟩:=hrel;obtain⟨ua,uc,hu⟩:=jab af;rw[aK]at hu;subst hu;have aP:=a7.out.below hS ((show Below w.heap.size w W1 from aC.out).trans (ay.mono aC.out.size));obtain⟨⟨c0,c1,c2,c3,c4⟩,⟨y0,y1,y2,y3,y4⟩⟩:=jar ka;have ak:=lt_of_block ka;have aX:=zA ka;have az:=zA aK;have av:=zA af;have ba:=zA a4;have ar:=zA ap;have ao:=zA aY;have am:=zA a0;have aD:=zA ay;by_cases hlt:i<n
    . have aW:(i:Int)<(n:Int):=by omega
      have aG:i<24:=by have:=aU.out;omega
      have bl:(i:Int)<24:=by omega
      obtain⟨p0,_⟩:=aP.fol i aG;have bm:=(br.out i aG).1;have C:=zA (jcP (F i) wr.drew bm);obtain⟨Fi,aq⟩:=eX (F i);rw[<- aq]at p0 bm C;have bM:=zA aq;have ah:=af;rw[aK]at ah;have ag:=zA ah;have bD:W1.heap.size<=wr.heap.size:=ay.size;clear ka aK af a4 ap aY a0 ay aP aq ah c0 c1 c2 c4 y0 y1 y2 y4;go_wp2_with fail;go_region_law (first
       |(go_simp;refine C.out.mono ?_;rintro e w5 ⟨v5,rfl,aT,ai⟩;obtain⟨a5,k5,bK⟩:=jab aT;subst bK;have bd:=(ai.cell (p:=⟨ab,3,none⟩) ak).trans c3;have bk:=(ai.frozen (p:=⟨ab,3,none⟩) ak).trans y3;have aE:ab<w5.heap.size:=zQ ak ai.size)
       |(refine step_append_lies _ (by rfl) _ _ _ (by rfl) W1.heap.size 59 i0 _ 1 24 Tryz.underlying60 bV bU bX bt rfl (by decide) (.slice ua i uc) _ _ (by rfl) ((jao ag.out.drew ai).alloc _) ⟨w5.heap.size,0,none⟩ 1 1 [.slice a5 (jad 24 Fi).length k5] (by rfl) (by rfl) (World.news_of_block (cs:=#[.slice a5 (jad 24 Fi).length k5]) (t:=59) (fr:=(0,0)) (heap_alloc_new w5 _)) (by simp[Value.oneCell']) (by decide) (by unfold maxLen;omega) (by omega) (by have:=ai.size;simp at this ⊢;omega) (w5.heap.size+1) (by simp) ?_;intro gg aa w9 an ac aw aZ;have aS:=jb9 ac aE (fun e=>ba.out _ (by cases ua<;>exact e) rfl);have bC:=jfU aS bd;have bL:=jf7 aS bk))
      all_goals (
       have hK:∀b,b<w5.heap.size->b≠ab->(Value.slice ua i uc).ownBlock≠some b->(W1.heap.size<=b->Oth W1.heap.size ab (.slice (some ⟨gg,0,none⟩) (i+1) aa) b)/\(w9.setCell ⟨ab,3,none⟩ (.slice (some ⟨gg,0,none⟩) (i+1) aa)).heap[b]?=w5.heap[b]?:=fun b hlb hba aL=>by
        refine⟨fun hlo=>⟨hlo,hba,fun e=>?_⟩,?_⟩
        . have e2:gg=b:=by simpa[Value.ownBlock]using e
          rcases aw with h|h
          . exact aL (by rw[h,e2])
          . omega
        . rw[zM _ _ _ _ (by exact hba)];exact jb9 ac hlb aL
       have ae:wr.heap.size<=w5.heap.size:=ai.size;have bx:w5.heap.size<=w9.heap.size:=by have:=ac.size;simp at this;omega
       have ad:∀ {v:Value} {L:List Int},IntZ (Oth W1.heap.size ab (.slice ua i uc)) wr v L->IntZ (Oth W1.heap.size ab (.slice (some ⟨gg,0,none⟩) (i+1) aa)) (w9.setCell ⟨ab,3,none⟩ (.slice (some ⟨gg,0,none⟩) (i+1) aa)) v L:=fun h=>by
        refine h.keep (by simp;omega) (fun b hb hlb=>⟨(hK b (by omega) hb.2.1 hb.2.2).1 hb.1,(hK b (by omega) hb.2.1 hb.2.2).2.trans (ai.block b hlb)⟩)
       have HR:Hid (∃(u:Value) (ax:List (Value×List Int)),Value.slice (some ⟨gg,0,none⟩) (i+1) aa=u/\(w9.setCell ⟨ab,3,none⟩ (.slice (some ⟨gg,0,none⟩) (i+1) aa)).heap[ab]?=some (.cells #[.slice wa n wc,.slice a2 (jad 24 f).length k2,.slice a3 (jad 24 l).length k3,u,.bool em] 62 (0,0))/\ax.length=i+1/\(w9.setCell ⟨ab,3,none⟩ (.slice (some ⟨gg,0,none⟩) (i+1) aa)).ownsRow W1.heap.size 59 1 u ax.length (ax.flatMap csW)/\(∀g,u.ownBlock=some g->g≠ab)/\(∀(j:Nat) p,ax[j]?=some p->p.2=jad 24 (F j)/\IntZ (Oth W1.heap.size ab u) (w9.setCell ⟨ab,3,none⟩ (.slice (some ⟨gg,0,none⟩) (i+1) aa)) p.1 p.2)/\IntZ (Oth W1.heap.size ab u) (w9.setCell ⟨ab,3,none⟩ (.slice (some ⟨gg,0,none⟩) (i+1) aa)) v2 (jad 24 f)/\IntZ (Oth W1.heap.size ab u) (w9.setCell ⟨ab,3,none⟩ (.slice (some ⟨gg,0,none⟩) (i+1) aa)) v3 (jad 24 l)/\Below W1.heap.size W1 (w9.setCell ⟨ab,3,none⟩ (.slice (some ⟨gg,0,none⟩) (i+1) aa))):=zA (by
        have aI:gg≠ab:=by
         rcases aw with h|h
         . exact ba.out gg (by cases ua<;>exact h)
         . omega
        refine⟨_,os++[(.slice a5 (jad 24 Fi).length k5,jad 24 Fi)],rfl,?_,by rw[zG,az.out];rfl,?_,fun g hg=>?_,fun j p hp=>?_,ad ao.out,ad am.out,?_⟩
        . refine jfS (t:=62) (c3:=.slice ua i uc) ?_;rw[aS,ai.block ab ak];exact aX.out
        . rw[zG,az.out,zP];refine jae (w:=w9) (by simpa[csW]using an) (fun g o hg ho=>(zM _ _ _ _ (by
           have e2:gg=g:=by simpa[Value.ownBlock]using hg
           exact e2▸aI)).trans ho)
        . have e2:gg=g:=by simpa[Value.ownBlock]using hg
          exact e2▸aI
        . by_cases hj:j<os.length
          . rw[yJ hj]at hp;have:=ar.out j p hp;exact⟨this.1,ad this.2⟩
          . rw[yM (by omega)]at hp;have bI:j-os.length=0:=by
             have:=(zE.1 hp).1;simp at this;omega
            rw[bI]at hp;simp at hp;subst hp;have bv:j=i:=by have:=az.out;omega
            refine⟨by rw[bM.out,bv],?_⟩;exact(jaD jb4 aT rfl).keep (by simp;omega) (fun b hb hlb=>by
             have a6:wr.heap.size<=b:=(aT.lt b hb).1;have aL:(Value.slice ua i uc).ownBlock≠some b:=fun e=>by
              have:b<wr.heap.size:=(ag.out.lt b e).2;omega
             exact⟨(hK b hlb (by omega) aL).1 (by omega),(hK b hlb (by omega) aL).2⟩)
        . have bf:Below W1.heap.size W1 w5:=aD.out.drew.trans (ai.mono bD);have bu:Below W1.heap.size W1 w9:=(bf.alloc bf.size _).grown ac (by simp;omega) (fun k e=>(ag.out.lt k e).1);exact bu.setCell (p:=⟨ab,3,none⟩) bz _)
       clear hK ad an ac aw aZ aS bC bL aT ai bd bk;go_wp2;go_roundw
       case rel=>
        obtain⟨u,ax,_,r1,r2,r3,r4,r5,r6,r7,r8⟩:=HR.out;exact⟨i+1,u,ax,by omega,by go_num,r1,r2,r3,r4,r5,r6,r7,r8⟩
       case measure=>simp[intOf];omega)
    . have aW:¬(i:Int)<(n:Int):=by omega
      have bc:i=n:=by omega
      have e1:wr.heap[w.heap.size+1]?=some (.cells #[.slice none 0 0,.slice none 0 0,.slice none 0 0,.slice none 0 0,.bool false] 62 (0,0)):=by
       rw[ay.block (w.heap.size+1) (by have:=a9.out;omega),bO.out];exact(by simpa using heap_alloc_new (w.alloc (.cells #[.int .u32 (f:Int),.int .u32 (l:Int),.bool em] 103)) _)
      obtain⟨⟨r0,r1,r2,r3,r4⟩,⟨x0,x1,x2,x3,x4⟩⟩:=jar e1;obtain⟨⟨z0,z1,z2,z3,z4⟩,_⟩:=jar (jb2 (c0:=.slice wa n wc) (c1:=.slice a2 (jad 24 f).length k2) (c2:=.slice a3 (jad 24 l).length k3) (c3:=.slice ua i uc) (c4:=.bool em) e1);have hE:∃m:Mu,(Value.agg #[.slice wa n wc,.slice a2 (jad 24 f).length k2,.slice a3 (jad 24 l).length k3,.slice ua i uc,.bool em]:Value)=encU m/\UOk (fun g=>lo<=g) (set5P wr (w.heap.size+1) (.slice wa n wc) (.slice a2 (jad 24 f).length k2) (.slice a3 (jad 24 l).length k3) (.slice ua i uc) (.bool em)) m/\m.au=⟨ws,rise n A,rise n B,(List.range n).map (fun k=>rise n (folN ps k)),em⟩/\Below w.heap.size w (set5P wr (w.heap.size+1) (.slice wa n wc) (.slice a2 (jad 24 f).length k2) (.slice a3 (jad 24 l).length k3) (.slice ua i uc) (.bool em)):=by
       have aF:∀b,lo<=b->b≠w.heap.size+1->lo<=b/\(set5P wr (w.heap.size+1) (.slice wa n wc) (.slice a2 (jad 24 f).length k2) (.slice a3 (jad 24 l).length k3) (.slice ua i uc) (.bool em)).heap[b]?=wr.heap[b]?:=fun b hbl hb=>⟨hbl,jaS hb _ _ _ _ _⟩
       have ae:wr.heap.size<=(set5P wr (w.heap.size+1) (.slice wa n wc) (.slice a2 (jad 24 f).length k2) (.slice a3 (jad 24 l).length k3) (.slice ua i uc) (.bool em)).heap.size:=by rw[jbc];exact zD _
       have b6:=a9.out;have bY:=ja4 24 f;have b7:=ja4 24 l;have aj:=aU.out;have bB:ws.length<=24:=by rw[<- HN.out];exact aj
       refine⟨⟨.slice wa n wc,ws,.slice a2 (jad 24 f).length k2,jad 24 f,.slice a3 (jad 24 l).length k3,jad 24 l,.slice ua i uc,os,em⟩,rfl,⟨?_,?_,by dsimp only;omega,?_,by dsimp only;omega,?_,by dsimp only;omega,?_,?_,by dsimp only;rw[az.out];omega⟩,?_,?_⟩
       . have:=(jaD (enc:=csT) (k:=1) (fun _=>rfl) aP.row rfl).keep (T:=fun g=>lo<=g) ae (fun b hb _=>aF b (bQ.out b (by cases wa<;>exact hb)) (by have:=(a7.out.row.lt b hb).2;omega));rw[<- HN.out]at this;exact this
       . intro s hs;have:=bP.out s hs;omega
       . have:=ao.out.keep (T:=fun g=>lo<=g) ae (fun b hb _=>aF b (by have:=hb.1;omega) (by have:=hb.1;omega));rw[bE.out]at this;exact this
       . have:=am.out.keep (T:=fun g=>lo<=g) ae (fun b hb _=>aF b (by have:=hb.1;omega) (by have:=hb.1;omega));rw[bF.out]at this;exact this
       . have:=(jaD (enc:=csW) (k:=1) (fun _=>rfl) av.out rfl).keep (T:=fun g=>lo<=g) ae (fun b hb _=>aF b (by have:=(av.out.lt b hb).1;omega) (by have:=(av.out.lt b hb).1;omega));exact this
       . intro p hp;obtain⟨j,hj⟩:=List.getElem?_of_mem hp;obtain⟨h1,h2⟩:=ar.out j p hj;refine⟨h2.keep ae (fun b hb _=>aF b (by have:=hb.1;omega) (by have:=hb.1;omega)),?_⟩;rw[h1];have:=ja4 24 (F j);omega
       . refine jln ?_ ?_ ?_
         . exact jaZ bs.out.1.2 (by rw[HN.out];exact a8.out.1) aj
         . exact jaZ bs.out.2.2 (by rw[HN.out];exact a8.out.2.1) aj
         . apply List.ext_getElem?;intro j;rw[zI,zI];by_cases hj:j<n
           . obtain⟨p,hp⟩:∃p,os[j]?=some p:=⟨_,zB (by rw[az.out];omega)⟩
             rw[hp,yO hj];simp only[Option.map_some];rw[(ar.out j p hp).1];refine congrArg some (jaZ (fun i=>?_) (fun i hi=>?_) aj)
             . rw[(br.out j (by omega)).2,jbK]
             . rw[HN.out];exact a8.out.2.2 (j,i) (jbK.1 hi)
           . rw[yE (by rw[az.out];omega),yE (by simp;omega)];rfl
       . exact Below.set5P ((show Below w.heap.size w W1 from aC.out).trans (aD.out.mono aC.out.size)) (by omega) _ _ _ _ _
      obtain⟨m,bh,bo,bj,bi⟩:=hE;have HE:Hid (∃m:Mu,Ending.returned (Value.agg #[.slice wa n wc,.slice a2 (jad 24 f).length k2,.slice a3 (jad 24 l).length k3,.slice ua i uc,.bool em])=.returned (encU m)/\UOk (fun g=>lo<=g) (set5P wr (w.heap.size+1) (.slice wa n wc) (.slice a2 (jad 24 f).length k2) (.slice a3 (jad 24 l).length k3) (.slice ua i uc) (.bool em)) m/\m.au=⟨ws,rise n A,rise n B,(List.range n).map (fun k=>rise n (folN ps k)),em⟩/\Below w.heap.size w (set5P wr (w.heap.size+1) (.slice wa n wc) (.slice a2 (jad 24 f).length k2) (.slice a3 (jad 24 l).length k3) (.slice ua i uc) (.bool em))):=zA ⟨m,by rw[bh],bo,bj,bi⟩;have Z0:=zA z0;have Z1:=zA z1;have Z2:=zA z2;have Z3:=zA z3;have Z4:=zA z4;have b4:=zA bc;clear ka aK af a4 ap aY a0 ay aP z0 z1 z2 z3 z4 bh bo bj bi e1 bc;unfold set5P at HE Z0 Z1 Z2 Z3 Z4;go_wp2;refine bodyPost_ret (v:=.agg #[.slice wa n wc,.slice a2 (jad 24 f).length k2,.slice a3 (jad 24 l).length k3,.slice ua i uc,.bool em]) ?_ rfl HE.out;simp[results,Tryz.results54,go_sem,Z0.out,Z1.out,Z2.out,Z3.out,Z4.out]
 . obtain⟨W,ab,bn,aH,KA,KB,bz,bb,bg⟩:∃(W:World) (ab:Nat),(((((w3.setCell ⟨W1.heap.size,0,none⟩ (.slice wa n wc)).setCell ⟨W1.heap.size,1,none⟩ (.slice a2 (jad 24 f).length k2)).setCell ⟨W1.heap.size,2,none⟩ (.slice a3 (jad 24 l).length k3)).setCell ⟨W1.heap.size,3,none⟩ (.slice none 0 0)).setCell ⟨W1.heap.size,4,none⟩ (.bool em))=W/\W1.heap.size=ab/\W.heap[ab]?=some (.cells #[.slice wa n wc,.slice a2 (jad 24 f).length k2,.slice a3 (jad 24 l).length k3,.slice none 0 0,.bool em] 62 (0,0))/\Below W1.heap.size W1 W/\W1.heap.size<=ab/\IntZ (Oth W1.heap.size ab (.slice none 0 0)) W (.slice a2 (jad 24 f).length k2) (jad 24 f)/\IntZ (Oth W1.heap.size ab (.slice none 0 0)) W (.slice a3 (jad 24 l).length k3) (jad 24 l):=by
    refine⟨_,_,rfl,rfl,jb2 bq,Below.set5P aQ al (.slice wa n wc) (.slice a2 (jad 24 f).length k2) (.slice a3 (jad 24 l).length k3) (.slice none 0 0) (.bool em),al,?_,?_⟩
    . exact(jaD jb4 aO rfl).keep (w':=set5P w3 W1.heap.size (.slice wa n wc) (.slice a2 (jad 24 f).length k2) (.slice a3 (jad 24 l).length k3) (.slice none 0 0) (.bool em)) (by rw[jbc];exact aN.size) (fun b hb hlt=>⟨⟨zT bN.out.size (aO.lt b hb).1,by have:=(aO.lt b hb).1;simp at this;omega,by simp[Value.ownBlock]⟩,(jaS (by have:=(aO.lt b hb).1;simp at this;omega) (.slice wa n wc) (.slice a2 (jad 24 f).length k2) (.slice a3 (jad 24 l).length k3) (.slice none 0 0) (.bool em)).trans (aN.block b hlt)⟩)
    . exact(jaD jb4 aA rfl).keep (w':=set5P w3 W1.heap.size (.slice wa n wc) (.slice a2 (jad 24 f).length k2) (.slice a3 (jad 24 l).length k3) (.slice none 0 0) (.bool em)) (by rw[jbc];exact zD _) (fun b hb hlt=>⟨⟨zT aB.size (aA.lt b hb).1,by have:=(aA.lt b hb).1;have:=lt_of_block bG;omega,by simp[Value.ownBlock]⟩,jaS (by have:=(aA.lt b hb).1;have:=lt_of_block bG;omega) (.slice wa n wc) (.slice a2 (jad 24 f).length k2) (.slice a3 (jad 24 l).length k3) (.slice none 0 0) (.bool em)⟩)
   rw[bn];simp only[aH];have b3:Hid (W1.heap.size=w.heap.size+2):=a9;clear bn aH;clear aO a6 aA aN aB aQ bq al bt bS bG g0 g1 g2 g3 g4 h0 h1 h2 h3 h4;have bJ:=zA KA;have bw:=zA KB;have aM:=zA bb;have aJ:=zA bg;have a1:=a7.out.below hS ((show Below w.heap.size w W1 from aC.out).trans (KB.mono aC.out.size));have q9:=a1.c0;rw[<- HN.out]at q9;obtain⟨⟨c0,c1,c2,c3,c4⟩,_⟩:=jar KA;have bZ:=zA a1;clear KA KB bb bg a1;obtain⟨v2,aV⟩:=eX (Value.slice a2 (jad 24 f).length k2);obtain⟨v3,aR⟩:=eX (Value.slice a3 (jad 24 l).length k3);rw[<- aV]at aM;rw[<- aR]at aJ;have bE:=zA aV;have bF:=zA aR;go_wp2_with fail;go_loopw [25] (fun c wr=>∃(i:Nat) (u:Value) (os:List (Value×List Int)),i<=n/\c=.int .i64 i/\wr.heap[ab]?=some (.cells #[.slice wa n wc,.slice a2 (jad 24 f).length k2,.slice a3 (jad 24 l).length k3,u,.bool em] 62 (0,0))/\os.length=i/\wr.ownsRow W1.heap.size 59 1 u os.length (os.flatMap csW)/\(∀g,u.ownBlock=some g->g≠ab)/\(∀(j:Nat) p,os[j]?=some p->p.2=jad 24 (F j)/\IntZ (Oth W1.heap.size ab u) wr p.1 p.2)/\IntZ (Oth W1.heap.size ab u) wr v2 (jad 24 f)/\IntZ (Oth W1.heap.size ab u) wr v3 (jad 24 l)/\Below W1.heap.size W1 wr) (fun c _=>n-(intOf c).toNat)
   case atStart=>exact⟨0,.slice none 0 0,[],zO _,rfl,bJ.out,rfl,World.ownsRow_nil _ _ _ _,by simp[Value.ownBlock],by simp,aM.out,aJ.out,bw.out⟩
   case round=>
    clear c0 c1 c2 c3 c4 q9;obtain⟨i,u,os,hi,rfl,ka,aK,af,a4,ap,aY,a0,ay⟩:=hrel;obtain⟨ua,uc,hu⟩:=jab af;rw[aK]at hu;subst hu;have aP:=a7.out.below hS ((show Below w.heap.size w W1 from aC.out).trans (ay.mono aC.out.size));obtain⟨⟨c0,c1,c2,c3,c4⟩,⟨y0,y1,y2,y3,y4⟩⟩:=jar ka;have ak:=lt_of_block ka;have aX:=zA ka;have az:=zA aK;have av:=zA af;have ba:=zA a4;have ar:=zA ap;have ao:=zA aY;have am:=zA a0;have aD:=zA ay;by_cases hlt:i<n
    . have aW:(i:Int)<(n:Int):=by omega
      have aG:i<24:=by have:=aU.out;omega
      have bl:(i:Int)<24:=by omega
      obtain⟨p0,_⟩:=aP.fol i aG;have bm:=(br.out i aG).1;have C:=zA (jcP (F i) wr.drew bm);obtain⟨Fi,aq⟩:=eX (F i);rw[<- aq]at p0 bm C;have bM:=zA aq;have ah:=af;rw[aK]at ah;have ag:=zA ah;have bD:W1.heap.size<=wr.heap.size:=ay.size;clear ka aK af a4 ap aY a0 ay aP aq ah c0 c1 c2 c4 y0 y1 y2 y4;go_wp2_with fail;go_region_law (first
       |(go_simp;refine C.out.mono ?_;rintro e w5 ⟨v5,rfl,aT,ai⟩;obtain⟨a5,k5,bK⟩:=jab aT;subst bK;have bd:=(ai.cell (p:=⟨ab,3,none⟩) ak).trans c3;have bk:=(ai.frozen (p:=⟨ab,3,none⟩) ak).trans y3;have aE:ab<w5.heap.size:=zQ ak ai.size)
       |(refine step_append_lies _ (by rfl) _ _ _ (by rfl) W1.heap.size 59 i0 _ 1 24 Tryz.underlying60 bV bU bX bt rfl (by decide) (.slice ua i uc) _ _ (by rfl) ((jao ag.out.drew ai).alloc _) ⟨w5.heap.size,0,none⟩ 1 1 [.slice a5 (jad 24 Fi).length k5] (by rfl) (by rfl) (World.news_of_block (cs:=#[.slice a5 (jad 24 Fi).length k5]) (t:=59) (fr:=(0,0)) (heap_alloc_new w5 _)) (by simp[Value.oneCell']) (by decide) (by unfold maxLen;omega) (by omega) (by have:=ai.size;simp at this ⊢;omega) (w5.heap.size+1) (by simp) ?_;intro gg aa w9 an ac aw aZ;have aS:=jb9 ac aE (fun e=>ba.out _ (by cases ua<;>exact e) rfl);have bC:=jfU aS bd;have bL:=jf7 aS bk))
      all_goals (
       have hK:∀b,b<w5.heap.size->b≠ab->(Value.slice ua i uc).ownBlock≠some b->(W1.heap.size<=b->Oth W1.heap.size ab (.slice (some ⟨gg,0,none⟩) (i+1) aa) b)/\(w9.setCell ⟨ab,3,none⟩ (.slice (some ⟨gg,0,none⟩) (i+1) aa)).heap[b]?=w5.heap[b]?:=fun b hlb hba aL=>by
        refine⟨fun hlo=>⟨hlo,hba,fun e=>?_⟩,?_⟩
        . have e2:gg=b:=by simpa[Value.ownBlock]using e
          rcases aw with h|h
          . exact aL (by rw[h,e2])
          . omega
        . rw[zM _ _ _ _ (by exact hba)];exact jb9 ac hlb aL
       have ae:wr.heap.size<=w5.heap.size:=ai.size;have bx:w5.heap.size<=w9.heap.size:=by have:=ac.size;simp at this;omega
       have ad:∀ {v:Value} {L:List Int},IntZ (Oth W1.heap.size ab (.slice ua i uc)) wr v L->IntZ (Oth W1.heap.size ab (.slice (some ⟨gg,0,none⟩) (i+1) aa)) (w9.setCell ⟨ab,3,none⟩ (.slice (some ⟨gg,0,none⟩) (i+1) aa)) v L:=fun h=>by
        refine h.keep (by simp;omega) (fun b hb hlb=>⟨(hK b (by omega) hb.2.1 hb.2.2).1 hb.1,(hK b (by omega) hb.2.1 hb.2.2).2.trans (ai.block b hlb)⟩)
       have HR:Hid (∃(u:Value) (ax:List (Value×List Int)),Value.slice (some ⟨gg,0,none⟩) (i+1) aa=u/\(w9.setCell ⟨ab,3,none⟩ (.slice (some ⟨gg,0,none⟩) (i+1) aa)).heap[ab]?=some (.cells #[.slice wa n wc,.slice a2 (jad 24 f).length k2,.slice a3 (jad 24 l).length k3,u,.bool em] 62 (0,0))/\ax.length=i+1/\(w9.setCell ⟨ab,3,none⟩ (.slice (some ⟨gg,0,none⟩) (i+1) aa)).ownsRow W1.heap.size 59 1 u ax.length (ax.flatMap csW)/\(∀g,u.ownBlock=some g->g≠ab)/\(∀(j:Nat) p,ax[j]?=some p->p.2=jad 24 (F j)/\IntZ (Oth W1.heap.size ab u) (w9.setCell ⟨ab,3,none⟩ (.slice (some ⟨gg,0,none⟩) (i+1) aa)) p.1 p.2)/\IntZ (Oth W1.heap.size ab u) (w9.setCell ⟨ab,3,none⟩ (.slice (some ⟨gg,0,none⟩) (i+1) aa)) v2 (jad 24 f)/\IntZ (Oth W1.heap.size ab u) (w9.setCell ⟨ab,3,none⟩ (.slice (some ⟨gg,0,none⟩) (i+1) aa)) v3 (jad 24 l)/\Below W1.heap.size W1 (w9.setCell ⟨ab,3,none⟩ (.slice (some ⟨gg,0,none⟩) (i+1) aa))):=zA (by
        have aI:gg≠ab:=by
         rcases aw with h|h
         . exact ba.out gg (by cases ua<;>exact h)
         . omega
        refine⟨_,os++[(.slice a5 (jad 24 Fi).length k5,jad 24 Fi)],rfl,?_,by rw[zG,az.out];rfl,?_,fun g hg=>?_,fun j p hp=>?_,ad ao.out,ad am.out,?_⟩
        . refine jfS (t:=62) (c3:=.slice ua i uc) ?_;rw[aS,ai.block ab ak];exact aX.out
        . rw[zG,az.out,zP];refine jae (w:=w9) (by simpa[csW]using an) (fun g o hg ho=>(zM _ _ _ _ (by
           have e2:gg=g:=by simpa[Value.ownBlock]using hg
           exact e2▸aI)).trans ho)
        . have e2:gg=g:=by simpa[Value.ownBlock]using hg
          exact e2▸aI
        . by_cases hj:j<os.length
          . rw[yJ hj]at hp;have:=ar.out j p hp;exact⟨this.1,ad this.2⟩
          . rw[yM (by omega)]at hp;have bI:j-os.length=0:=by
             have:=(zE.1 hp).1;simp at this;omega
            rw[bI]at hp;simp at hp;subst hp;have bv:j=i:=by have:=az.out;omega
            refine⟨by rw[bM.out,bv],?_⟩;exact(jaD jb4 aT rfl).keep (by simp;omega) (fun b hb hlb=>by
             have a6:wr.heap.size<=b:=(aT.lt b hb).1;have aL:(Value.slice ua i uc).ownBlock≠some b:=fun e=>by
              have:b<wr.heap.size:=(ag.out.lt b e).2;omega
             exact⟨(hK b hlb (by omega) aL).1 (by omega),(hK b hlb (by omega) aL).2⟩)
        . have bf:Below W1.heap.size W1 w5:=aD.out.drew.trans (ai.mono bD);have bu:Below W1.heap.size W1 w9:=(bf.alloc bf.size _).grown ac (by simp;omega) (fun k e=>(ag.out.lt k e).1);exact bu.setCell (p:=⟨ab,3,none⟩) bz _)
       clear hK ad an ac aw aZ aS bC bL aT ai bd bk;go_wp2;go_roundw
       case rel=>
        obtain⟨u,ax,_,r1,r2,r3,r4,r5,r6,r7,r8⟩:=HR.out;exact⟨i+1,u,ax,by omega,by go_num,r1,r2,r3,r4,r5,r6,r7,r8⟩
       case measure=>simp[intOf];omega)
    . have aW:¬(i:Int)<(n:Int):=by omega
      have bc:i=n:=by omega
      have e1:wr.heap[w.heap.size+1]?=some (.cells #[.slice none 0 0,.slice none 0 0,.slice none 0 0,.slice none 0 0,.bool false] 62 (0,0)):=by
       rw[ay.block (w.heap.size+1) (by have:=a9.out;omega),bO.out];exact(by simpa using heap_alloc_new (w.alloc (.cells #[.int .u32 (f:Int),.int .u32 (l:Int),.bool em] 103)) _)
      obtain⟨⟨r0,r1,r2,r3,r4⟩,⟨x0,x1,x2,x3,x4⟩⟩:=jar e1;obtain⟨⟨z0,z1,z2,z3,z4⟩,_⟩:=jar (jb2 (c0:=.slice wa n wc) (c1:=.slice a2 (jad 24 f).length k2) (c2:=.slice a3 (jad 24 l).length k3) (c3:=.slice ua i uc) (c4:=.bool em) e1);have hE:∃m:Mu,(Value.agg #[.slice wa n wc,.slice a2 (jad 24 f).length k2,.slice a3 (jad 24 l).length k3,.slice ua i uc,.bool em]:Value)=encU m/\UOk (fun g=>lo<=g) (set5P wr (w.heap.size+1) (.slice wa n wc) (.slice a2 (jad 24 f).length k2) (.slice a3 (jad 24 l).length k3) (.slice ua i uc) (.bool em)) m/\m.au=⟨ws,rise n A,rise n B,(List.range n).map (fun k=>rise n (folN ps k)),em⟩/\Below w.heap.size w (set5P wr (w.heap.size+1) (.slice wa n wc) (.slice a2 (jad 24 f).length k2) (.slice a3 (jad 24 l).length k3) (.slice ua i uc) (.bool em)):=by
       have aF:∀b,lo<=b->b≠w.heap.size+1->lo<=b/\(set5P wr (w.heap.size+1) (.slice wa n wc) (.slice a2 (jad 24 f).length k2) (.slice a3 (jad 24 l).length k3) (.slice ua i uc) (.bool em)).heap[b]?=wr.heap[b]?:=fun b hbl hb=>⟨hbl,jaS hb _ _ _ _ _⟩
       have ae:wr.heap.size<=(set5P wr (w.heap.size+1) (.slice wa n wc) (.slice a2 (jad 24 f).length k2) (.slice a3 (jad 24 l).length k3) (.slice ua i uc) (.bool em)).heap.size:=by rw[jbc];exact zD _
       have b6:=a9.out;have bY:=ja4 24 f;have b7:=ja4 24 l;have aj:=aU.out;have bB:ws.length<=24:=by rw[<- HN.out];exact aj
       refine⟨⟨.slice wa n wc,ws,.slice a2 (jad 24 f).length k2,jad 24 f,.slice a3 (jad 24 l).length k3,jad 24 l,.slice ua i uc,os,em⟩,rfl,⟨?_,?_,by dsimp only;omega,?_,by dsimp only;omega,?_,by dsimp only;omega,?_,?_,by dsimp only;rw[az.out];omega⟩,?_,?_⟩
       . have:=(jaD (enc:=csT) (k:=1) (fun _=>rfl) aP.row rfl).keep (T:=fun g=>lo<=g) ae (fun b hb _=>aF b (bQ.out b (by cases wa<;>exact hb)) (by have:=(a7.out.row.lt b hb).2;omega));rw[<- HN.out]at this;exact this
       . intro s hs;have:=bP.out s hs;omega
       . have:=ao.out.keep (T:=fun g=>lo<=g) ae (fun b hb _=>aF b (by have:=hb.1;omega) (by have:=hb.1;omega));rw[bE.out]at this;exact this
       . have:=am.out.keep (T:=fun g=>lo<=g) ae (fun b hb _=>aF b (by have:=hb.1;omega) (by have:=hb.1;omega));rw[bF.out]at this;exact this
       . have:=(jaD (enc:=csW) (k:=1) (fun _=>rfl) av.out rfl).keep (T:=fun g=>lo<=g) ae (fun b hb _=>aF b (by have:=(av.out.lt b hb).1;omega) (by have:=(av.out.lt b hb).1;omega));exact this
       . intro p hp;obtain⟨j,hj⟩:=List.getElem?_of_mem hp;obtain⟨h1,h2⟩:=ar.out j p hj;refine⟨h2.keep ae (fun b hb _=>aF b (by have:=hb.1;omega) (by have:=hb.1;omega)),?_⟩;rw[h1];have:=ja4 24 (F j);omega
       . refine jln ?_ ?_ ?_
         . exact jaZ bs.out.1.2 (by rw[HN.out];exact a8.out.1) aj
         . exact jaZ bs.out.2.2 (by rw[HN.out];exact a8.out.2.1) aj
         . apply List.ext_getElem?;intro j;rw[zI,zI];by_cases hj:j<n
           . obtain⟨p,hp⟩:∃p,os[j]?=some p:=⟨_,zB (by rw[az.out];omega)⟩
             rw[hp,yO hj];simp only[Option.map_some];rw[(ar.out j p hp).1];refine congrArg some (jaZ (fun i=>?_) (fun i hi=>?_) aj)
             . rw[(br.out j (by omega)).2,jbK]
             . rw[HN.out];exact a8.out.2.2 (j,i) (jbK.1 hi)
           . rw[yE (by rw[az.out];omega),yE (by simp;omega)];rfl
       . exact Below.set5P ((show Below w.heap.size w W1 from aC.out).trans (aD.out.mono aC.out.size)) (by omega) _ _ _ _ _
      obtain⟨m,bh,bo,bj,bi⟩:=hE;have HE:Hid (∃m:Mu,Ending.returned (Value.agg #[.slice wa n wc,.slice a2 (jad 24 f).length k2,.slice a3 (jad 24 l).length k3,.slice ua i uc,.bool em])=.returned (encU m)/\UOk (fun g=>lo<=g) (set5P wr (w.heap.size+1) (.slice wa n wc) (.slice a2 (jad 24 f).length k2) (.slice a3 (jad 24 l).length k3) (.slice ua i uc) (.bool em)) m/\m.au=⟨ws,rise n A,rise n B,(List.range n).map (fun k=>rise n (folN ps k)),em⟩/\Below w.heap.size w (set5P wr (w.heap.size+1) (.slice wa n wc) (.slice a2 (jad 24 f).length k2) (.slice a3 (jad 24 l).length k3) (.slice ua i uc) (.bool em))):=zA ⟨m,by rw[bh],bo,bj,bi⟩;have Z0:=zA z0;have Z1:=zA z1;have Z2:=zA z2;have Z3:=zA z3;have Z4:=zA z4;have b4:=zA bc;clear ka aK af a4 ap aY a0 ay aP z0 z1 z2 z3 z4 bh bo bj bi e1 bc;unfold set5P at HE Z0 Z1 Z2 Z3 Z4;go_wp2;refine bodyPost_ret (v:=.agg #[.slice wa n wc,.slice a2 (jad 24 f).length k2,.slice a3 (jad 24 l).length k3,.slice ua i uc,.bool em]) ?_ rfl HE.out;simp[results,Tryz.results54,go_sem,Z0.out,Z1.out,Z2.out,Z3.out,Z4.out]
end Go.Proofs.YtkbgmcmcpbegjaaGreatDoor
