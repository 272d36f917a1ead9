/- XSome1, XSome2, XSome3, XFill0, XFill1. -/
import Derived.Test.YtkbgmcmcpbegjaaGreatDoorZR40
set_option maxRecDepth 100000
set_option maxHeartbeats 8000000
namespace Go.Proofs.YtkbgmcmcpbegjaaGreatDoor
open Go.RowKit Go.Shelf
def SomE(w:World)(F:Nat->Prop)(jb:Nat)(ds:List Sy)(n m:Nat)(lks:List Lm)(ls:List Lk)(r:Bool)(e:Ending)(w':World):Prop:=
 e=.returned (.bool r)/\Fr F w w'/\∃l,JS w' F jb ds n m lks ls l
theorem JS.sub{w w':World}{F F':Nat->Prop}{jb:Nat}{ds:List Sy}{n m:Nat}{lks:List Lm}{ls:List Lk}{l l':List Sx}(h:JS w F jb ds n m lks ls l)(hf:Fr F w w')(h':JS w' F' jb ds n m lks ls l')(hs:∀k,F k->F' k):JS w' F jb ds n m lks ls l':=by
 obtain⟨lv,h1,h2⟩:=h.lk;exact⟨h'.pool,h'.like,fun k hk=>h'.low k (hs k hk),fun k hk=>h'.un k (hs k hk),h'.tab,h.f0,h.jF,⟨lv,by simpa only[World.cell?,hf.block jb h.jF]using h1,h2.fr hf⟩,h.ll,h.ok,h.nn,h.mm⟩
theorem jkL(a b:Nat)(L:Lm):lnkB a b L=lnkB b a L:=by
 unfold lnkB;rw[Bool.or_comm]
theorem jjq(lks:List Lm)(x y:Nat):lnkOf lks x y=lnkOf lks y x:=by
 unfold lnkOf;congr 1;funext L;exact jkL x y L
theorem jbE.lnk{ds:List Sy}{n m:Nat}{lks:List Lm}{ls:List Lk}(h:jbE ds n m lks ls):∀l∈ls,lnkOf lks l.fr l.to=true:=fun l hl=>by
 obtain⟨i,hi⟩:=List.getElem?_of_mem hl;have hil:=(zE.1 hi).1;obtain⟨L,hL⟩:∃L,lks[i]?=some L:=⟨_,zB (by rw[<- h.len];exact hil)⟩
 obtain⟨h1,h2,_⟩:=h.at_ i L l hL hi;unfold lnkOf;rw[List.any_eq_true];exact⟨L,zC hL,by unfold lnkB;rw[h1,h2];simp⟩
theorem GrpE.use{w:World}{F:Nat->Prop}{jb:Nat}{ds:List Sy}{n:Nat}{c:Ch}{lks:List Lm}{ls:List Lk}{l:List Sx}{X:List Nat}{w1:World}{ug:Value}{rows:List (Value×List Nat)}{D:Nat->Prop}
 (h:JS w F jb ds n c.length lks ls l) (hgi:GI (lnkOf lks) (jio c X) (rows.map (·.2)) []) (hgm:GrM w D w1 ug rows []) (hX:∀k∈X,k<c.length) (hnd:X.Nodup) (hac:AC ls c) (hi:Iso ls c X):
 JS w1 (fun k=>F k\/D k\/ug.ownBlock=some k) jb ds n c.length lks ls l/\Fr F w w1/\SlS jaN 1 (fun k=>F k\/D k\/ug.ownBlock=some k) w1 ug rows/\
 (jb1 ls c X↔∀r∈rows,jb1 ls c r.2)/\∀r∈rows,NatC (fun k=>F k\/D k\/ug.ownBlock=some k) w1 r.1 r.2/\r.2≠[]/\r.2.Nodup/\r.2.length<=X.length/\(∀k∈r.2,k<c.length)/\Iso ls c r.2:=by
 have hp:jgl ls c X (rows.map (·.2)):=GI.parted hgi (jjq lks) h.ok.lnk;have aa:(jio c X).length<=X.length:=yH _ _;refine⟨h.more hgm.bel (fun k hk=>?_) (fun k hk=>.inl hk),jaK h.low hgm.bel,(jaD jaU hgm.row rfl).sub (fun k hk _=>.inr (.inr hk)),?_,fun r hr=>?_⟩
 . rcases hk with hk|hk|hk
   . exact .inl hk
   . exact .inr (hgm.dl k hk)
   . exact .inr (hgm.row.lt k hk)
 . rw[jjy hac hp];constructor
   . exact fun h1 r hr=>h1 r.2 (zW hr)
   . intro h1 G hG;obtain⟨r,hr,rfl⟩:=zV.1 hG;exact h1 r hr
 . have hm:r.2∈rows.map (·.2):=zW hr;refine⟨(hgm.ats r hr).sub (fun k hk _=>.inr (.inl hk)),hgi.ne r.2 hm,hgi.nodup (hnd.sublist List.filter_sublist) hm,zT (hgi.len.2 r.2 hm) aa,fun k hk=>hX k ((hp.mem k).1 ⟨r.2,hm,hk⟩).1,hp.iso hi hm⟩
def jf5(k jb:Nat)(ds:List Sy)(n:Nat)(lks:List Lm)(ls:List Lk):Prop:=
 ∀(w:World) (F:Nat->Prop) (c:Ch) (l:List Sx) (cv:Value) (G:List Nat) (gv:Value),JS w F jb ds n c.length lks ls l->ChR F w cv n c->AC ls c->NatC F w gv G->G≠[]->G.Nodup->G.length<=k->(∀x∈G,x<c.length)->Iso ls c G->
  Calls Tryz.prog 132 #[.pointer (some ⟨jb,0,none⟩),cv,gv] w (SomE w F jb ds n c.length lks ls (locB ls c G))
def jlM(k jb:Nat)(ds:List Sy)(n:Nat)(lks:List Lm)(ls:List Lk):Prop:=
 ∀(w:World) (F:Nat->Prop) (c:Ch) (l:List Sx) (cv:Value) (X:List Nat) (sv:Value),JS w F jb ds n c.length lks ls l->ChR F w cv n c->0<c.length->AC ls c->NatC F w sv X->X.Nodup->X.length<=k->(∀x∈X,x<c.length)->Iso ls c X->
  Calls Tryz.prog 101 #[.pointer (some ⟨jb,0,none⟩),cv,sv] w (SomE w F jb ds n c.length lks ls (locB ls c X))
theorem jgH{k jb:Nat}{ds:List Sy}{n:Nat}{lks:List Lm}{ls:List Lk}(hk:k<=1000)(H:jf5 k jb ds n lks ls):jlM k jb ds n lks ls:=by
 intro w F c l cv X sv h hc ap al au ay hXl hX hi;have C0:=zA (groups_any h hc ap au.1 hX (by omega));obtain⟨Q,hQ⟩:=eX (SomE w F jb ds n c.length lks ls (locB ls c X));rw[<- hQ];have HU:=zA (fun w1 ug rows D ah ai=>GrpE.use (w1:=w1) (ug:=ug) (rows:=rows) (D:=D) h ah ai hX ay al hi);have ad:Hid (∀(w1 wr:World) (F1:Nat->Prop) (r:Bool),r=locB ls c X->(∀q,F q->F1 q)->Fr F w w1->Fr F1 w1 wr->(∃l',JS wr F1 jb ds n c.length lks ls l')->Q (.returned (.bool r)) wr):=zA (fun w1 wr F1 r hr hs h1 h2 h3=>by
  obtain⟨l',h3⟩:=h3;have hf:=h1.trans (h2.sub hs);rw[hQ,hr];exact⟨rfl,hf,l',h.sub hf h3 hs⟩)
 have HH:=zA H;have HC:=zA hc;have aE:=zA al;clear hQ h hc ap al au ay hX hi H;go_enter Tryz.func101,Tryz.ntmps101;go_wp2_with fail;refine C0.out.mono ?_;rintro e w1 ⟨ug,rows,D,rfl,ah,ai⟩;obtain⟨u1,u2,u3,u4,u5⟩:=HU.out w1 ug rows D ah ai;have af:=ah.count;have aC:(jio c X).length<=X.length:=yH _ _;obtain⟨F1,ak⟩:=eX (fun q=>F q\/D q\/ug.ownBlock=some q);rw[<- ak]at u1 u3 u5;have ab:∀q,F q->F1 q:=fun q hq=>by rw[ak];exact .inl hq
 obtain⟨ga,gc,aq⟩:=u3.slice;obtain⟨nr,aj⟩:=eX rows.length;have hnrl:nr<=1000:=by
  rw[zH,<- aj]at af;omega
 rw[<- aj]at aq;clear ak ah ai af aC C0 HU;subst aq;have ar:=zA aj;have ae:=zA ab;have H2:=zA u2;have H3:=zA u3;have H4:=zA u4;have H5:=zA u5;have aG:Hid (∃l',JS w1 F1 jb ds n c.length lks ls l'):=zA ⟨_,u1⟩;have aF:Hid (ChR F1 w1 cv n c):=zA (HC.out.keep u2.size (fun b hb _=>⟨ab b hb,u2.block b hb⟩));clear u1 u2 u3 u4 u5 aj ab HC;go_wp2_with fail;go_loopw [14] (fun k wr=>∃j:Nat,j<=nr/\k=.int .i64 j/\Hid (Fr F1 w1 wr)/\Hid (∃l',JS wr F1 jb ds n c.length lks ls l')/\Hid (∀(i:Nat) r,i<j->rows[i]?=some r->jb1 ls c r.2)) (fun k _=>nr-(intOf k).toNat)
 case atStart=>exact⟨0,zO _,rfl,zA (Fr.refl _ _),aG,zA (fun i r hi=>absurd hi (Nat.not_lt_zero _))⟩
 case round=>
  obtain⟨j,hj,rfl,ac,HJ,HL⟩:=hrel;obtain⟨wx,aB⟩:=eX wr;subst aB;by_cases hjl:j<nr
  . have aD:(j:Int)<(nr:Int):=by omega
    obtain⟨r,hr⟩:∃r,rows[j]?=some r:=⟨_,zB (by rw[<- ar.out];exact hjl)⟩
    obtain⟨gb,off,aA,_,_,aa⟩:=(H3.out.fr ac.out).get hr;subst aA;have c0:=aa 0 _ rfl;rw[yC,yA]at c0;obtain⟨v1,v2,v3,v4,v5,v6⟩:=H5.out r (zC hr);obtain⟨l',ax⟩:=HJ.out;have CK:=zA (HH.out wx F1 c l' cv r.2 r.1 ax (aF.out.keep ac.out.size (fun b hb _=>⟨hb,ac.out.block b hb⟩)) aE.out (v1.fr ac.out) v2 v3 (by omega) v5 v6);obtain⟨ra,rc,av⟩:=v1.1.slice;obtain⟨rv,rl⟩:=r;dsimp only at CK c0 av;subst av;have ao:=zA hr;clear aa v1 v2 v3 v4 v5 v6 ax hr;go_wp2_with fail;refine CK.out.mono ?_;rintro e w3 ⟨rfl,an,aw⟩;have ag:=zA (ac.out.trans an);have am:=zA aw;clear an aw CK c0;obtain⟨t,ht⟩:=eX (locB ls c rl);have HT:=zA ht;rw[<- ht];clear ht;cases t with
    |true=>
     have az:Hid (∀(i:Nat) r,i<j+1->rows[i]?=some r->jb1 ls c r.2):=zA (fun i r hi hr=>by
      by_cases e:i=j
      . subst e;rw[ao.out]at hr;injection hr with hr;rw[<- hr];exact jbj.1 HT.out.symm
      . exact HL.out i r (by omega) hr)
     go_wp2;go_roundw
     case rel=>exact⟨j+1,by omega,by go_num,ag,am,az⟩
     case measure=>simp[intOf];omega
    |false=>
     have HE:=zA (ad.out w1 w3 F1 false (by
      cases hb:locB ls c X with
      |false=>rfl
      |true=>
       have h1:=H4.out.1 (jbj.1 hb) _ (zC ao.out);have h2:=jbj.2 h1;rw[<- HT.out]at h2;cases h2) ae.out H2.out ag.out am.out)
     go_wp2;all_goals (first|(go_ret;exact HE.out)|exact HE.out)
  . have aD:¬(j:Int)<(nr:Int):=by omega
    have HE:=zA (ad.out w1 wx F1 true (by
     refine(jbj.2 (H4.out.2 fun r hr=>?_)).symm;obtain⟨i,hi⟩:=List.getElem?_of_mem hr;have h1:=(zE.1 hi).1;rw[<- ar.out]at h1;exact HL.out i r (by omega) hi) ae.out H2.out ac.out HJ.out)
    go_wp2;all_goals (first|(go_ret;exact HE.out)|exact HE.out)
theorem je3(ls:List Lk)(c:Ch)(s v:Nat):(jas ls c s v).length=c.length:=by rw[jas,jaI,List.length_set]
theorem jbE.ne{ds:List Sy}{n m:Nat}{lks:List Lm}{ls:List Lk}(h:jbE ds n m lks ls):∀l∈ls,l.fr≠l.to:=fun l hl=>by
 obtain⟨i,hi⟩:=List.getElem?_of_mem hl;have hil:=(zE.1 hi).1;obtain⟨L,hL⟩:∃L,lks[i]?=some L:=⟨_,zB (by rw[<- h.len];exact hil)⟩
 obtain⟨h1,h2,h3,_⟩:=h.at_ i L l hL hi;rw[h1,h2];exact h3
theorem jg9{k jb:Nat}{ds:List Sy}{n:Nat}{lks:List Lm}{ls:List Lk}(hk:k<=1000)(H:jlM k jb ds n lks ls):jf5 (k+1) jb ds n lks ls:=by
 intro w F c l cv G gv h hc aw bg a0 aH ax hG hi;obtain⟨s,R,rfl⟩:∃s R,G=s::R:=by
  cases G with
  |nil=>exact absurd rfl a0
  |cons s R=>exact⟨s,R,rfl⟩
 have aq:=hG s (zN ..);have al:=jik h.ok.ne aw aH aq hi;obtain⟨aC,ao,ac,aT,aD⟩:=bg;obtain⟨nt,am⟩:=eX R.length;rw[yI,<- am]at aT aD;subst aT;obtain⟨g,ag,a3,aX,a9,aP⟩:=aC.get (j:=0) (x:=s) rfl;subst a3;have cs:=aP 0 _ rfl;rw[Nat.zero_mul,yA]at cs;have aI:∀(j:Nat) x,R[j]?=some x->w.cell? ⟨g,ag+1+j,none⟩=some (.int .i64 (x:Int)):=fun j x hx=>by
  obtain⟨g',off',e,_,_,bd⟩:=aC.get (j:=j+1) (x:=x) (by simpa using hx);injection e with e;injection e with e1 e2;subst e1 e2;have:=bd 0 _ rfl;rw[yC,yA]at this;rw[show ag+1+j=ag+(j+1) by omega];exact this
 have a6:Hid (ac=1->NatC F w (.slice (some ⟨g,ag,none⟩) 0 0) R):=zA (fun hc1=>by
  have h0:R=[]:=yP.1 (by omega);subst h0;exact⟨⟨_,0,rfl,.inl rfl⟩,_,0,rfl,zD _⟩)
 have a1:Hid (NatC F w (.slice (some ⟨g,ag+1,none⟩) nt (ac-1)) R):=zA (by
  refine⟨⟨_,ac-1,by rw[am],.inr ⟨g,ag+1,rfl,aX,a9,fun j x hx q u hu=>?_⟩⟩,_,ac-1,by rw[am],by omega⟩
  match q,hu with
  |0,hu=>
   simp at hu;subst hu;rw[yC,yA];exact aI j x hx
  |q+1,hu=>simp at hu)
 obtain⟨ab,aB,aF,aZ,aW⟩:=hc.ex;have bh:ab.length=c.length:=by rw[<- aB,zH]
 obtain⟨r,hr⟩:∃r,ab[s]?=some r:=⟨_,zB (by omega)⟩
 have az:atC c s=r.2:=by unfold atC;rw[<- aB,List.getD,zI,hr];rfl
 obtain⟨ca,cc,aN⟩:=aF.slice;obtain⟨nc,aO⟩:=eX ab.length;rw[<- aO]at aN;subst aN;obtain⟨gc,a8,a2,aU,_,aV⟩:=aF.get hr;subst a2;have cr:=aV 0 _ rfl;rw[yC,yA]at cr;have ap:=aZ r (zC hr);have au:=aW r (zC hr);obtain⟨rv,VL⟩:=r;dsimp only at az cr ap au;obtain⟨ra,rc,aY⟩:=ap.1.slice;obtain⟨nv,an⟩:=eX VL.length;rw[<- an]at aY;subst aY;have hnvl:nv<=10000:=by rw[an];exact au.2
 have hscI:(s:Int)<(nc:Int):=by omega
 have hsN:s<nc:=by omega
 have hcapI:(nt:Int)+1<=(ac:Int):=by omega
 have hntI:(0:Int)<(nt:Int)+1:=by omega
 have hntl:nt<=1000:=by rw[yI,<- am]at ax;omega
 obtain⟨Q,hQ⟩:=eX (SomE w F jb ds n c.length lks ls (locB ls c (s::R)));rw[<- hQ];have ai:Hid (∀(wr:World) (r:Bool),r=locB ls c (s::R)->Fr F w wr->(∃l',JS wr F jb ds n c.length lks ls l')->Q (.returned (.bool r)) wr):=zA (fun wr r hr h1 h3=>by
  rw[hQ,hr];exact⟨rfl,h1,h3⟩)
 have aj:=zA al;have aE:Hid (∀v,v∈VL↔v∈atC c s):=zA (fun v=>by rw[az]);have ba:=zA ap;have bf:=zA h;have bb:=zA hc;have bm:=zA aw;have a7:=zA aq;have aS:=zA an;have bc:Hid (∀W:World,Fr F w W->W.cell? ⟨gc,a8+s,none⟩=some (.slice ra nv rc)):=zA (fun W hW=>by simpa only[World.cell?,hW.block gc aU]using cr);have ay:Hid (∀(W:World) (l':List Sx) (v:Nat) (rv:Value) (w3:World) (v3:Value),Fr F w W->JS W F jb ds n c.length lks ls l'->NatC F w rv R->ChoE W F jb ds n c.length lks ls v3 (jas ls c s v) w3->Calls Tryz.prog 101 #[.pointer (some ⟨jb,0,none⟩),v3,rv] w3 fun e w4=>e=.returned (.bool (locB ls (jas ls c s v) R))/\Fr F W w4/\∃l',JS w4 F jb ds n c.length lks ls l'):=zA (fun W l' v rv w3 v3 hW hJ hrv ae=>by
  obtain⟨F',l3,e1,e2,e3,e4⟩:=ae;have ar:=je3 ls c s v;have aM:=e3;rw[<- ar]at aM;refine(H w3 F' (jas ls c s v) l3 v3 R rv aM e4 (by rw[ar];omega) (jdb _ _) ((hrv.fr (hW.trans e2)).sub (fun q hq _=>e1 q hq)) (List.nodup_cons.1 aH).2 (by rw[yI]at ax;omega) (fun x hx=>by rw[ar];exact hG x (zR _ hx)) (jiu aq hi)).mono ?_;rintro e w4 ⟨he,hf,l4,ah⟩;rw[ar]at ah;have aQ:=e2.trans (hf.sub e1);exact⟨he,aQ,l4,hJ.sub aQ ah e1⟩)
 have aG:=zA h.low;clear hQ h hc aw a0 aH ax hG hi aq al aC aP aI aB aF aZ aW bh hr az aV ap au an aO am aX aU;go_enter Tryz.func132,Tryz.ntmps132;go_upto_region 1 with fail;go_cut [7,8] (fun s7 s8 wz=>s7=.int .i64 (s:Int)/\Hid (NatC F w s8 R)/\Hid (Below w.heap.size w wz))
 case first=>
  by_cases hc1:ac=1
  . have HQ:=zA (a6.out hc1);subst hc1;have av:nt=0:=by omega
    subst av;go_quiet (fail);refine Met.intro ?_;go_step
    apply_assumption
    (repeat apply Exists.intro)
    refine⟨?_,rfl⟩;exact⟨rfl,HQ,zA ⟨rfl,rfl,rfl,zD _,fun _ _=>rfl⟩⟩
  . have hc2:¬(ac:Int)=1:=by omega
    go_quiet (fail);refine Met.intro ?_;go_step
    apply_assumption
    (repeat apply Exists.intro)
    refine⟨?_,rfl⟩;exact⟨rfl,a1,zA ⟨rfl,rfl,rfl,zD _,fun _ _=>rfl⟩⟩
 case rest=>
 obtain⟨rfl,a5,HB⟩:=hcut;obtain⟨wb,bj⟩:=eX wc;subst bj;have aK:Hid (Fr F w wb):=zA (jaK aG.out HB.out);have bn:Hid (∃l',JS wb F jb ds n c.length lks ls l'):=zA ⟨_,bf.out.below HB.out⟩;have cr2:=bc.out wb aK.out;clear HB cs cr;go_wp2_with fail;go_loopw [21] (fun k wr=>∃j:Nat,j<=nv/\k=.int .i64 j/\Hid (Fr F w wr)/\Hid (∃l',JS wr F jb ds n c.length lks ls l')/\Hid (∀(i:Nat) v,i<j->VL[i]?=some v->¬jb1 ls (jas ls c s v) R)) (fun k _=>nv-(intOf k).toNat)
 case atStart=>exact⟨0,zO _,rfl,aK,bn,zA (fun i v hi=>absurd hi (Nat.not_lt_zero _))⟩
 case round=>
  obtain⟨j,hj,rfl,af,HJ,HL⟩:=hrel;obtain⟨wx,a4⟩:=eX wr;subst a4;by_cases hjl:j<nv
  . have bl:(j:Int)<(nv:Int):=by omega
    obtain⟨v,hv⟩:∃v,VL[j]?=some v:=⟨_,zB (by rw[<- aS.out];exact hjl)⟩
    obtain⟨gb,ofb,bk,_,_,aa⟩:=(ba.out.1.fr af.out).get hv;subst bk;have c0:=aa 0 _ rfl;rw[yC,yA]at c0;obtain⟨l',aA⟩:=HJ.out;have CK:=zA (jiw aA (bb.out.keep af.out.size (fun b hb _=>⟨hb,af.out.block b hb⟩)) a7.out ((aE.out v).1 (zC hv)) bm.out);have CA:=zA (fun w3 v3 ae=>ay.out wx l' v u8 w3 v3 af.out aA a5.out ae);have aJ:=zA hv;clear aa aA hv;go_wp2_with fail;refine CK.out.mono ?_;rintro e w3 ⟨v3,rfl,ae⟩;have CB:=zA (CA.out w3 v3 ae);clear ae CK CA c0;go_wp2_with fail;refine CB.out.mono ?_;rintro e w4 ⟨rfl,aR,ah⟩;have ak:=zA (af.out.trans aR);have aL:=zA ah;clear aR ah CB;obtain⟨t,ht⟩:=eX (locB ls (jas ls c s v) R);have HT:=zA ht;rw[<- ht];clear ht;cases t with
    |true=>
     have HE:=zA (ai.out w4 true (jbj.2 (aj.out.2 ⟨v,(aE.out v).1 (zC aJ.out),jbj.1 HT.out.symm⟩)).symm ak.out aL.out);go_wp2;all_goals (first|(go_ret;exact HE.out)|exact HE.out)
    |false=>
     have bi:Hid (∀(i:Nat) v,i<j+1->VL[i]?=some v->¬jb1 ls (jas ls c s v) R):=zA (fun i v' hi hv'=>by
      by_cases e:i=j
      . subst e;rw[aJ.out]at hv';injection hv' with hv';rw[<- hv'];intro ad;have h2:=jbj.2 ad;rw[<- HT.out]at h2;cases h2
      . exact HL.out i v' (by omega) hv')
     go_wp2;go_roundw
     case rel=>exact⟨j+1,by omega,by go_num,ak,aL,bi⟩
     case measure=>simp[intOf];omega
  . have bl:¬(j:Int)<(nv:Int):=by omega
    have HE:=zA (ai.out wx false (by
     cases hb:locB ls c (s::R)with
     |false=>rfl
     |true=>
      obtain⟨v,hv,ad⟩:=aj.out.1 (jbj.1 hb);obtain⟨i,hi⟩:=List.getElem?_of_mem ((aE.out v).2 hv);have h1:=(zE.1 hi).1;rw[<- aS.out]at h1;exact absurd ad (HL.out i v (by omega) hi)) af.out HJ.out)
    go_wp2;all_goals (first|(go_ret;exact HE.out)|exact HE.out)
theorem jeL{jb:Nat}{ds:List Sy}{n:Nat}{lks:List Lm}{ls:List Lk}:jf5 0 jb ds n lks ls:=by
 intro w F c l cv G gv _ _ _ _ aa _ hl;exact absurd (yP.1 (by omega)) aa
theorem jhM{jb:Nat}{ds:List Sy}{n:Nat}{lks:List Lm}{ls:List Lk}:∀(k:Nat),k<=1000->jf5 k jb ds n lks ls/\jlM k jb ds n lks ls
 |0,_=>⟨jeL,jgH (by omega) jeL⟩
 |k+1,hk=>by
  have h1:=jg9 (jb:=jb) (ds:=ds) (n:=n) (lks:=lks) (ls:=ls) (by omega) (jhM k (by omega)).2;exact⟨h1,jgH hk h1⟩
abbrev UL(l:List Sx)(k:Nat):Prop:=∀x∈l,¬OwnX x k
structure Jv where
 sv:Value
 av:Value
 vv:Value
 lv:Value
 rv:Value
 cv:Value
 fv:Value
def Jv.cells(J:Jv):Array Value:=#[J.sv,J.av,J.vv,J.lv,J.rv,J.cv,J.fv]
def Jv.with(J:Jv)(v:Value):Jv:={ J with fv:=v }
structure Jz (F:Nat->Prop) (w:World) (jb:Nat) (J:Jv) (ds:List Sy) (n m:Nat) (lks:List Lm) (ls:List Lk) (us:List Nat) (l:List Sx):Prop where
 pool:Pool w l
 like:l.map syOf=ds
 tab:TabG w
 f0:F 0
 low:Low F w
 un:∀k,F k->UL l k
 ju:UL l jb
 jF:¬F jb
 jk:∀y∈ds,¬y.2.kp jb
 blk:w.heap[jb]?=some (.cells J.cells 134 (0,0))
 lk:SlS csL 4 F w J.lv lks
 al:NatC F w J.av (List.range m)
 va:NatC F w J.vv us
 ll:lks.length<=1000
 ok:jbE ds n m lks ls
 nn:n<=10000
 mm:m<=1000
 ul:us.length<=1000
section
variable {F:Nat->Prop} {w w':World} {jb:Nat} {J J':Jv} {ds:List Sy} {n m:Nat} {lks:List Lm} {ls:List Lk} {us:List Nat} {l l':List Sx}
theorem Jz.lt(h:Jz F w jb J ds n m lks ls us l):jb<w.heap.size:=lt_of_block h.blk
theorem Jz.cell(h:Jz F w jb J ds n m lks ls us l):w.cell? ⟨jb,1,none⟩=some J.av/\w.cell? ⟨jb,2,none⟩=some J.vv/\w.cell? ⟨jb,3,none⟩=some J.lv/\w.cell? ⟨jb,4,none⟩=some J.rv/\w.cell? ⟨jb,5,none⟩=some J.cv/\w.cell? ⟨jb,6,none⟩=some J.fv/\w.frozen? ⟨jb,6,none⟩=false:=by
 simp[World.cell?,World.frozen?,h.blk,Jv.cells]
theorem Jz.js(h:Jz F w jb J ds n m lks ls us l):JS w (fun k=>k<w.heap.size/\UL l k) jb ds n m lks ls l:=
 ⟨h.pool,h.like,fun _ hk=>hk.1,fun _ hk=>hk.2,h.tab,⟨h.low 0 h.f0,h.un 0 h.f0⟩,⟨h.lt,h.ju⟩,⟨J.lv,h.cell.2.2.1,h.lk.sub (fun k hk hl=>⟨hl,h.un k hk⟩)⟩,h.ll,h.ok,h.nn,h.mm⟩
theorem Jz.call{T:Nat->Prop}(h:Jz F w jb J ds n m lks ls us l)(hf:Fr (fun k=>k<w.heap.size/\UL l k) w w')(h1:JS w' T jb ds n m lks ls l')(hs:∀k,k<w.heap.size->UL l k->T k):Jz F w' jb J ds n m lks ls us l':=by
 have hF:Fr F w w':=hf.sub (fun k hk=>⟨h.low k hk,h.un k hk⟩);exact⟨h1.pool,h1.like,h1.tab,h.f0,h.low.fr hF,fun k hk=>h1.un k (hs k (h.low k hk) (h.un k hk)),h1.un jb (hs jb h.lt h.ju),h.jF,h.jk,(hf.block jb ⟨h.lt,h.ju⟩).trans h.blk,h.lk.fr hF,h.al.fr hF,h.va.fr hF,h.ll,h.ok,h.nn,h.mm,h.ul⟩
theorem Jz.kp(h:Jz F w jb J ds n m lks ls us l){x:Sx}(hx:x∈l):syOf x∈ds:=by
 rw[<- h.like];exact zW hx
theorem Jz.write{M:Nat->Prop}(h:Jz F w jb J ds n m lks ls us l)(hz:w.heap.size<=w'.heap.size)(ho:w'.os=w.os)(ht:w'.tape=w.tape)(hu:w'.output=w.output)(hk:∀k,k<w.heap.size->k≠jb->¬M k->w'.heap[k]?=w.heap[k]?)(hM:∀k,M k->UL l k/\¬F k/\∀y∈ds,¬y.2.kp k)
 (hj:w'.heap[jb]?=some (.cells J'.cells 134 (0,0))) (e1:J'.lv=J.lv) (e2:J'.av=J.av) (e3:J'.vv=J.vv):Jz F w' jb J' ds n m lks ls us l:=by
 have hF:Fr F w w':=⟨ho,ht,hu,hz,fun k hk2=>hk k (h.low k hk2) (fun e=>h.jF (e▸hk2)) (fun hm=>(hM k hm).2.1 hk2)⟩
 refine⟨h.pool.keep hz (fun x hx k hk2=>?_),h.like,h.tab.fr h.f0 hF,h.f0,h.low.fr hF,h.un,h.ju,h.jF,h.jk,hj,?_,?_,?_,h.ll,h.ok,h.nn,h.mm,h.ul⟩
 . rcases hk2 with h1|h1
   . exact hk k (h.pool.own_lt hx h1) (fun e=>h.ju x hx (e▸h1)) (fun hm=>(hM k hm).1 x hx h1)
   . exact hk k (h.pool.kp_lt hx h1) (fun e=>h.jk _ (h.kp hx) (e▸h1)) (fun hm=>(hM k hm).2.2 _ (h.kp hx) h1)
 . rw[e1];exact h.lk.fr hF
 . rw[e2];exact h.al.fr hF
 . rw[e3];exact h.va.fr hF
theorem Jz.fresh(h:Jz F w jb J ds n m lks ls us l){k:Nat}(hk:w.heap.size<=k):UL l k/\¬F k/\k≠jb/\∀y∈ds,¬y.2.kp k:=by
 refine⟨fun x hx ho=>?_,fun hf=>?_,fun e=>?_,fun y hy hkp=>?_⟩
 . have:=h.pool.own_lt hx ho;omega
 . have:=h.low k hf;omega
 . have:=h.lt;omega
 . rw[<- h.like]at hy;obtain⟨x,hx,rfl⟩:=zV.1 hy;have:=h.pool.kp_lt hx hkp;omega
def Mine(F:Nat->Prop)(w:World)(jb:Nat)(ds:List Sy)(l:List Sx)(X:Nat->Prop):Prop:=∀k,X k->k<w.heap.size/\UL l k/\¬F k/\k≠jb/\∀y∈ds,¬y.2.kp k
def FoS(w:World)(X:Nat->Prop)(fv:Value)(fl:List (List Nat)):Prop:=
 ∃rows:List (Value×List Nat),rows.map (·.2)=fl/\w.ownsRow 0 59 1 fv rows.length (rows.flatMap jaN)/\(∀g,fv.ownBlock=some g->X g)/\∀r∈rows,NatC (fun k=>X k/\fv.ownBlock≠some k) w r.1 r.2
theorem FoS.keep{X:Nat->Prop}{fv:Value}{fl:List (List Nat)}(h:FoS w X fv fl)(hz:w.heap.size<=w'.heap.size)(hk:∀k,X k->w'.heap[k]?=w.heap[k]?):FoS w' X fv fl:=by
 obtain⟨aa,h1,h2,h3,h4⟩:=h;exact⟨aa,h1,jae h2 (fun g o hg ho=>(hk g (h3 g hg)).trans ho),h3,fun r hr=>(h4 r hr).keep hz (fun k hk2 _=>⟨hk2,hk k hk2.1⟩)⟩
structure FFr (w w':World) (l l':List Sx) (M:Nat->Prop):Prop where
 os:w'.os=w.os
 tape:w'.tape=w.tape
 output:w'.output=w.output
 size:w.heap.size<=w'.heap.size
 keep:∀k,k<w.heap.size->UL l k->¬M k->w'.heap[k]?=w.heap[k]?
 un:∀k,k<w.heap.size->UL l k->UL l' k
theorem FFr.refl(w:World)(l:List Sx)(M:Nat->Prop):FFr w w l l M:=⟨rfl,rfl,rfl,zD _,fun _ _ _ _=>rfl,fun _ _ h=>h⟩
theorem FFr.mono{M M2:Nat->Prop}(h:FFr w w' l l' M)(hM:∀k,M k->M2 k):FFr w w' l l' M2:=⟨h.os,h.tape,h.output,h.size,fun k hk hu hm=>h.keep k hk hu (fun h2=>hm (hM k h2)),h.un⟩
theorem FFr.trans{w2:World}{l2:List Sx}{M M2:Nat->Prop}(h:FFr w w' l l' M)(h2:FFr w' w2 l' l2 M2)(hM:∀k,M2 k->M k\/w.heap.size<=k):FFr w w2 l l2 M:=
 ⟨h2.os.trans h.os,h2.tape.trans h.tape,h2.output.trans h.output,zT h.size h2.size,fun k hk hu hm=>(h2.keep k (zQ hk h.size) (h.un k hk hu) (fun h3=>(hM k h3).elim hm (fun h4=>by omega))).trans (h.keep k hk hu hm),fun k hk hu=>h2.un k (zQ hk h.size) (h.un k hk hu)⟩
theorem FFr.call{T:Nat->Prop}{M:Nat->Prop}(hf:Fr (fun k=>k<w.heap.size/\UL l k) w w')(h1:JS w' T jb ds n m lks ls l')(hs:∀k,k<w.heap.size->UL l k->T k):FFr w w' l l' M:=
 ⟨hf.os,hf.tape,hf.output,hf.size,fun k hk hu _=>hf.block k ⟨hk,hu⟩,fun k hk hu=>h1.un k (hs k hk hu)⟩
end
structure FI (F:Nat->Prop) (w:World) (jb:Nat) (J:Jv) (ds:List Sy) (n m:Nat) (lks:List Lm) (ls:List Lk) (us:List Nat) (l:List Sx) (X C:Nat->Prop) (cv:Value) (c:Ch) (rv:Value) (row:List Nat) (fl:List (List Nat)):Prop where
 jz:Jz F w jb J ds n m lks ls us l
 xm:Mine F w jb ds l X
 fo:FoS w X J.fv fl
 row:QRow 0 w rv row
 rm:Mine F w jb ds l (QB rv)
 rx:∀k,QB rv k->¬X k
 ch:ChR C w cv n c
 cm:∀k,C k->k<w.heap.size/\UL l k/\k≠jb/\¬X k/\¬QB rv k
 ac:AC ls c
 cl:c.length=m
 m0:0<m
 fle:fl.length<=4096
abbrev FM(jb:Nat)(X:Nat->Prop)(rv:Value)(k:Nat):Prop:=k=jb\/X k\/QB rv k
structure FO (F:Nat->Prop) (w:World) (jb:Nat) (J:Jv) (ds:List Sy) (n m:Nat) (lks:List Lm) (ls:List Lk) (us:List Nat) (l:List Sx) (X:Nat->Prop) (rv:Value) (row:List Nat) (fl:List (List Nat)) (w':World):Prop where
 ex:∃fv' l' X',Jz F w' jb (J.with fv') ds n m lks ls us l'/\Mine F w' jb ds l' X'/\FoS w' X' fv' fl/\QRow 0 w' rv row/\(∀k,X' k->X k\/w.heap.size<=k)/\FFr w w' l l' (FM jb X rv)
def FilE(F:Nat->Prop)(w:World)(jb:Nat)(J:Jv)(ds:List Sy)(n m:Nat)(lks:List Lm)(ls:List Lk)(us:List Nat)(l:List Sx)(X:Nat->Prop)(rv:Value)(row:List Nat)(fl R:List (List Nat))(e:Ending)(w':World):Prop:=
 e=.returned (.bool (decide ((fl++R).length<=4096)))/\FO F w jb J ds n m lks ls us l X rv row ((fl++R).take 4097) w'
def jlG(k:Nat)(F:Nat->Prop)(jb:Nat)(ds:List Sy)(n m:Nat)(lks:List Lm)(ls:List Lk)(us:List Nat):Prop:=
 ∀(w:World) (J:Jv) (l:List Sx) (X C:Nat->Prop) (cv:Value) (c:Ch) (rv:Value) (row:List Nat) (fl:List (List Nat)) (us0 rest:List Nat),us=us0++rest->row.length=us0.length->rest.length<=k->FI F w jb J ds n m lks ls us l X C cv c rv row fl->
  Calls Tryz.prog 78 #[.pointer (some ⟨jb,0,none⟩),cv,rv] w (FilE F w jb J ds n m lks ls us l X rv row fl (jbF ls m rest c row))
section
variable {F:Nat->Prop} {w w':World} {jb:Nat} {J J':Jv} {ds:List Sy} {n m:Nat} {lks:List Lm} {ls:List Lk} {us:List Nat} {l l':List Sx} {X C:Nat->Prop} {cv rv:Value} {c:Ch} {row:List Nat} {fl:List (List Nat)}
theorem FI.call{T:Nat->Prop}(h:FI F w jb J ds n m lks ls us l X C cv c rv row fl)(hf:Fr (fun k=>k<w.heap.size/\UL l k) w w')(h1:JS w' T jb ds n m lks ls l')(hs:∀k,k<w.heap.size->UL l k->T k):FI F w' jb J ds n m lks ls us l' X C cv c rv row fl:=by
 have ab:FFr w w' l l' (fun _=>False):=FFr.call hf h1 hs;have aa:∀Y,Mine F w jb ds l Y->Mine F w' jb ds l' Y:=fun Y hY k hk=>by
  obtain⟨a1,a2,a3⟩:=hY k hk;exact⟨zQ a1 hf.size,ab.un k a1 a2,a3⟩
 refine⟨h.jz.call hf h1 hs,aa _ h.xm,h.fo.keep hf.size (fun k hk=>hf.block k ⟨(h.xm k hk).1,(h.xm k hk).2.1⟩),h.row.keep (fun g _ hg=>hf.block g ⟨(h.rm g hg).1,(h.rm g hg).2.1⟩),aa _ h.rm,h.rx,h.ch.keep hf.size (fun b hb _=>⟨hb,hf.block b ⟨(h.cm b hb).1,(h.cm b hb).2.1⟩⟩),fun k hk=>?_,h.ac,h.cl,h.m0,h.fle⟩;obtain⟨a1,a2,a3⟩:=h.cm k hk;exact⟨zQ a1 hf.size,ab.un k a1 a2,a3⟩
theorem FI.nothing{T:Nat->Prop}(h:FI F w jb J ds n m lks ls us l X C cv c rv row fl)(hf:Fr (fun k=>k<w.heap.size/\UL l k) w w')(h1:JS w' T jb ds n m lks ls l')(hs:∀k,k<w.heap.size->UL l k->T k):FO F w jb J ds n m lks ls us l X rv row fl w':=by
 have h2:=h.call hf h1 hs;exact⟨J.fv,l',X,h2.jz,h2.xm,h2.fo,h2.row,fun k hk=>.inl hk,FFr.call hf h1 hs⟩
end
theorem QRow.slice{B:Nat}{w:World}{u:Value}{L:List Nat}(h:QRow B w u L):∃ao cap,u=.slice ao L.length cap:=by
 rcases h with⟨rfl,rfl⟩|⟨g,off,cap,cur,rfl,_⟩
 . exact⟨none,0,rfl⟩
 . exact⟨_,cap,rfl⟩
theorem jbE.lt{ds:List Sy}{n m:Nat}{lks:List Lm}{ls:List Lk}(h:jbE ds n m lks ls):∀l∈ls,l.fr<m/\l.to<m:=fun l hl=>by
 obtain⟨i,hi⟩:=List.getElem?_of_mem hl;have hil:=(zE.1 hi).1;obtain⟨L,hL⟩:∃L,lks[i]?=some L:=⟨_,zB (by rw[<- h.len];exact hil)⟩
 obtain⟨h1,h2,_,h3,h4,_⟩:=h.at_ i L l hL hi;rw[h1,h2];exact⟨h3,h4⟩
section
variable {F:Nat->Prop} {w w':World} {jb:Nat} {J J':Jv} {ds:List Sy} {n m:Nat} {lks:List Lm} {ls:List Lk} {us:List Nat} {l l':List Sx} {X C:Nat->Prop} {cv rv:Value} {c:Ch} {row:List Nat} {fl:List (List Nat)}
theorem FI.drew(h:FI F w jb J ds n m lks ls us l X C cv c rv row fl):FI F w.drew jb J ds n m lks ls us l X C cv c rv row fl:=
 h.call (T:=fun k=>k<w.heap.size/\UL l k) ⟨rfl,rfl,rfl,zD _,fun _ _=>rfl⟩ (h.jz.js.below (zF _ _).drew) (fun _ h1 h2=>⟨h1,h2⟩)
theorem FFr.drew{M:Nat->Prop}(h:FFr w w' l l' M):FFr w w'.drew l l' M:=⟨h.os,h.tape,h.output,h.size,h.keep,h.un⟩
theorem FI.ask(h:FI F w jb J ds n m lks ls us l X C cv c rv row fl):Calls Tryz.prog 101 #[.pointer (some ⟨jb,0,none⟩),cv,J.av] w (SomE w (fun k=>k<w.heap.size/\UL l k) jb ds n m lks ls (locB ls c (List.range m))):=by
 have hm:=h.jz.mm;have aa:=h.cl;have hj:=h.jz.js;rw[<- aa]at hj;have C0:=(jhM (jb:=jb) (ds:=ds) (n:=n) (lks:=lks) (ls:=ls) 1000 (by omega)).2 w (fun k=>k<w.heap.size/\UL l k) c l cv (List.range m) J.av hj (h.ch.keep (zD _) (fun b hb _=>⟨⟨(h.cm b hb).1,(h.cm b hb).2.1⟩,rfl⟩)) (by rw[aa];exact h.m0) h.ac (h.jz.al.sub (fun b hb hl=>⟨hl,h.jz.un b hb⟩)) List.nodup_range (by simpa using hm) (fun x hx=>by rw[aa];exact yK.1 hx) (fun l hl=>⟨fun _ hn=>absurd (yK.2 (h.jz.ok.lt l hl).2) hn,fun _ hn=>absurd (yK.2 (h.jz.ok.lt l hl).1) hn⟩);rw[aa]at C0;exact C0
theorem FI.leaf{wz w9:World}{nv fv9:Value}{rows:List (Value×List Nat)}(h:FI F w jb J ds n m lks ls us l X C cv c rv row fl)(hrc:rows.map (·.2)=fl)(hfo:∀g,J.fv.ownBlock=some g->X g)(hats:∀r∈rows,NatC (fun k=>X k/\J.fv.ownBlock≠some k) w r.1 r.2)
 (hb:Below w.heap.size w wz) (hnv:NatC (fun k=>nv.ownBlock=some k) wz nv row) (hnb:∀k,nv.ownBlock=some k->w.heap.size<=k/\k<wz.heap.size)
 (ho:w9.os=wz.os) (ht:w9.tape=wz.tape) (hu:w9.output=wz.output) (hz:wz.heap.size<=w9.heap.size) (hk:∀k,k<wz.heap.size->J.fv.ownBlock≠some k->w9.heap[k]?=wz.heap[k]?)
 (hown:w9.ownsRow 0 59 1 fv9 (rows.length+1) (rows.flatMap jaN++[nv])) (hbk:∀g,fv9.ownBlock=some g->J.fv.ownBlock=some g\/wz.heap.size<=g):
 FO F w jb J ds n m lks ls us l X rv row (fl++[row]) (w9.setCell ⟨jb,6,none⟩ fv9):=by
 have ah:=h.jz.lt;have hzs:=hb.size;have af:J.fv.ownBlock≠some jb:=fun e=>(h.xm jb (hfo jb e)).2.2.2.1 rfl
 have ak:w9.heap[jb]?=some (.cells J.cells 134 (0,0)):=(hk jb (by omega) af).trans ((hb.block jb ah).trans h.jz.blk);have aa:∀k,k≠jb->(w9.setCell ⟨jb,6,none⟩ fv9).heap[k]?=w9.heap[k]?:=fun k hk2=>zM _ _ _ _ hk2
 have ad:(w9.setCell ⟨jb,6,none⟩ fv9).heap.size=w9.heap.size:=by simp
 have ab:∀k,k<w.heap.size->k≠jb->¬X k->(w9.setCell ⟨jb,6,none⟩ fv9).heap[k]?=w.heap[k]?:=fun k h1 h2 h3=>(aa k h2).trans ((hk k (by omega) (fun e=>h3 (hfo k e))).trans (hb.block k h1))
 have aj:(w9.setCell ⟨jb,6,none⟩ fv9).heap[jb]?=some (.cells (J.with fv9).cells 134 (0,0)):=by
  simp[World.setCell,Array.getElem?_modify,ak,Jv.cells,Jv.with]
 have ac:∀k,(nv.ownBlock=some k\/fv9.ownBlock=some k)->X k\/w.heap.size<=k:=fun k hk2=>by
  rcases hk2 with h1|h1
  . exact .inr (hnb k h1).1
  . rcases hbk k h1 with h2|h2
    . exact .inl (hfo k h2)
    . exact .inr (by omega)
 have ae:∀k,fv9.ownBlock=some k->k<w9.heap.size:=fun k hk2=>(hown.lt k hk2).2
 refine⟨fv9,l,fun k=>X k\/nv.ownBlock=some k\/fv9.ownBlock=some k,?_,fun k hk2=>?_,?_,?_,fun k hk2=>?_,?_⟩
 . exact h.jz.write (M:=X) (by rw[ad];omega) (ho.trans hb.os) (ht.trans hb.tape) (hu.trans hb.output) ab (fun k hk2=>⟨(h.xm k hk2).2.1,(h.xm k hk2).2.2.1,(h.xm k hk2).2.2.2.2⟩) aj rfl rfl rfl
 . have hx:X k\/w.heap.size<=k:=hk2.elim .inl (fun h1=>ac k h1);have ag:k<(w9.setCell ⟨jb,6,none⟩ fv9).heap.size:=by
    rw[ad];rcases hk2 with h1|h1|h1
    . have:=(h.xm k h1).1;omega
    . have:=(hnb k h1).2;omega
    . exact ae k h1
   rcases hx with h1|h1
   . obtain⟨_,a2,a3⟩:=h.xm k h1;exact⟨ag,a2,a3⟩
   . obtain⟨a1,a2,a3,a4⟩:=h.jz.fresh h1;exact⟨ag,a1,a2,a3,a4⟩
 . refine⟨rows++[(nv,row)],by rw[yG,hrc];rfl,?_,fun g hg=>.inr (.inr hg),fun r hr=>?_⟩
   . rw[zG,zP];refine jae hown (fun g o hg ho2=>(aa g (fun e=>?_)).trans ho2);rcases hbk g hg with h1|h1
     . exact af (e▸h1)
     . omega
   . rcases zL.1 hr with hr|hr
     . refine(hats r hr).keep (by rw[ad];omega) (fun k hk2 hkl=>?_);have ai:=h.xm k hk2.1;refine⟨⟨.inl hk2.1,fun e=>?_⟩,(aa k ai.2.2.2.1).trans ((hk k (by omega) hk2.2).trans (hb.block k hkl))⟩;rcases hbk k e with h1|h1
       . exact hk2.2 h1
       . omega
     . rw[zK.1 hr];refine hnv.keep (by rw[ad];omega) (fun k hk2 hkl=>?_);have hn:=hnb k hk2;refine⟨⟨.inr (.inl hk2),fun e=>?_⟩,(aa k (by omega)).trans (hk k hkl (fun e=>?_))⟩
       . rcases hbk k e with h1|h1
         . have:=(h.xm k (hfo k h1)).1;omega
         . omega
       . have:=(h.xm k (hfo k e)).1;omega
 . exact h.row.keep (fun g _ hg=>ab g (h.rm g hg).1 (h.rm g hg).2.2.2.1 (h.rx g hg))
 . exact hk2.elim .inl (fun h1=>ac k h1)
 . exact⟨ho.trans hb.os,ht.trans hb.tape,hu.trans hb.output,by rw[ad];omega,fun k h1 _ h3=>ab k h1 (fun e=>h3 (.inl e)) (fun e=>h3 (.inr (.inl e))),fun k _ hu2=>hu2⟩
theorem FI.down{v3:Value}{c':Ch}{w3:World}(h:FI F w jb J ds n m lks ls us l X C cv c rv row fl)(hc:ChoC w C (fun k=>k<w.heap.size/\UL l k) jb ds n m lks ls v3 c' w3):
 ∃l3 C',FI F w3 jb J ds n m lks ls us l3 X C cv c rv row fl/\ChR C' w3 v3 n c'/\(∀k,C' k->k<w3.heap.size/\UL l3 k/\k≠jb/\¬X k/\¬QB rv k)/\FFr w w3 l l3 (fun _=>False):=by
 obtain⟨F',C',l3,e1,e2,e3,e4,e5,e6⟩:=hc;refine⟨l3,C',h.call e2 e3 (fun k hk hu=>e1 k ⟨hk,hu⟩),e4,fun k hk=>?_,FFr.call e2 e3 (fun k hk hu=>e1 k ⟨hk,hu⟩)⟩;refine⟨e3.low k (e5 k hk),e3.un k (e5 k hk),?_⟩;rcases e6 k hk with h1|h1
 . exact(h.cm k h1).2.2
 . refine⟨(h.jz.fresh h1).2.2.1,fun hx=>?_,fun hq=>?_⟩
   . have:=(h.xm k hx).1;omega
   . have:=(h.rm k hq).1;omega
theorem FI.app{C':Nat->Prop}{v3 rv4:Value}{c':Ch}{w4:World}{x:Nat}(h:FI F w jb J ds n m lks ls us l X C cv c rv row fl)(hch:ChR C' w v3 n c')(hcm:∀k,C' k->k<w.heap.size/\UL l k/\k≠jb/\¬X k/\¬QB rv k)(hac:AC ls c')(hcl:c'.length=m)
 (q1:QRow 0 w4 rv4 (row++[x])) (q2:w.heap.size<=w4.heap.size) (q3:w4.os=w.os) (q4:w4.tape=w.tape) (q5:w4.output=w.output) (q6:∀k,k<w.heap.size->¬QB rv k->w4.heap[k]?=w.heap[k]?) (q7:∀k,QB rv4 k->QB rv k\/(w.heap.size<=k/\k<w4.heap.size)):
 FI F w4 jb J ds n m lks ls us l X C' v3 c' rv4 (row++[x]) fl/\FFr w w4 l l (QB rv):=by
 have aa:¬QB rv jb:=fun hq=>(h.rm jb hq).2.2.2.1 rfl
 refine⟨⟨?_,fun k hk=>?_,h.fo.keep q2 (fun k hk=>q6 k (h.xm k hk).1 (fun hq=>h.rx k hq hk)),q1,fun k hk=>?_,fun k hk hx=>?_,hch.keep q2 (fun b hb hl=>⟨hb,q6 b hl (hcm b hb).2.2.2.2⟩),fun k hk=>?_,hac,hcl,h.m0,h.fle⟩,⟨q3,q4,q5,q2,fun k hk _ hq=>q6 k hk hq,fun _ _ hu=>hu⟩⟩
 . exact h.jz.write (M:=QB rv) q2 q3 q4 q5 (fun k hk _ hq=>q6 k hk hq) (fun k hk=>⟨(h.rm k hk).2.1,(h.rm k hk).2.2.1,(h.rm k hk).2.2.2.2⟩) ((q6 jb h.jz.lt aa).trans h.jz.blk) rfl rfl rfl
 . obtain⟨a1,a2⟩:=h.xm k hk;exact⟨zQ a1 q2,a2⟩
 . rcases q7 k hk with h1|h1
   . obtain⟨a1,a2⟩:=h.rm k h1;exact⟨zQ a1 q2,a2⟩
   . obtain⟨a1,a2,a3,a4⟩:=h.jz.fresh h1.1;exact⟨h1.2,a1,a2,a3,a4⟩
 . rcases q7 k hk with h1|h1
   . exact h.rx k h1 hx
   . have:=(h.xm k hx).1;omega
 . obtain⟨a1,a2,a3,a4,a5⟩:=hcm k hk;refine⟨zQ a1 q2,a2,a3,a4,fun hq=>?_⟩;rcases q7 k hq with h1|h1
   . exact a5 h1
   . omega
theorem FI.lift{rv4:Value}{w4 w5:World}{l4:List Sx}{x:Nat}{fl5:List (List Nat)}(h:FI F w jb J ds n m lks ls us l X C cv c rv row fl)(hf:FFr w w4 l l4 (QB rv))(q1:QRow 0 w4 rv row)(q7:∀k,QB rv4 k->QB rv k\/w.heap.size<=k)(q8:QExt rv rv4 row.length)
 (h5:FO F w4 jb J ds n m lks ls us l4 X rv4 (row++[x]) fl5 w5):FO F w jb J ds n m lks ls us l X rv row fl5 w5:=by
 obtain⟨af,l5,X5,a1,a2,a3,a4,a5,a6⟩:=h5.ex;refine⟨af,l5,X5,a1,a2,a3,?_,fun k hk=>?_,(hf.mono (fun k hk=>.inr (.inr hk))).trans a6 (fun k hk=>?_)⟩
 . rcases q1 with q1|⟨g,ae,ad,ag,e1,e2,e3,e4,e5,e6⟩
   . exact .inl q1
   . have hg:QB rv g:=⟨ae,_,ad,e1⟩
     have ac:=h.rm g hg;by_cases h4:QB rv4 g
     . obtain⟨aa,c2,f1,f2⟩:=q8 g hg h4;rcases a4 with⟨b1,_⟩|⟨g5,off5,cap5,ab,b1,b2,b3,b4,b5,b6⟩
       . rw[f2]at b1;cases b1
       . rw[f2]at b1;injection b1 with b1 b7 b8;injection b1 with b1;injection b1 with b1 b9;subst b1 b8 b9;refine .inr ⟨g,aa,c2,ab,f1,zO _,b3,b4,?_,fun j z hz=>?_⟩
         . rw[zG]at b5;omega
         . have hj:=(zE.1 hz).1;exact b6 j z (by rw[yJ hj];exact hz)
     . refine .inr ⟨g,ae,ad,ag,e1,e2,?_,e4,e5,e6⟩;refine(a6.keep g (lt_of_block e3) (hf.un g ac.1 ac.2.1) (fun hm=>?_)).trans e3;rcases hm with hm|hm|hm
       . exact ac.2.2.2.1 hm
       . exact h.rx g hg hm
       . exact h4 hm
 . rcases a5 k hk with h1|h1
   . exact .inl h1
   . have:=hf.size;exact .inr (by omega)
 . rcases hk with hk|hk|hk
   . exact .inl (.inl hk)
   . exact .inl (.inr (.inl hk))
   . exact(q7 k hk).imp (fun h1=>.inr (.inr h1)) id
theorem FI.next{fl5:List (List Nat)}{w5:World}(h:FI F w jb J ds n m lks ls us l X C cv c rv row fl)(h5:FO F w jb J ds n m lks ls us l X rv row fl5 w5)(hfl:fl5.length<=4096):
 ∃fv5 l5 X5,FI F w5 jb (J.with fv5) ds n m lks ls us l5 X5 C cv c rv row fl5/\(∀k,X5 k->X k\/w.heap.size<=k)/\FFr w w5 l l5 (FM jb X rv):=by
 obtain⟨fv5,l5,X5,a1,a2,a3,a4,a5,a6⟩:=h5.ex;refine⟨fv5,l5,X5,⟨a1,a2,a3,a4,fun k hk=>?_,fun k hk hx=>?_,h.ch.keep a6.size (fun b hb hl=>⟨hb,a6.keep b hl (h.cm b hb).2.1 (fun hm=>?_)⟩),fun k hk=>?_,h.ac,h.cl,h.m0,hfl⟩,a5,a6⟩
 . obtain⟨b1,b2,b3⟩:=h.rm k hk;exact⟨zQ b1 a6.size,a6.un k b1 b2,b3⟩
 . rcases a5 k hx with h1|h1
   . exact h.rx k hk h1
   . have:=(h.rm k hk).1;omega
 . obtain⟨_,_,b3,b4,b5⟩:=h.cm b hb;rcases hm with hm|hm|hm
   . exact b3 hm
   . exact b4 hm
   . exact b5 hm
 . obtain⟨b1,b2,b3,b4,b5⟩:=h.cm k hk;refine⟨zQ b1 a6.size,a6.un k b1 b2,b3,fun hx=>?_,b5⟩;rcases a5 k hx with h1|h1
   . exact b4 h1
   . omega
theorem FO.from_{w0 w5:World}{l0:List Sx}{X0:Nat->Prop}{fv:Value}{fl5:List (List Nat)}(hf:FFr w0 w l0 l (FM jb X0 rv))(hx:∀k,X k->X0 k\/w0.heap.size<=k)(h5:FO F w jb (J.with fv) ds n m lks ls us l X rv row fl5 w5):FO F w0 jb J ds n m lks ls us l0 X0 rv row fl5 w5:=by
 obtain⟨aa,l5,X5,a1,a2,a3,a4,a5,a6⟩:=h5.ex;refine⟨aa,l5,X5,a1,a2,a3,a4,fun k hk=>?_,hf.trans a6 (fun k hk=>?_)⟩
 . rcases a5 k hk with h1|h1
   . exact hx k h1
   . have:=hf.size;exact .inr (by omega)
 . rcases hk with hk|hk|hk
   . exact .inl (.inl hk)
   . exact(hx k hk).imp (fun h1=>.inr (.inl h1)) id
   . exact .inl (.inr (.inr hk))
end
end Go.Proofs.YtkbgmcmcpbegjaaGreatDoor
