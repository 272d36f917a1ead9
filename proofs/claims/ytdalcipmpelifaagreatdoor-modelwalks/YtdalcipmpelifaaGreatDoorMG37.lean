/- XSome1, XSome2, XSome3, XFill0. -/
import Derived.Test.YtdalcipmpelifaaGreatDoorMG36
set_option maxRecDepth 100000
namespace Go.Proofs.YtdalcipmpelifaaGreatDoor
open Go.RowKit Go.Shelf
def SomE(w:World)(F:Nat->Prop)(jb:Nat)(ds:List Sy)(n m:Nat)(lks:List Lm)(ls:List Lk)(r:Bool)(e:Ending)(w':World):Prop:=
 e=.returned (.bool r)/\Fr F w w'/\∃l,JS w' F jb ds n m lks ls l
theorem JS.sub{w w':World}{F F':Nat->Prop}{jb:Nat}{ds:List Sy}{n m:Nat}{lks:List Lm}{ls:List Lk}{l l':List Sx}(h:JS w F jb ds n m lks ls l)(hf:Fr F w w')(h':JS w' F' jb ds n m lks ls l')(hs:∀k,F k->F' k):JS w' F jb ds n m lks ls l':=by
 obtain⟨lv,h1,h2⟩:=h.lk;exact⟨h'.pool,h'.like,fun k hk=>h'.low k (hs k hk),fun k hk=>h'.un k (hs k hk),h'.tab,h.f0,h.jF,⟨lv,by simpa only[World.cell?,hf.block jb h.jF]using h1,h2.fr hf⟩,h.ll,h.ok,h.nn,h.mm⟩
theorem lnkB_sym(a b:Nat)(L:Lm):lnkB a b L=lnkB b a L:=by
 unfold lnkB;rw[Bool.or_comm]
theorem lnkOf_sym(lks:List Lm)(x y:Nat):lnkOf lks x y=lnkOf lks y x:=by
 unfold lnkOf;congr 1;funext L;exact lnkB_sym x y L
theorem LinksOk.lnk{ds:List Sy}{n m:Nat}{lks:List Lm}{ls:List Lk}(h:LinksOk ds n m lks ls):∀l∈ls,lnkOf lks l.fr l.to=true:=fun l hl=>by
 obtain⟨i,hi⟩:=List.getElem?_of_mem hl;have hil:=(zE.1 hi).1;obtain⟨L,hL⟩:∃L,lks[i]?=some L:=⟨_,zB (by rw[<- h.len];exact hil)⟩
 obtain⟨h1,h2,_⟩:=h.at_ i L l hL hi;unfold lnkOf;rw[List.any_eq_true];exact⟨L,zC hL,by unfold lnkB;rw[h1,h2];simp⟩
theorem GrpE.use{w:World}{F:Nat->Prop}{jb:Nat}{ds:List Sy}{n:Nat}{c:Ch}{lks:List Lm}{ls:List Lk}{l:List Sx}{X:List Nat}{w1:World}{ug:Value}{rows:List (Value×List Nat)}{D:Nat->Prop}
 (h:JS w F jb ds n c.length lks ls l) (hgi:GI (lnkOf lks) (openX c X) (rows.map (·.2)) []) (hgm:GrM w D w1 ug rows []) (hX:∀k∈X,k<c.length) (hnd:X.Nodup) (hac:AC ls c) (hi:Iso ls c X):
 JS w1 (fun k=>F k\/D k\/ug.ownBlock=some k) jb ds n c.length lks ls l/\Fr F w w1/\SlS csRow 1 (fun k=>F k\/D k\/ug.ownBlock=some k) w1 ug rows/\
 (LocSol ls c X↔∀r∈rows,LocSol ls c r.2)/\∀r∈rows,NatC (fun k=>F k\/D k\/ug.ownBlock=some k) w1 r.1 r.2/\r.2≠[]/\r.2.Nodup/\r.2.length<=X.length/\(∀k∈r.2,k<c.length)/\Iso ls c r.2:=by
 have hp:Parted ls c X (rows.map (·.2)):=GI.parted hgi (lnkOf_sym lks) h.ok.lnk;have hol:(openX c X).length<=X.length:=yD _ _;refine⟨h.more hgm.bel (fun k hk=>?_) (fun k hk=>.inl hk),fr_below h.low hgm.bel,(own_sl csRow_len hgm.row rfl).sub (fun k hk _=>.inr (.inr hk)),?_,fun r hr=>?_⟩
 . rcases hk with hk|hk|hk
   . exact .inl hk
   . exact .inr (hgm.dl k hk)
   . exact .inr (hgm.row.lt k hk)
 . rw[loc_parts hac hp];constructor
   . exact fun h1 r hr=>h1 r.2 (zU hr)
   . intro h1 G hG;obtain⟨r,hr,rfl⟩:=zR.1 hG;exact h1 r hr
 . have hm:r.2∈rows.map (·.2):=zU hr;refine⟨(hgm.ats r hr).sub (fun k hk _=>.inr (.inl hk)),hgi.ne r.2 hm,hgi.nodup (hnd.sublist List.filter_sublist) hm,zQ (hgi.len.2 r.2 hm) hol,fun k hk=>hX k ((hp.mem k).1 ⟨r.2,hm,hk⟩).1,hp.iso hi hm⟩
def SomeOfP(k jb:Nat)(ds:List Sy)(n:Nat)(lks:List Lm)(ls:List Lk):Prop:=
 ∀(w:World) (F:Nat->Prop) (c:Ch) (l:List Sx) (cv:Value) (G:List Nat) (gv:Value),JS w F jb ds n c.length lks ls l->ChR F w cv n c->AC ls c->NatC F w gv G->G≠[]->G.Nodup->G.length<=k->(∀x∈G,x<c.length)->Iso ls c G->
  Calls Tryz.prog 106 #[.pointer (some ⟨jb,0,none⟩),cv,gv] w (SomE w F jb ds n c.length lks ls (locB ls c G))
def SomeP(k jb:Nat)(ds:List Sy)(n:Nat)(lks:List Lm)(ls:List Lk):Prop:=
 ∀(w:World) (F:Nat->Prop) (c:Ch) (l:List Sx) (cv:Value) (X:List Nat) (sv:Value),JS w F jb ds n c.length lks ls l->ChR F w cv n c->0<c.length->AC ls c->NatC F w sv X->X.Nodup->X.length<=k->(∀x∈X,x<c.length)->Iso ls c X->
  Calls Tryz.prog 75 #[.pointer (some ⟨jb,0,none⟩),cv,sv] w (SomE w F jb ds n c.length lks ls (locB ls c X))
set_option maxHeartbeats 8000000 in
theorem some_step{k jb:Nat}{ds:List Sy}{n:Nat}{lks:List Lm}{ls:List Lk}(hk:k<=1000)(H:SomeOfP k jb ds n lks ls):SomeP k jb ds n lks ls:=by
 intro w F c l cv X sv h hc hc0 hac hsv hnd hXl hX hi;have C0:=zA (groups_any h hc hc0 hsv.1 hX (by omega));obtain⟨Q,hQ⟩:∃Q,Q=SomE w F jb ds n c.length lks ls (locB ls c X):=⟨_,rfl⟩
 rw[<- hQ];have HU:=zA (fun w1 ug rows D hgi hgm=>GrpE.use (w1:=w1) (ug:=ug) (rows:=rows) (D:=D) h hgi hgm hX hnd hac hi);have HFIN:Hid (∀(w1 wr:World) (F1:Nat->Prop) (r:Bool),r=locB ls c X->(∀q,F q->F1 q)->Fr F w w1->Fr F1 w1 wr->(∃l',JS wr F1 jb ds n c.length lks ls l')->Q (.returned (.bool r)) wr):=zA (fun w1 wr F1 r hr hs h1 h2 h3=>by
  obtain⟨l',h3⟩:=h3;have hf:=h1.trans (h2.sub hs);rw[hQ,hr];exact⟨rfl,hf,l',h.sub hf h3 hs⟩)
 have HH:=zA H;have HC:=zA hc;have HAC:=zA hac;clear hQ h hc hc0 hac hsv hnd hX hi H;go_enter Tryz.func75,Tryz.ntmps75;go_wp2_with fail;refine C0.out.mono ?_;rintro e w1 ⟨ug,rows,D,rfl,hgi,hgm⟩;obtain⟨u1,u2,u3,u4,u5⟩:=HU.out w1 ug rows D hgi hgm;have hcnt:=hgi.count;have hol:(openX c X).length<=X.length:=yD _ _;obtain⟨F1,hF1⟩:∃F1,F1=fun q=>F q\/D q\/ug.ownBlock=some q:=⟨_,rfl⟩
 rw[<- hF1]at u1 u3 u5;have hsub:∀q,F q->F1 q:=fun q hq=>by rw[hF1];exact .inl hq
 obtain⟨ga,gc,hug⟩:=u3.slice;obtain⟨nr,hnr⟩:∃q,q=rows.length:=⟨_,rfl⟩
 have hnrl:nr<=1000:=by
  rw[zH,<- hnr]at hcnt;omega
 rw[<- hnr]at hug;clear hF1 hgi hgm hcnt hol C0 HU;subst hug;have HNR:=zA hnr;have HSUB:=zA hsub;have H2:=zA u2;have H3:=zA u3;have H4:=zA u4;have H5:=zA u5;have HJ1:Hid (∃l',JS w1 F1 jb ds n c.length lks ls l'):=zA ⟨_,u1⟩;have HC1:Hid (ChR F1 w1 cv n c):=zA (HC.out.keep u2.size (fun b hb _=>⟨hsub b hb,u2.block b hb⟩));clear u1 u2 u3 u4 u5 hnr hsub HC;go_wp2_with fail;go_loopw [14] (fun k wr=>∃j:Nat,j<=nr/\k=.int .i64 j/\Hid (Fr F1 w1 wr)/\Hid (∃l',JS wr F1 jb ds n c.length lks ls l')/\Hid (∀(i:Nat) r,i<j->rows[i]?=some r->LocSol ls c r.2)) (fun k _=>nr-(intOf k).toNat)
 case atStart=>exact⟨0,zS _,rfl,zA (Fr.refl _ _),HJ1,zA (fun i r hi=>absurd hi (Nat.not_lt_zero _))⟩
 case round=>
  obtain⟨j,hj,rfl,HFR,HJ,HL⟩:=hrel;obtain⟨wx,hwx⟩:∃wx,wx=wr:=⟨_,rfl⟩
  subst hwx;by_cases hjl:j<nr
  . have hjI:(j:Int)<(nr:Int):=by omega
    obtain⟨r,hr⟩:∃r,rows[j]?=some r:=⟨_,zB (by rw[<- HNR.out];exact hjl)⟩
    obtain⟨gb,off,hga,_,_,hcell⟩:=(H3.out.fr HFR.out).get hr;subst hga;have c0:=hcell 0 _ rfl;rw[yK,yF]at c0;obtain⟨v1,v2,v3,v4,v5,v6⟩:=H5.out r (zC hr);obtain⟨l',hl'⟩:=HJ.out;have CK:=zA (HH.out wx F1 c l' cv r.2 r.1 hl' (HC1.out.keep HFR.out.size (fun b hb _=>⟨hb,HFR.out.block b hb⟩)) HAC.out (v1.fr HFR.out) v2 v3 (by omega) v5 v6);obtain⟨ra,rc,hre⟩:=v1.1.slice;obtain⟨rv,rl⟩:=r;dsimp only at CK c0 hre;subst hre;have HRJ:=zA hr;clear hcell v1 v2 v3 v4 v5 v6 hl' hr;go_wp2_with fail;refine CK.out.mono ?_;rintro e w3 ⟨rfl,hf3,hj3⟩;have HFR3:=zA (HFR.out.trans hf3);have HJ3:=zA hj3;clear hf3 hj3 CK c0;obtain⟨t,ht⟩:∃t,t=locB ls c rl:=⟨_,rfl⟩
    have HT:=zA ht;rw[<- ht];clear ht;cases t with
    |true=>
     have HL3:Hid (∀(i:Nat) r,i<j+1->rows[i]?=some r->LocSol ls c r.2):=zA (fun i r hi hr=>by
      by_cases e:i=j
      . subst e;rw[HRJ.out]at hr;injection hr with hr;rw[<- hr];exact locB_iff.1 HT.out.symm
      . exact HL.out i r (by omega) hr)
     go_wp2;go_roundw
     case rel=>exact⟨j+1,by omega,by go_num,HFR3,HJ3,HL3⟩
     case measure=>simp[intOf];omega
    |false=>
     have HE:=zA (HFIN.out w1 w3 F1 false (by
      cases hb:locB ls c X with
      |false=>rfl
      |true=>
       have h1:=H4.out.1 (locB_iff.1 hb) _ (zC HRJ.out);have h2:=locB_iff.2 h1;rw[<- HT.out]at h2;cases h2) HSUB.out H2.out HFR3.out HJ3.out)
     go_wp2;all_goals (first|(go_ret;exact HE.out)|exact HE.out)
  . have hjI:¬(j:Int)<(nr:Int):=by omega
    have HE:=zA (HFIN.out w1 wx F1 true (by
     refine(locB_iff.2 (H4.out.2 fun r hr=>?_)).symm;obtain⟨i,hi⟩:=List.getElem?_of_mem hr;have h1:=(zE.1 hi).1;rw[<- HNR.out]at h1;exact HL.out i r (by omega) hi) HSUB.out H2.out HFR.out HJ.out)
    go_wp2;all_goals (first|(go_ret;exact HE.out)|exact HE.out)
theorem choose_len(ls:List Lk)(c:Ch)(s v:Nat):(chooseC ls c s v).length=c.length:=by rw[chooseC,narrow_len,List.length_set]
theorem LinksOk.ne{ds:List Sy}{n m:Nat}{lks:List Lm}{ls:List Lk}(h:LinksOk ds n m lks ls):∀l∈ls,l.fr≠l.to:=fun l hl=>by
 obtain⟨i,hi⟩:=List.getElem?_of_mem hl;have hil:=(zE.1 hi).1;obtain⟨L,hL⟩:∃L,lks[i]?=some L:=⟨_,zB (by rw[<- h.len];exact hil)⟩
 obtain⟨h1,h2,h3,_⟩:=h.at_ i L l hL hi;rw[h1,h2];exact h3
set_option maxHeartbeats 8000000 in
theorem someOf_step{k jb:Nat}{ds:List Sy}{n:Nat}{lks:List Lm}{ls:List Lk}(hk:k<=1000)(H:SomeP k jb ds n lks ls):SomeOfP (k+1) jb ds n lks ls:=by
 intro w F c l cv G gv h hc hac hgv hne hnd hGl hG hi;obtain⟨s,R,rfl⟩:∃s R,G=s::R:=by
  cases G with
  |nil=>exact absurd rfl hne
  |cons s R=>exact⟨s,R,rfl⟩
 have hsc:=hG s (zL ..);have hloc:=loc_choose h.ok.ne hac hnd hsc hi;obtain⟨hgs,ao,cap,hge,hcap⟩:=hgv;obtain⟨nt,hnt⟩:∃q,q=R.length:=⟨_,rfl⟩
 rw[yE,<- hnt]at hge hcap;subst hge;obtain⟨g,off,hao,hFg,hgl,hcg⟩:=hgs.get (j:=0) (x:=s) rfl;subst hao;have cs:=hcg 0 _ rfl;rw[Nat.zero_mul,yF]at cs;have hRc:∀(j:Nat) x,R[j]?=some x->w.cell? ⟨g,off+1+j,none⟩=some (.int .i64 (x:Int)):=fun j x hx=>by
  obtain⟨g',off',e,_,_,hc'⟩:=hgs.get (j:=j+1) (x:=x) (by simpa using hx);injection e with e;injection e with e1 e2;subst e1 e2;have:=hc' 0 _ rfl;rw[yK,yF]at this;rw[show off+1+j=off+(j+1) by omega];exact this
 have HR1:Hid (cap=1->NatC F w (.slice (some ⟨g,off,none⟩) 0 0) R):=zA (fun hc1=>by
  have h0:R=[]:=yG.1 (by omega);subst h0;exact⟨⟨_,0,rfl,.inl rfl⟩,_,0,rfl,zD _⟩)
 have HR2:Hid (NatC F w (.slice (some ⟨g,off+1,none⟩) nt (cap-1)) R):=zA (by
  refine⟨⟨_,cap-1,by rw[hnt],.inr ⟨g,off+1,rfl,hFg,hgl,fun j x hx q u hu=>?_⟩⟩,_,cap-1,by rw[hnt],by omega⟩
  match q,hu with
  |0,hu=>
   simp at hu;subst hu;rw[yK,yF];exact hRc j x hx
  |q+1,hu=>simp at hu)
 obtain⟨rows,hrc,hsl,hat,hbd⟩:=hc.ex;have hrl:rows.length=c.length:=by rw[<- hrc,zH]
 obtain⟨r,hr⟩:∃r,rows[s]?=some r:=⟨_,zB (by omega)⟩
 have hcs:atC c s=r.2:=by unfold atC;rw[<- hrc,List.getD,zI,hr];rfl
 obtain⟨ca,cc,hcv⟩:=hsl.slice;obtain⟨nc,hnc⟩:∃q,q=rows.length:=⟨_,rfl⟩
 rw[<- hnc]at hcv;subst hcv;obtain⟨gc,ofc,hca,hFc,_,hcc⟩:=hsl.get hr;subst hca;have cr:=hcc 0 _ rfl;rw[yK,yF]at cr;have hvl:=hat r (zC hr);have hvb:=hbd r (zC hr);obtain⟨rv,VL⟩:=r;dsimp only at hcs cr hvl hvb;obtain⟨ra,rc,hre⟩:=hvl.1.slice;obtain⟨nv,hnv⟩:∃q,q=VL.length:=⟨_,rfl⟩
 rw[<- hnv]at hre;subst hre;have hnvl:nv<=10000:=by rw[hnv];exact hvb.2
 have hscI:(s:Int)<(nc:Int):=by omega
 have hsN:s<nc:=by omega
 have hcapI:(nt:Int)+1<=(cap:Int):=by omega
 have hntI:(0:Int)<(nt:Int)+1:=by omega
 have hntl:nt<=1000:=by rw[yE,<- hnt]at hGl;omega
 obtain⟨Q,hQ⟩:∃Q,Q=SomE w F jb ds n c.length lks ls (locB ls c (s::R)):=⟨_,rfl⟩
 rw[<- hQ];have HFIN:Hid (∀(wr:World) (r:Bool),r=locB ls c (s::R)->Fr F w wr->(∃l',JS wr F jb ds n c.length lks ls l')->Q (.returned (.bool r)) wr):=zA (fun wr r hr h1 h3=>by
  rw[hQ,hr];exact⟨rfl,h1,h3⟩)
 have HLOC:=zA hloc;have HVM:Hid (∀v,v∈VL↔v∈atC c s):=zA (fun v=>by rw[hcs]);have HVL:=zA hvl;have HJ0:=zA h;have HC0:=zA hc;have HAC:=zA hac;have HSC:=zA hsc;have HNV:=zA hnv;have HCR:Hid (∀W:World,Fr F w W->W.cell? ⟨gc,ofc+s,none⟩=some (.slice ra nv rc)):=zA (fun W hW=>by simpa only[World.cell?,hW.block gc hFc]using cr);have CALL:Hid (∀(W:World) (l':List Sx) (v:Nat) (rv:Value) (w3:World) (v3:Value),Fr F w W->JS W F jb ds n c.length lks ls l'->NatC F w rv R->ChoE W F jb ds n c.length lks ls v3 (chooseC ls c s v) w3->Calls Tryz.prog 75 #[.pointer (some ⟨jb,0,none⟩),v3,rv] w3 fun e w4=>e=.returned (.bool (locB ls (chooseC ls c s v) R))/\Fr F W w4/\∃l',JS w4 F jb ds n c.length lks ls l'):=zA (fun W l' v rv w3 v3 hW hJ hrv hch=>by
  obtain⟨F',l3,e1,e2,e3,e4⟩:=hch;have hl3:=choose_len ls c s v;have e3':=e3;rw[<- hl3]at e3';refine(H w3 F' (chooseC ls c s v) l3 v3 R rv e3' e4 (by rw[hl3];omega) (narrow_ac _ _) ((hrv.fr (hW.trans e2)).sub (fun q hq _=>e1 q hq)) (List.nodup_cons.1 hnd).2 (by rw[yE]at hGl;omega) (fun x hx=>by rw[hl3];exact hG x (zP _ hx)) (iso_choose hsc hi)).mono ?_;rintro e w4 ⟨he,hf,l4,hj4⟩;rw[hl3]at hj4;have hf2:=e2.trans (hf.sub e1);exact⟨he,hf2,l4,hJ.sub hf2 hj4 e1⟩)
 have HLOW:=zA h.low;clear hQ h hc hac hne hnd hGl hG hi hsc hloc hgs hcg hRc hrc hsl hat hbd hrl hr hcs hcc hvl hvb hnv hnc hnt hFg hFc;go_enter Tryz.func106,Tryz.ntmps106;go_upto_region 1 with fail;go_cut [7,8] (fun s7 s8 wz=>s7=.int .i64 (s:Int)/\Hid (NatC F w s8 R)/\Hid (Below w.heap.size w wz))
 case first=>
  by_cases hc1:cap=1
  . have HQ:=zA (HR1.out hc1);subst hc1;have hnt0:nt=0:=by omega
    subst hnt0;go_quiet (fail);refine Met.intro ?_;go_step
    apply_assumption
    (repeat apply Exists.intro)
    refine⟨?_,rfl⟩;exact⟨rfl,HQ,zA ⟨rfl,rfl,rfl,zD _,fun _ _=>rfl⟩⟩
  . have hc2:¬(cap:Int)=1:=by omega
    go_quiet (fail);refine Met.intro ?_;go_step
    apply_assumption
    (repeat apply Exists.intro)
    refine⟨?_,rfl⟩;exact⟨rfl,HR2,zA ⟨rfl,rfl,rfl,zD _,fun _ _=>rfl⟩⟩
 case rest=>
 obtain⟨rfl,HRV,HB⟩:=hcut;obtain⟨wb,hwb⟩:∃W,W=wc:=⟨_,rfl⟩
 subst hwb;have HF0:Hid (Fr F w wb):=zA (fr_below HLOW.out HB.out);have HJ1:Hid (∃l',JS wb F jb ds n c.length lks ls l'):=zA ⟨_,HJ0.out.below HB.out⟩;have cr2:=HCR.out wb HF0.out;clear HB cs cr;go_wp2_with fail;go_loopw [21] (fun k wr=>∃j:Nat,j<=nv/\k=.int .i64 j/\Hid (Fr F w wr)/\Hid (∃l',JS wr F jb ds n c.length lks ls l')/\Hid (∀(i:Nat) v,i<j->VL[i]?=some v->¬LocSol ls (chooseC ls c s v) R)) (fun k _=>nv-(intOf k).toNat)
 case atStart=>exact⟨0,zS _,rfl,HF0,HJ1,zA (fun i v hi=>absurd hi (Nat.not_lt_zero _))⟩
 case round=>
  obtain⟨j,hj,rfl,HFR,HJ,HL⟩:=hrel;obtain⟨wx,hwx⟩:∃wx,wx=wr:=⟨_,rfl⟩
  subst hwx;by_cases hjl:j<nv
  . have hjI:(j:Int)<(nv:Int):=by omega
    obtain⟨v,hv⟩:∃v,VL[j]?=some v:=⟨_,zB (by rw[<- HNV.out];exact hjl)⟩
    obtain⟨gb,ofb,hra,_,_,hcell⟩:=(HVL.out.1.fr HFR.out).get hv;subst hra;have c0:=hcell 0 _ rfl;rw[yK,yF]at c0;obtain⟨l',hl'⟩:=HJ.out;have CK:=zA (choose_any hl' (HC0.out.keep HFR.out.size (fun b hb _=>⟨hb,HFR.out.block b hb⟩)) HSC.out ((HVM.out v).1 (zC hv)) HAC.out);have CA:=zA (fun w3 v3 hch=>CALL.out wx l' v u8 w3 v3 HFR.out hl' HRV.out hch);have HVJ:=zA hv;clear hcell hl' hv;go_wp2_with fail;refine CK.out.mono ?_;rintro e w3 ⟨v3,rfl,hch⟩;have CB:=zA (CA.out w3 v3 hch);clear hch CK CA c0;go_wp2_with fail;refine CB.out.mono ?_;rintro e w4 ⟨rfl,hf4,hj4⟩;have HFR4:=zA (HFR.out.trans hf4);have HJ4:=zA hj4;clear hf4 hj4 CB;obtain⟨t,ht⟩:∃t,t=locB ls (chooseC ls c s v) R:=⟨_,rfl⟩
    have HT:=zA ht;rw[<- ht];clear ht;cases t with
    |true=>
     have HE:=zA (HFIN.out w4 true (locB_iff.2 (HLOC.out.2 ⟨v,(HVM.out v).1 (zC HVJ.out),locB_iff.1 HT.out.symm⟩)).symm HFR4.out HJ4.out);go_wp2;all_goals (first|(go_ret;exact HE.out)|exact HE.out)
    |false=>
     have HL4:Hid (∀(i:Nat) v,i<j+1->VL[i]?=some v->¬LocSol ls (chooseC ls c s v) R):=zA (fun i v' hi hv'=>by
      by_cases e:i=j
      . subst e;rw[HVJ.out]at hv';injection hv' with hv';rw[<- hv'];intro hsol;have h2:=locB_iff.2 hsol;rw[<- HT.out]at h2;cases h2
      . exact HL.out i v' (by omega) hv')
     go_wp2;go_roundw
     case rel=>exact⟨j+1,by omega,by go_num,HFR4,HJ4,HL4⟩
     case measure=>simp[intOf];omega
  . have hjI:¬(j:Int)<(nv:Int):=by omega
    have HE:=zA (HFIN.out wx false (by
     cases hb:locB ls c (s::R)with
     |false=>rfl
     |true=>
      obtain⟨v,hv,hsol⟩:=HLOC.out.1 (locB_iff.1 hb);obtain⟨i,hi⟩:=List.getElem?_of_mem ((HVM.out v).2 hv);have h1:=(zE.1 hi).1;rw[<- HNV.out]at h1;exact absurd hsol (HL.out i v (by omega) hi)) HFR.out HJ.out)
    go_wp2;all_goals (first|(go_ret;exact HE.out)|exact HE.out)
theorem someOf_none{jb:Nat}{ds:List Sy}{n:Nat}{lks:List Lm}{ls:List Lk}:SomeOfP 0 jb ds n lks ls:=by
 intro w F c l cv G gv _ _ _ _ hne _ hl;exact absurd (yG.1 (by omega)) hne
theorem some_any{jb:Nat}{ds:List Sy}{n:Nat}{lks:List Lm}{ls:List Lk}:∀(k:Nat),k<=1000->SomeOfP k jb ds n lks ls/\SomeP k jb ds n lks ls
 |0,_=>⟨someOf_none,some_step (by omega) someOf_none⟩
 |k+1,hk=>by
  have h1:=someOf_step (jb:=jb) (ds:=ds) (n:=n) (lks:=lks) (ls:=ls) (by omega) (some_any k (by omega)).2;exact⟨h1,some_step hk h1⟩
abbrev UL(l:List Sx)(k:Nat):Prop:=∀x∈l,¬OwnX x k
structure Jv where
 sv:Value
 av:Value
 vv:Value
 lv:Value
 rv:Value
 cv:Value
 fv:Value
def Jv.cells(J:Jv):Array Value:=#[J.sv,J.av,J.vv,J.lv,J.rv,J.cv,J.fv]
def Jv.with(J:Jv)(v:Value):Jv:={ J with fv:=v }
structure Jz (F:Nat->Prop) (w:World) (jb:Nat) (J:Jv) (ds:List Sy) (n m:Nat) (lks:List Lm) (ls:List Lk) (us:List Nat) (l:List Sx):Prop where
 pool:Pool w l
 like:l.map syOf=ds
 tab:TabG w
 f0:F 0
 low:Low F w
 un:∀k,F k->UL l k
 ju:UL l jb
 jF:¬F jb
 jk:∀y∈ds,¬y.2.kp jb
 blk:w.heap[jb]?=some (.cells J.cells 114 (0,0))
 lk:SlS csL 4 F w J.lv lks
 al:NatC F w J.av (List.range m)
 va:NatC F w J.vv us
 ll:lks.length<=1000
 ok:LinksOk ds n m lks ls
 nn:n<=10000
 mm:m<=1000
 ul:us.length<=1000
section
variable {F:Nat->Prop} {w w':World} {jb:Nat} {J J':Jv} {ds:List Sy} {n m:Nat} {lks:List Lm} {ls:List Lk} {us:List Nat} {l l':List Sx}
theorem Jz.lt(h:Jz F w jb J ds n m lks ls us l):jb<w.heap.size:=lt_of_block h.blk
theorem Jz.cell(h:Jz F w jb J ds n m lks ls us l):w.cell? ⟨jb,1,none⟩=some J.av/\w.cell? ⟨jb,2,none⟩=some J.vv/\w.cell? ⟨jb,3,none⟩=some J.lv/\w.cell? ⟨jb,4,none⟩=some J.rv/\w.cell? ⟨jb,5,none⟩=some J.cv/\w.cell? ⟨jb,6,none⟩=some J.fv/\w.frozen? ⟨jb,6,none⟩=false:=by
 simp[World.cell?,World.frozen?,h.blk,Jv.cells]
theorem Jz.js(h:Jz F w jb J ds n m lks ls us l):JS w (fun k=>k<w.heap.size/\UL l k) jb ds n m lks ls l:=
 ⟨h.pool,h.like,fun _ hk=>hk.1,fun _ hk=>hk.2,h.tab,⟨h.low 0 h.f0,h.un 0 h.f0⟩,⟨h.lt,h.ju⟩,⟨J.lv,h.cell.2.2.1,h.lk.sub (fun k hk hl=>⟨hl,h.un k hk⟩)⟩,h.ll,h.ok,h.nn,h.mm⟩
theorem Jz.call{T:Nat->Prop}(h:Jz F w jb J ds n m lks ls us l)(hf:Fr (fun k=>k<w.heap.size/\UL l k) w w')(h1:JS w' T jb ds n m lks ls l')(hs:∀k,k<w.heap.size->UL l k->T k):Jz F w' jb J ds n m lks ls us l':=by
 have hF:Fr F w w':=hf.sub (fun k hk=>⟨h.low k hk,h.un k hk⟩);exact⟨h1.pool,h1.like,h1.tab,h.f0,h.low.fr hF,fun k hk=>h1.un k (hs k (h.low k hk) (h.un k hk)),h1.un jb (hs jb h.lt h.ju),h.jF,h.jk,(hf.block jb ⟨h.lt,h.ju⟩).trans h.blk,h.lk.fr hF,h.al.fr hF,h.va.fr hF,h.ll,h.ok,h.nn,h.mm,h.ul⟩
theorem Jz.kp(h:Jz F w jb J ds n m lks ls us l){x:Sx}(hx:x∈l):syOf x∈ds:=by
 rw[<- h.like];exact zU hx
theorem Jz.write{M:Nat->Prop}(h:Jz F w jb J ds n m lks ls us l)(hz:w.heap.size<=w'.heap.size)(ho:w'.os=w.os)(ht:w'.tape=w.tape)(hu:w'.output=w.output)(hk:∀k,k<w.heap.size->k≠jb->¬M k->w'.heap[k]?=w.heap[k]?)(hM:∀k,M k->UL l k/\¬F k/\∀y∈ds,¬y.2.kp k)
 (hj:w'.heap[jb]?=some (.cells J'.cells 114 (0,0))) (e1:J'.lv=J.lv) (e2:J'.av=J.av) (e3:J'.vv=J.vv):Jz F w' jb J' ds n m lks ls us l:=by
 have hF:Fr F w w':=⟨ho,ht,hu,hz,fun k hk2=>hk k (h.low k hk2) (fun e=>h.jF (e▸hk2)) (fun hm=>(hM k hm).2.1 hk2)⟩
 refine⟨h.pool.keep hz (fun x hx k hk2=>?_),h.like,h.tab.fr h.f0 hF,h.f0,h.low.fr hF,h.un,h.ju,h.jF,h.jk,hj,?_,?_,?_,h.ll,h.ok,h.nn,h.mm,h.ul⟩
 . rcases hk2 with h1|h1
   . exact hk k (h.pool.own_lt hx h1) (fun e=>h.ju x hx (e▸h1)) (fun hm=>(hM k hm).1 x hx h1)
   . exact hk k (h.pool.kp_lt hx h1) (fun e=>h.jk _ (h.kp hx) (e▸h1)) (fun hm=>(hM k hm).2.2 _ (h.kp hx) h1)
 . rw[e1];exact h.lk.fr hF
 . rw[e2];exact h.al.fr hF
 . rw[e3];exact h.va.fr hF
theorem Jz.fresh(h:Jz F w jb J ds n m lks ls us l){k:Nat}(hk:w.heap.size<=k):UL l k/\¬F k/\k≠jb/\∀y∈ds,¬y.2.kp k:=by
 refine⟨fun x hx ho=>?_,fun hf=>?_,fun e=>?_,fun y hy hkp=>?_⟩
 . have:=h.pool.own_lt hx ho;omega
 . have:=h.low k hf;omega
 . have:=h.lt;omega
 . rw[<- h.like]at hy;obtain⟨x,hx,rfl⟩:=zR.1 hy;have:=h.pool.kp_lt hx hkp;omega
def Mine(F:Nat->Prop)(w:World)(jb:Nat)(ds:List Sy)(l:List Sx)(X:Nat->Prop):Prop:=∀k,X k->k<w.heap.size/\UL l k/\¬F k/\k≠jb/\∀y∈ds,¬y.2.kp k
def FoS(w:World)(X:Nat->Prop)(fv:Value)(fl:List (List Nat)):Prop:=
 ∃rows:List (Value×List Nat),rows.map (·.2)=fl/\w.ownsRow 0 56 1 fv rows.length (rows.flatMap csRow)/\(∀g,fv.ownBlock=some g->X g)/\∀r∈rows,NatC (fun k=>X k/\fv.ownBlock≠some k) w r.1 r.2
theorem FoS.keep{X:Nat->Prop}{fv:Value}{fl:List (List Nat)}(h:FoS w X fv fl)(hz:w.heap.size<=w'.heap.size)(hk:∀k,X k->w'.heap[k]?=w.heap[k]?):FoS w' X fv fl:=by
 obtain⟨rows,h1,h2,h3,h4⟩:=h;exact⟨rows,h1,owns_key h2 (fun g o hg ho=>(hk g (h3 g hg)).trans ho),h3,fun r hr=>(h4 r hr).keep hz (fun k hk2 _=>⟨hk2,hk k hk2.1⟩)⟩
structure FFr (w w':World) (l l':List Sx) (M:Nat->Prop):Prop where
 os:w'.os=w.os
 tape:w'.tape=w.tape
 output:w'.output=w.output
 size:w.heap.size<=w'.heap.size
 keep:∀k,k<w.heap.size->UL l k->¬M k->w'.heap[k]?=w.heap[k]?
 un:∀k,k<w.heap.size->UL l k->UL l' k
theorem FFr.refl(w:World)(l:List Sx)(M:Nat->Prop):FFr w w l l M:=⟨rfl,rfl,rfl,zD _,fun _ _ _ _=>rfl,fun _ _ h=>h⟩
theorem FFr.mono{M M2:Nat->Prop}(h:FFr w w' l l' M)(hM:∀k,M k->M2 k):FFr w w' l l' M2:=⟨h.os,h.tape,h.output,h.size,fun k hk hu hm=>h.keep k hk hu (fun h2=>hm (hM k h2)),h.un⟩
theorem FFr.trans{w2:World}{l2:List Sx}{M M2:Nat->Prop}(h:FFr w w' l l' M)(h2:FFr w' w2 l' l2 M2)(hM:∀k,M2 k->M k\/w.heap.size<=k):FFr w w2 l l2 M:=
 ⟨h2.os.trans h.os,h2.tape.trans h.tape,h2.output.trans h.output,zQ h.size h2.size,fun k hk hu hm=>(h2.keep k (zO hk h.size) (h.un k hk hu) (fun h3=>(hM k h3).elim hm (fun h4=>by omega))).trans (h.keep k hk hu hm),fun k hk hu=>h2.un k (zO hk h.size) (h.un k hk hu)⟩
theorem FFr.call{T:Nat->Prop}{M:Nat->Prop}(hf:Fr (fun k=>k<w.heap.size/\UL l k) w w')(h1:JS w' T jb ds n m lks ls l')(hs:∀k,k<w.heap.size->UL l k->T k):FFr w w' l l' M:=
 ⟨hf.os,hf.tape,hf.output,hf.size,fun k hk hu _=>hf.block k ⟨hk,hu⟩,fun k hk hu=>h1.un k (hs k hk hu)⟩
end
structure FI (F:Nat->Prop) (w:World) (jb:Nat) (J:Jv) (ds:List Sy) (n m:Nat) (lks:List Lm) (ls:List Lk) (us:List Nat) (l:List Sx) (X C:Nat->Prop) (cv:Value) (c:Ch) (rv:Value) (row:List Nat) (fl:List (List Nat)):Prop where
 jz:Jz F w jb J ds n m lks ls us l
 xm:Mine F w jb ds l X
 fo:FoS w X J.fv fl
 row:QRow 0 w rv row
 rm:Mine F w jb ds l (QB rv)
 rx:∀k,QB rv k->¬X k
 ch:ChR C w cv n c
 cm:∀k,C k->k<w.heap.size/\UL l k/\k≠jb/\¬X k/\¬QB rv k
 ac:AC ls c
 cl:c.length=m
 m0:0<m
 fle:fl.length<=4096
abbrev FM(jb:Nat)(X:Nat->Prop)(rv:Value)(k:Nat):Prop:=k=jb\/X k\/QB rv k
structure FO (F:Nat->Prop) (w:World) (jb:Nat) (J:Jv) (ds:List Sy) (n m:Nat) (lks:List Lm) (ls:List Lk) (us:List Nat) (l:List Sx) (X:Nat->Prop) (rv:Value) (row:List Nat) (fl:List (List Nat)) (w':World):Prop where
 ex:∃fv' l' X',Jz F w' jb (J.with fv') ds n m lks ls us l'/\Mine F w' jb ds l' X'/\FoS w' X' fv' fl/\QRow 0 w' rv row/\(∀k,X' k->X k\/w.heap.size<=k)/\FFr w w' l l' (FM jb X rv)
def FilE(F:Nat->Prop)(w:World)(jb:Nat)(J:Jv)(ds:List Sy)(n m:Nat)(lks:List Lm)(ls:List Lk)(us:List Nat)(l:List Sx)(X:Nat->Prop)(rv:Value)(row:List Nat)(fl R:List (List Nat))(e:Ending)(w':World):Prop:=
 e=.returned (.bool (decide ((fl++R).length<=4096)))/\FO F w jb J ds n m lks ls us l X rv row ((fl++R).take 4097) w'
def FillP(k:Nat)(F:Nat->Prop)(jb:Nat)(ds:List Sy)(n m:Nat)(lks:List Lm)(ls:List Lk)(us:List Nat):Prop:=
 ∀(w:World) (J:Jv) (l:List Sx) (X C:Nat->Prop) (cv:Value) (c:Ch) (rv:Value) (row:List Nat) (fl:List (List Nat)) (us0 rest:List Nat),us=us0++rest->row.length=us0.length->rest.length<=k->FI F w jb J ds n m lks ls us l X C cv c rv row fl->
  Calls Tryz.prog 54 #[.pointer (some ⟨jb,0,none⟩),cv,rv] w (FilE F w jb J ds n m lks ls us l X rv row fl (fillL ls m rest c row))
section
variable {F:Nat->Prop} {w w':World} {jb:Nat} {J J':Jv} {ds:List Sy} {n m:Nat} {lks:List Lm} {ls:List Lk} {us:List Nat} {l l':List Sx} {X C:Nat->Prop} {cv rv:Value} {c:Ch} {row:List Nat} {fl:List (List Nat)}
theorem FI.call{T:Nat->Prop}(h:FI F w jb J ds n m lks ls us l X C cv c rv row fl)(hf:Fr (fun k=>k<w.heap.size/\UL l k) w w')(h1:JS w' T jb ds n m lks ls l')(hs:∀k,k<w.heap.size->UL l k->T k):FI F w' jb J ds n m lks ls us l' X C cv c rv row fl:=by
 have hff:FFr w w' l l' (fun _=>False):=FFr.call hf h1 hs;have hmine:∀Y,Mine F w jb ds l Y->Mine F w' jb ds l' Y:=fun Y hY k hk=>by
  obtain⟨a1,a2,a3⟩:=hY k hk;exact⟨zO a1 hf.size,hff.un k a1 a2,a3⟩
 refine⟨h.jz.call hf h1 hs,hmine _ h.xm,h.fo.keep hf.size (fun k hk=>hf.block k ⟨(h.xm k hk).1,(h.xm k hk).2.1⟩),h.row.keep (fun g _ hg=>hf.block g ⟨(h.rm g hg).1,(h.rm g hg).2.1⟩),hmine _ h.rm,h.rx,h.ch.keep hf.size (fun b hb _=>⟨hb,hf.block b ⟨(h.cm b hb).1,(h.cm b hb).2.1⟩⟩),fun k hk=>?_,h.ac,h.cl,h.m0,h.fle⟩;obtain⟨a1,a2,a3⟩:=h.cm k hk;exact⟨zO a1 hf.size,hff.un k a1 a2,a3⟩
theorem FI.nothing{T:Nat->Prop}(h:FI F w jb J ds n m lks ls us l X C cv c rv row fl)(hf:Fr (fun k=>k<w.heap.size/\UL l k) w w')(h1:JS w' T jb ds n m lks ls l')(hs:∀k,k<w.heap.size->UL l k->T k):FO F w jb J ds n m lks ls us l X rv row fl w':=by
 have h2:=h.call hf h1 hs;exact⟨J.fv,l',X,h2.jz,h2.xm,h2.fo,h2.row,fun k hk=>.inl hk,FFr.call hf h1 hs⟩
end
end Go.Proofs.YtdalcipmpelifaaGreatDoor
