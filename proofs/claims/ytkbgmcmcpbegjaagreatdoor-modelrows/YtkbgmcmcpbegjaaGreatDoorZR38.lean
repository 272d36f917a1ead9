/- XState, XVertex, XChoose, XLinked. -/
import Derived.Test.YtkbgmcmcpbegjaaGreatDoorZR37
import Derived.Test.YtkbgmcmcpbegjaaGreatDoorZR28
set_option maxRecDepth 100000
set_option maxHeartbeats 8000000
namespace Go.Proofs.YtkbgmcmcpbegjaaGreatDoor
open Go.RowKit Go.Shelf
structure ChR (F:Nat->Prop) (w:World) (v:Value) (n:Nat) (c:Ch):Prop where
 ex:∃rows:List (Value×List Nat),rows.map (·.2)=c/\SlS jaN 1 F w v rows/\(∀r∈rows,NatC F w r.1 r.2)/\∀r∈rows,(∀u∈r.2,u<n)/\r.2.length<=10000
theorem ChR.keep{F T:Nat->Prop}{w w':World}{v:Value}{n:Nat}{c:Ch}(h:ChR F w v n c)(hz:w.heap.size<=w'.heap.size)(hk:∀b,F b->b<w.heap.size->T b/\w'.heap[b]?=w.heap[b]?):ChR T w' v n c:=by
 obtain⟨aa,h1,h2,h3,h4⟩:=h.ex;exact⟨aa,h1,h2.keep hz hk,fun r hr=>(h3 r hr).keep hz hk,h4⟩
structure JS (w:World) (F:Nat->Prop) (jb:Nat) (ds:List Sy) (n m:Nat) (lks:List Lm) (ls:List Lk) (l:List Sx):Prop where
 pool:Pool w l
 like:l.map syOf=ds
 low:Low F w
 un:∀k,F k->∀x∈l,¬OwnX x k
 tab:TabG w
 f0:F 0
 jF:F jb
 lk:∃lv,w.cell? ⟨jb,3,none⟩=some lv/\SlS csL 4 F w lv lks
 ll:lks.length<=1000
 ok:jbE ds n m lks ls
 nn:n<=10000
 mm:m<=1000
theorem JS.below{w w':World}{F:Nat->Prop}{jb:Nat}{ds:List Sy}{n m:Nat}{lks:List Lm}{ls:List Lk}{l:List Sx}(h:JS w F jb ds n m lks ls l)(hb:Below w.heap.size w w'):JS w' F jb ds n m lks ls l:=by
 obtain⟨lv,h1,h2⟩:=h.lk;exact⟨h.pool.below hb,h.like,h.low.below hb,h.un,h.tab.below (h.low 0 h.f0) hb,h.f0,h.jF,⟨lv,by simpa only[World.cell?,hb.block jb (h.low jb h.jF)]using h1,h2.below hb⟩,h.ll,h.ok,h.nn,h.mm⟩
theorem JS.more{w w':World}{F T:Nat->Prop}{jb:Nat}{ds:List Sy}{n m:Nat}{lks:List Lm}{ls:List Lk}{l:List Sx}(h:JS w F jb ds n m lks ls l)(hb:Below w.heap.size w w')(hT:∀k,T k->F k\/(w.heap.size<=k/\k<w'.heap.size))(hs:∀k,F k->T k):JS w' T jb ds n m lks ls l:=by
 obtain⟨lv,h1,h2⟩:=(h.below hb).lk;refine⟨h.pool.below hb,h.like,fun k hk=>?_,fun k hk x hx ho=>?_,h.tab.below (h.low 0 h.f0) hb,hs 0 h.f0,hs jb h.jF,⟨lv,h1,h2.sub (fun k hk _=>hs k hk)⟩,h.ll,h.ok,h.nn,h.mm⟩
 . rcases hT k hk with h3|h3
   . exact zQ (h.low k h3) hb.size
   . exact h3.2
 . rcases hT k hk with h3|h3
   . exact h.un k h3 x hx ho
   . have:=h.pool.own_lt hx ho;omega
def ChoC(w:World)(C F:Nat->Prop)(jb:Nat)(ds:List Sy)(n m:Nat)(lks:List Lm)(ls:List Lk)(v:Value)(c:Ch)(w':World):Prop:=
 ∃F' C' l',(∀k,F k->F' k)/\Fr F w w'/\JS w' F' jb ds n m lks ls l'/\ChR C' w' v n c/\(∀k,C' k->F' k)/\(∀k,C' k->C k\/w.heap.size<=k)
def ChoE(w:World)(F:Nat->Prop)(jb:Nat)(ds:List Sy)(n m:Nat)(lks:List Lm)(ls:List Lk)(v:Value)(c:Ch)(w':World):Prop:=
 ∃F' l',(∀k,F k->F' k)/\Fr F w w'/\JS w' F' jb ds n m lks ls l'/\ChR F' w' v n c
theorem jl5{ls:List Lk}{c:Ch}(hac:AC ls c){slot vx:Nat}(hs:slot<c.length)(hv:vx∈atC c slot):∀l∈ls,(l.fr∈[slot]\/HC (c.set slot [vx]) l.fr l.to l.R)/\(l.to∈[slot]\/HC (c.set slot [vx]) l.to l.fr (fun v u=>l.R u v)):=fun l hl=>by
 have key:∀(a b:Nat) (Q:Nat->Nat->Prop),HC c a b Q->a∈[slot]\/HC (c.set slot [vx]) a b Q:=fun a b Q h=>by
  by_cases e:a=slot
  . exact .inl (by rw[e];exact zN ..)
  . refine .inr fun v hv2=>?_
    rw[jbi c _ _ hs]at hv2;have hv3:v∈atC c b:=by
     split at hv2
     . rename_i eb;rw[zK.1 hv2,<- eb];exact hv
     . exact hv2
    obtain⟨u,hu,hq⟩:=h v hv3;exact⟨u,by rw[jbi c _ _ hs,if_neg (fun e2=>e e2.symm)];exact hu,hq⟩
 exact⟨key _ _ _ (hac l hl).1,key _ _ _ (hac l hl).2⟩
theorem jhC{w:World}{b x:Nat}(h:w.heap[b]?=some (.cells #[.int .i64 (x:Int)] 3 (0,0))):NatC (fun k=>k=b) w (.slice (some ⟨b,0,none⟩) 1 1) [x]:=by
 refine⟨⟨_,1,rfl,.inr ⟨b,0,rfl,rfl,lt_of_block h,fun j y hy c u hu=>?_⟩⟩,_,1,rfl,zD _⟩
 match j,hy with
 |0,hy=>
  simp at hy;subst hy
  match c,hu with
  |0,hu=>
   simp at hu;subst hu;simp[World.cell?,h]
  |c+1,hu=>simp at hu
 |j+1,hy=>simp at hy
theorem JS.choose{w w1 W4:World}{C F:Nat->Prop}{jb:Nat}{ds:List Sy}{n:Nat}{c:Ch}{lks:List Lm}{ls:List Lk}{l:List Sx}{rows:List (Value×List Nat)}{g1 nr cap slot vx:Nat}
 (h:JS w F jb ds n c.length lks ls l) (hrc:rows.map (·.2)=c) (hCF:∀k,C k->F k) (hat:∀r∈rows,NatC C w r.1 r.2) (hbd:∀r∈rows,(∀u∈r.2,u<n)/\r.2.length<=10000) (hnr:nr=rows.length)
 (hs:slot<c.length) (hv:vx∈atC c slot) (hac:AC ls c) (hb1:Below w.heap.size w w1) (hg1:w.heap.size<=g1) (hg1l:g1<w1.heap.size) (hsz:W4.heap.size=w1.heap.size+2) (ho:W4.os=w1.os) (ht:W4.tape=w1.tape) (hu:W4.output=w1.output)
 (hk:∀k,k<w1.heap.size->k≠g1->W4.heap[k]?=w1.heap[k]?) (hA:W4.heap[w1.heap.size]?=some (.cells #[.int .i64 (vx:Int)] 3 (0,0))) (hB:W4.heap[w1.heap.size+1]?=some (.cells #[.int .i64 (slot:Int)] 3 (0,0)))
 (hrow:W4.ownsRow 0 59 1 (.slice (some ⟨g1,0,none⟩) nr cap) nr ((rows.set slot (.slice (some ⟨w1.heap.size,0,none⟩) 1 1,[vx])).flatMap jaN)):
 Calls Tryz.prog 76 #[.pointer (some ⟨jb,0,none⟩),.slice (some ⟨g1,0,none⟩) nr cap,.slice (some ⟨w1.heap.size+1,0,none⟩) 1 1] W4 fun e w'=>e=.returned (.tuple #[])/\ChoC w C F jb ds n c.length lks ls (.slice (some ⟨g1,0,none⟩) nr cap) (jas ls c slot vx) w':=by
 have hz1:=hb1.size;have ac:∀k,k<w.heap.size->W4.heap[k]?=w.heap[k]?:=fun k aa=>(hk k (by omega) (by omega)).trans (hb1.block k aa)
 have am:vx<n:=by
  have hrl:rows.length=c.length:=by rw[<- hrc,zH]
  obtain⟨r,hr⟩:∃r,rows[slot]?=some r:=⟨_,zB (by omega)⟩
  have al:atC c slot=r.2:=by unfold atC;rw[<- hrc,List.getD,zI,hr];rfl
  rw[al]at hv;exact(hbd r (zC hr)).1 vx hv
 have ae:∀k,(Value.slice (some ⟨g1,0,none⟩) nr cap).ownBlock=some k->k=g1:=fun k e=>by
  have h3:g1=k:=by simpa[Value.ownBlock]using e
  exact h3.symm
 have ah:Fr F w W4:=⟨ho.trans hb1.os,ht.trans hb1.tape,hu.trans hb1.output,by omega,fun k aa=>ac k (h.low k aa)⟩
 have an:NI W4 (fun k=>C k\/w.heap.size<=k) (fun k=>F k\/k=w1.heap.size+1) (fun _=>False) (.slice (some ⟨g1,0,none⟩) nr cap) ds n (c.set slot [vx]) W4 l (fun k=>(k<W4.heap.size/\∀x∈l,¬OwnX x k)/\(C k\/w.heap.size<=k)) (rows.set slot (.slice (some ⟨w1.heap.size,0,none⟩) 1 1,[vx])):=by
  have ad:∀k,w.heap.size<=k->∀x∈l,¬OwnX x k:=fun k aa x hx ho2=>by have:=h.pool.own_lt hx ho2;omega
  refine⟨h.pool.keep (by omega) (fun x hx k aa=>ac k (aa.elim (h.pool.own_lt hx) (h.pool.kp_lt hx))),h.like,⟨by rw[List.length_set,<- hnr];exact hrow,fun g hg=>?_,fun r hr=>?_⟩,by rw[List.map_set,hrc],fun k aa=>aa.1.1,fun k aa=>aa.1.2,fun x hx k aa e=>?_,fun r hr=>?_,Fr.refl _ _,fun k aa=>?_,fun _ aa=>aa.elim,fun _ aa=>aa.elim,fun _ aa=>aa.elim,fun _ aa _=>aa.2⟩
  . rw[ae g hg];exact⟨⟨by omega,ad g1 hg1⟩,.inr hg1⟩
  . rcases List.mem_or_eq_of_mem_set hr with hr|hr
    . exact(hat r hr).keep (by omega) (fun k aa hk3=>⟨⟨⟨⟨by omega,h.un k (hCF k aa)⟩,.inl aa⟩,fun e=>by have:=ae k e;omega⟩,ac k hk3⟩)
    . rw[hr];exact(jhC hA).sub (fun k aa _=>⟨⟨⟨by omega,ad k (by omega)⟩,.inr (by omega)⟩,fun e=>by have:=ae k e;omega⟩)
  . have h3:=h.pool.kp_lt hx aa;have:=ae k e;omega
  . rcases List.mem_or_eq_of_mem_set hr with hr|hr
    . exact hbd r hr
    . rw[hr];exact⟨fun u hu2=>by rw[zK.1 hu2];exact am,by simp⟩
  . rcases aa with aa|aa
    . have:=h.low k aa;exact⟨by omega,h.un k aa,fun e=>by have:=ae k e;omega⟩
    . exact⟨by omega,ad k (by omega),fun e=>by have:=ae k e;omega⟩
 obtain⟨lv,aj,ak⟩:=h.lk;have ag:Low (fun k=>F k\/k=w1.heap.size+1) W4:=fun k aa=>by
  rcases aa with aa|aa
  . have:=h.low k aa;omega
  . omega
 have ai:jbE ds n (c.set slot [vx]).length lks ls:=by rw[List.length_set];exact h.ok
 have C:=narrow_any (jb:=jb) (lv:=lv) (chv:=.slice (some ⟨w1.heap.size+1,0,none⟩) 1 1) (T0:=[slot]) an h.nn (h.tab.fr h.f0 ah) (.inl h.f0) ag (by rw[List.length_set];exact h.mm) (by simpa only[World.cell?,ac jb (h.low jb h.jF)]using aj) (.inl h.jF) (ak.keep (by omega) (fun k aa hk3=>⟨.inl aa,ac k hk3⟩)) h.ll ai ((jhC hB).1.sub (fun k aa _=>.inr aa)) (by simp) (by simp) (fun k aa=>by rw[zK.1 aa,List.length_set];exact hs) (jl5 hac hs hv);refine C.mono ?_;rintro e w' ⟨rfl,l',Z',af,ab⟩;refine⟨rfl,fun k=>Z' k\/(F k\/k=w1.heap.size+1),Z',l',fun k aa=>.inr (.inl aa),ah.trans (ab.fr.sub (fun k aa=>.inl aa)),?_,?_,fun k aa=>.inl aa,fun k aa=>?_⟩
 . refine⟨ab.pool,ab.like,fun k aa=>?_,fun k aa=>?_,(h.tab.fr h.f0 ah).fr (.inl h.f0) ab.fr,.inr (.inl h.f0),.inr (.inl h.jF),⟨lv,?_,?_⟩,h.ll,h.ok,h.nn,h.mm⟩
   . exact aa.elim (ab.zl k) (fun aa=>(ab.fo k aa).1)
   . exact aa.elim (ab.zu k) (fun aa=>(ab.fo k aa).2.1)
   . have h5:W4.cell? ⟨jb,3,none⟩=some lv:=by simpa only[World.cell?,ac jb (h.low jb h.jF)]using aj
     simpa only[World.cell?,ab.fr.block jb (.inl h.jF)]using h5
   . exact(((ak.fr ah).sub (fun k aa _=>(.inl aa:F k\/k=w1.heap.size+1))).fr ab.fr).sub (fun k aa _=>.inr aa)
 . exact⟨af,ab.rc,(jaD jaU ab.ch.row rfl).sub (fun k aa _=>ab.ch.own k aa),fun r hr=>(ab.ch.ats r hr).sub (fun k aa _=>aa.1),ab.cb⟩
 . by_cases hkw:k<W4.heap.size
   . exact ab.zo k aa hkw
   . exact .inr (by omega)
def VerE(w:World)(L:List Nat)(e:Ending)(w':World):Prop:=∃v,e=.returned v/\NatC (fun k=>w.heap.size<=k) w' v L/\Below w.heap.size w w'
def jdu(N:List Wd)(s:Wd):List Nat:=if s∈N then [N.idxOf s]else []
theorem jid{S:Nat->Prop}{w:World}{gb:Nat}{N:List Wd}{E:List Eg}{mb:Nat}{nv ev:Value}{D:DataW Unit}{c:Nat}(h:GrS S w gb N E mb nv ev D c)(s:Wd)(hs:s.length<=140737488351232):
 Calls Tryz.prog 96 #[.pointer (some ⟨gb,0,none⟩),.string ⟨s.toArray⟩] w (VerE w (jdu N s)):=by
 have H:=zA h;have HK:=zA (keySG s (by unfold maxLen;omega));obtain⟨⟨g0,g1,g2⟩,_⟩:=cells3G h.blk;have hh:=h.keys s;by_cases hm:s∈N
 . have HM:Hid (Maps.has D (.string s)=true):=zA (by rw[hh];exact zU hm);have hx:=h.tells (N.idxOf s) s (yD hm) (idx_at hm);have HX:=zA hx;have HL:Hid (jdu N s=[N.idxOf s]):=zA (by rw[jdu,if_pos hm]);rw[HL.out];obtain⟨x,ae⟩:=eX (N.idxOf s);rw[<- ae]at HX ⊢;clear h hh hm hx HL ae;go_enter Tryz.func96,Tryz.ntmps96;have ab:Hid (∀u:World,Hid (NatC (fun k=>u.heap.size<=k) (u.alloc (.cells #[.int .i64 (x:Int)] 3)) (.slice (some ⟨u.heap.size,0,none⟩) 1 1) [x])):=zA (fun u=>zA ((jhC (b:=u.heap.size) (heap_alloc_new u _)).sub (fun k hk _=>by have hk:k=u.heap.size:=hk;omega)));go_wp2_with (at_lookup;refine wpList_lookup_own_ok_int _ rfl _ _ 72 rfl 9 3 .i64 lawSG Tryz.underlying72 Tryz.underlying3 (zeroIG _) mb _ D rfl H.out.map _ _ rfl HK.out ?_;intro cc aa ad;rw[HM.out];have af:cc=(x:Int):=(by rw[HX.out]at aa;injection aa with aa;injection aa with _ aa;exact aa.symm);clear aa ad;subst af);all_goals (first|(go_ret;exact⟨_,rfl,(ab.out w).out,(zF _ _).alloc (zD _) _⟩)|exact⟨_,rfl,(ab.out w).out,(zF _ _).alloc (zD _) _⟩)
 . have HM:Hid (Maps.has D (.string s)=false):=zA (by rw[hh];exact decide_eq_false hm);have HL:Hid (jdu N s=[]):=zA (by rw[jdu,if_neg hm]);rw[HL.out];clear h hh hm HL;have ac:Hid (NatC (fun k=>w.heap.size<=k) w (.slice none 0 0) []):=zA ⟨SlS.nil _ _,none,0,rfl,zD _⟩;go_enter Tryz.func96,Tryz.ntmps96;go_wp2_with (at_lookup;refine wpList_lookup_own_ok_int _ rfl _ _ 72 rfl 9 3 .i64 lawSG Tryz.underlying72 Tryz.underlying3 (zeroIG _) mb _ D rfl H.out.map _ _ rfl HK.out ?_;intro cc aa ad;rw[HM.out];clear aa ad);all_goals (first|(go_ret;exact⟨_,rfl,ac.out,zF _ _⟩)|exact⟨_,rfl,ac.out,zF _ _⟩)
def WrdE(w:World)(L:List Wd)(e:Ending)(w':World):Prop:=∃b,e=.returned (.slice (some ⟨b,0,none⟩) L.length L.length)/\b=w.heap.size/\VRow w' b 9 (L.flatMap csT)/\Below w.heap.size w w'
theorem jkg(x:Wd):(csT x).length=1:=rfl
theorem jjR(L:List Wd):L.flatMap csT=L.map (fun s=>Value.string ⟨s.toArray⟩):=by
 induction L with
 |nil=>rfl
 |cons a l ih=>rw[yT,ih];rfl
theorem jka{S T:Nat->Prop}{w:World}{gb:Nat}{N:List Wd}{E:List Eg}{mb:Nat}{nv ev:Value}{D:DataW Unit}{c:Nat}(h:GrS S w gb N E mb nv ev D c){v:Value}{row:List Nat}(hr:NatC T w v row)(hrl:row.length<=100000)(hrn:∀x∈row,x<N.length):
 Calls Tryz.prog 43 #[.pointer (some ⟨gb,0,none⟩),v] w (WrdE w (row.map fun i=>N.getD i [])):=by
 obtain⟨i0,aJ,aE,aO,aL⟩:=jal infoSG;obtain⟨⟨g0,_,_⟩,_⟩:=cells3G h.blk;obtain⟨na,nc,af⟩:=h.names.slice;obtain⟨nn,ah⟩:=eX N.length;rw[<- ah]at af;rw[af]at g0;obtain⟨ra,rc,au⟩:=hr.1.slice;obtain⟨n,hn⟩:=eX row.length;rw[<- hn]at au hrl;subst au;have an:=lt_of_block h.blk;have aC:Hid (TxtS S w (.slice na nn nc) N):=zA (by rw[<- af];exact h.names);have HR:=zA hr.1;have aF:=zA hrn;have HN:=zA hn;have ao:=zA ah;obtain⟨R,hR⟩:=eX (row.map fun i=>N.getD i []);rw[<- hR];have az:=zA hR;have ap:R.length=n:=by rw[hR,zH,hn]
 have aq:=zA ap;have HM:=zA (jd6 w (.string ⟨#[]⟩) n 9);have ar:Hid (Below w.heap.size w (w.alloc (.cells (madeCells #[.string ⟨#[]⟩] n) 9))):=zA ((zF _ _).alloc (zD _) _);have aN:Hid (∀u,Below w.heap.size w u->u.cell? ⟨gb,0,none⟩=some (.slice na nn nc)):=zA (fun u hu=>(hu.cell (p:=⟨gb,0,none⟩) an).trans g0);obtain⟨W0,ak⟩:=eX (w.alloc (.cells (madeCells #[.string ⟨#[]⟩] n) 9));rw[<- ak]at HM ar;have aA:=zA ak.symm;clear h hr hrn hn ah af hR ap ak g0 an;go_enter Tryz.func43,Tryz.ntmps43;go_wp2_with (at_make;refine wpList_make_row _ rfl _ _ 34 rfl 9 i0 (.string ⟨#[]⟩) Tryz.underlying34 aJ aE aO rfl _ _ n rfl rfl (by rw[aL];omega) (by omega) ?_;rw[aA.out]);go_loopw [13] (fun c wr=>∃(i:Nat) (l:List Wd),i<=n/\c=.int .i64 i/\Hid (l.length=n)/\Hid (l.take i=R.take i)/\Hid (VRow wr w.heap.size 9 (l.flatMap csT))/\Hid (Below w.heap.size w wr)) (fun c _=>n-(intOf c).toNat)
 case atStart=>exact⟨0,List.replicate n [],zO _,rfl,zA (by simp),zA (by simp),zA (by
  have:=HM.out;rw[show (List.replicate n ([]:Wd)).flatMap csT=List.replicate n (Value.string ⟨#[]⟩) by rw[jjR];simp];exact this),ar⟩
 case round=>
  obtain⟨i,l,hi,rfl,ag,am,ac,ae⟩:=hrel;obtain⟨wx,aD⟩:=eX wr;subst aD;by_cases hlt:i<n
  . have aj:(i:Int)<(n:Int):=by omega
    obtain⟨x,hx⟩:∃x,row[i]?=some x:=⟨_,zB (by rw[<- HN.out];exact hlt)⟩
    obtain⟨ga,ai,aG,_,aI,ab⟩:=HR.out.get hx;subst aG;have q0:=getI ab;rw[yC]at q0;have q0:=(ae.out.cell (p:=⟨ga,ai+i,none⟩) aI).trans q0;have av:=aF.out x (zC hx);rw[<- ao.out]at av;have hxI:(x:Int)<(nn:Int):=by omega
    obtain⟨s,hs⟩:∃s,N[x]?=some s:=⟨_,zB (by rw[<- ao.out];exact av)⟩
    obtain⟨gn,al,ay,_,ax,aa⟩:=aC.out.get hs;subst ay;have q1:=aa 0 _ rfl;rw[yC,yA]at q1;have q1:=(ae.out.cell (p:=⟨gn,al+x,none⟩) ax).trans q1;have q2:=aN.out wx ae.out;obtain⟨y,hy⟩:∃y,l[i]?=some y:=⟨_,zB (by rw[ag.out];exact hlt)⟩
    obtain⟨z0,z1⟩:=ac.out.cell (i:=i) (v:=.string ⟨y.toArray⟩) (by rw[jjR,zI,hy];rfl);have aw:Hid (VRow (wx.setCell ⟨w.heap.size,i,none⟩ (.string ⟨s.toArray⟩)) w.heap.size 9 ((l.set i s).flatMap csT)):=zA (by
     have:=ac.out.set i (.string ⟨s.toArray⟩);rw[jjR]at this ⊢;rw[List.map_set];exact this)
    have aK:=zA (ae.out.setCell (p:=⟨w.heap.size,i,none⟩) (zD _) (.string ⟨s.toArray⟩));have aH:Hid ((l.set i s).take (i+1)=R.take (i+1)):=zA (by
     rw[zS,List.getElem?_set_self (by rw[ag.out];exact hlt),List.take_set_of_le (zD _),am.out,zS];have aM:R[i]?=some s:=by
      rw[az.out,zI,hx];simp[List.getD,hs]
     rw[aM])
    have aB:Hid ((l.set i s).length=n):=zA (by rw[List.length_set];exact ag.out);clear hx hs hy ab aa;go_wp2;go_roundw
    case rel=>exact⟨i+1,l.set i s,by omega,by go_num,aB,aH,aw,aK⟩
    case measure=>simp[intOf];omega
  . have aj:¬(i:Int)<(n:Int):=by omega
    have HE:Hid (l=R):=zA (by
     have h1:=am.out;rw[zJ (by rw[ag.out];omega),zJ (by rw[aq.out];omega)]at h1;exact h1)
    have ad:Hid (WrdE w R (.returned (.slice (some ⟨w.heap.size,0,none⟩) n n)) wx):=zA ⟨_,by rw[aq.out],rfl,by rw[<- HE.out];exact ac.out,ae.out⟩;go_wp2;all_goals (first|(go_ret;exact ad.out)|exact ad.out)
theorem NewE.mono{w w2:World}{n:Nat}{E:List Eg}{a:Au}{e:Ending}{w':World}(h:NewE w2 n E a e w')(hb:Below w.heap.size w w2):NewE w n E a e w':=by
 obtain⟨sb,m,kp,h1,h2,h3,h4,h5⟩:=h;have hz:=hb.size;exact⟨sb,m,kp,h1,h2,fun k hk=>zT hz (h3 k hk),fun k hk=>⟨zT hz (h4 k hk).1,(h4 k hk).2⟩,hb.trans (h5.mono hz)⟩
theorem ja3{S U:Nat->Prop}{w:World}{gb:Nat}{N:List Wd}{E:List Eg}{mb:Nat}{nv ev:Value}{D:DataW Unit}{c:Nat}{t:Vt}(hg:GrS S w gb N E mb nv ev D c)(hv:VOk U w t)(hp:mayP t.pt=true)(hn:N.length<=10000)(hEl:E.length<=10000)(hE:∀e∈E,e.1<N.length/\e.2.2<N.length/\e.2.1.length<=140737488351232):
 Calls Tryz.prog 73 #[.pointer (some ⟨gb,0,none⟩),encN t] w (NewE w N.length E (jaF t.pt)):=by
 obtain⟨P,hP⟩:=eX t.pt;rw[<- hP]at hp ⊢;have CO:Hid (∀u,Below w.heap.size w u->Calls Tryz.prog 28 #[encN t] u fun e w'=>∃m:Mu,e=.returned (.tuple #[encU m,.int .i64 0])/\UOk (fun g=>u.heap.size<=g) w' m/\m.au=jaF P/\Below u.heap.size u w'):=zA (fun u hu=>by
  have h1:=jkR (hv.below hu);rw[<- hP,hp,if_pos rfl]at h1;have h2:ofA P=jaF P:=by rw[ofA,hp,if_pos rfl]
  rw[h2]at h1;exact h1)
 obtain⟨af,_⟩:=jc1 hp;have HG:=zA hg;have ar:=zA af;have HE:=zA hE;obtain⟨ka,kc,aB⟩:=hv.parts.1.slice;obtain⟨k,wd,v,l⟩:=t;dsimp only at aB;subst aB;obtain⟨kn,aw⟩:=eX l.length;rw[<- aw]at CO ⊢;clear hg hv hp hP aw af hE;show Calls Tryz.prog _ #[_,.agg #[.int .i64 k,.string ⟨wd.toArray⟩,.slice ka kn kc]] w _;obtain⟨o,ho⟩:=eX (Obj.cells #[.int .i64 k,.string ⟨wd.toArray⟩,.slice ka kn kc] 25 (0,0));have aq:Hid (Below w.heap.size w (w.alloc o)):=zA ((zF _ _).alloc (zD _) _);have C1:=zA (CO.out (w.alloc o) aq.out);subst ho;have ax:Hid (Calls Tryz.prog 28 #[.agg #[.int .i64 k,.string ⟨wd.toArray⟩,.slice ka kn kc]] (w.alloc (Obj.cells #[.int .i64 k,.string ⟨wd.toArray⟩,.slice ka kn kc] 25 (0,0))) fun e w'=>∃m:Mu,e=.returned (.tuple #[encU m,.int .i64 0])/\UOk (fun g=>(w.alloc (Obj.cells #[.int .i64 k,.string ⟨wd.toArray⟩,.slice ka kn kc] 25 (0,0))).heap.size<=g) w' m/\m.au=jaF P/\Below (w.alloc (Obj.cells #[.int .i64 k,.string ⟨wd.toArray⟩,.slice ka kn kc] 25 (0,0))).heap.size (w.alloc (Obj.cells #[.int .i64 k,.string ⟨wd.toArray⟩,.slice ka kn kc] 25 (0,0))) w'):=C1;clear C1 CO;go_enter Tryz.func73,Tryz.ntmps73;go_wp2_with fail;refine ax.out.mono ?_;rintro e w1 ⟨m,rfl,hu,aC,ay⟩;have HU:=zA hu;have ap:=zA aC;have aD:=zA (aq.out.trans (ay.mono aq.out.size));obtain⟨wa,ak,ag,ah,la,lc,oa,oc,e1,e2,e3,e4⟩:=hu.slices;obtain⟨wv,ws,fv,al,lv,ls,ov,os,em⟩:=m;dsimp only at e1 e2 e3 e4;subst e1 e2 e3 e4;clear hu aC ay ax;obtain⟨nw,az⟩:=eX ws.length;obtain⟨no,aE⟩:=eX os.length;obtain⟨an,ad⟩:=eX al.length;obtain⟨nl,av⟩:=eX ls.length;obtain⟨aF,ai⟩:=eX (⟨.slice wa ws.length ak,ws,.slice ag al.length ah,al,.slice la ls.length lc,ls,.slice oa os.length oc,os,em⟩:Mu);rw[<- ai]at HU ap;have aA:Hid (encU aF=.agg #[.slice wa nw ak,.slice ag an ah,.slice la nl lc,.slice oa no oc,.bool em]):=zA (by rw[ai,az,aE,ad,av]);rw[<- ai,aA.out];clear ai az aE ad av;obtain⟨o2,aj⟩:=eX (Obj.cells #[.slice wa nw ak,.slice ag an ah,.slice la nl lc,.slice oa no oc,.bool em] 62 (0,0));obtain⟨w2,ae⟩:=eX (w1.alloc o2);have aa:Below w1.heap.size w1 w2:=by rw[ae];exact(zF _ _).alloc (zD _) _
 have am:=zA (aD.out.trans (aa.mono aD.out.size));have ao:w2.heap[w1.heap.size]?=some o2:=by rw[ae];exact heap_alloc_new _ _
 rw[aj]at ao;obtain⟨⟨r0,r1,r2,r3,r4⟩,_⟩:=jar ao;have CN:=zA (newSearch_any (HG.out.keep am.out.size (fun b hs hl=>⟨hs,am.out.block b hl⟩)) (HU.out.below aa) (by rw[ap.out];exact ar.out) hn hEl HE.out);rw[ap.out,aA.out]at CN;have aG:Hid (w1.alloc (.cells #[.slice wa nw ak,.slice ag an ah,.slice la nl lc,.slice oa no oc,.bool em] 62)=w2):=zA (by rw[ae,aj]);rw[ae,aj]at r0 r1 r2 r3 r4;clear aa ao ae aj;go_wp2_with fail;rw[aG.out];refine CN.out.mono ?_;intro e w3 ac;have ab:=zA (ac.mono am.out);obtain⟨sb,m3,kp,rfl,_⟩:=ac;go_wp2;all_goals (first|(go_ret;exact ab.out)|exact ab.out)
theorem jk9:(Tryz.prog.info? 59).map (fun i=>(i.zero,i.size,i.bytes))=some (some (.slice none 0 0),1,24):=by kernel_rfl
theorem jfo{S:Nat->Prop}{w:World}{v:Value}{L:List (Value×List Nat)}(h:SlS jaN 1 S w v L)(hat:∀r∈L,NatC S w r.1 r.2)(hne:L≠[])(hL:L.length<=1000000000):
 Calls Tryz.prog 75 #[v] w fun e w'=>∃g cap,e=.returned (.slice (some ⟨g,0,none⟩) L.length cap)/\w'.ownsRow w.heap.size 59 1 (.slice (some ⟨g,0,none⟩) L.length cap) L.length (L.flatMap jaN)/\Below w.heap.size w w':=by
 obtain⟨i0,ac,ad,af,aa⟩:=jal jk9;obtain⟨ao,cap,e,h⟩:=h;subst e;have ae:∀w,(Go.sizeOf 59).run Tryz.prog w=.ok 1 w:=fun w=>by kernel_rfl
 rcases h with h|⟨g,ab,rfl,_,_,hc⟩
 . exact absurd h hne
 refine(Tryz.slices_Clone_f75 i0 _ 1 24 ac ad af aa rfl (by decide) ae g ab L.length cap (L.flatMap jaN) w (by rw[jaz jaU]) (by unfold maxLen;omega) (by omega) (fun j u hj=>?_) (fun u hu=>?_)).mono ?_
 . rw[jb6,zI]at hj;cases hLj:L[j]? with
   |none=>rw[hLj]at hj;simp at hj
   |some z=>
    rw[hLj]at hj;simp at hj;subst hj;have:=hc j z hLj 0 _ rfl;rw[yC,yA]at this;exact this
 . rw[jb6]at hu;obtain⟨z,hz,rfl⟩:=zV.1 hu;obtain⟨_,ao,cp,e,_⟩:=hat z hz;rw[e];rfl
 . rintro e w' ⟨v',rfl,h1,h3,h2⟩;rcases h1.2 with⟨e,_⟩|⟨g,cap,cur,e,_⟩
   . exact absurd e h3
   . subst e;exact⟨g,cap,rfl,h1,h2⟩
theorem ChoC.old{w:World}{F:Nat->Prop}{jb:Nat}{ds:List Sy}{n m:Nat}{lks:List Lm}{ls:List Lk}{v:Value}{c:Ch}{w':World}{C:Nat->Prop}(h:ChoC w C F jb ds n m lks ls v c w'):ChoE w F jb ds n m lks ls v c w':=by
 obtain⟨F',C',l',h1,h2,h3,h4,h5,_⟩:=h;exact⟨F',l',h1,h2,h3,h4.keep (zD _) (fun b hb _=>⟨h5 b hb,rfl⟩)⟩
def ChoZ(w:World)(C F:Nat->Prop)(jb:Nat)(ds:List Sy)(n m:Nat)(lks:List Lm)(ls:List Lk)(c:Ch)(e:Ending)(w':World):Prop:=
 ∃v,e=.returned v/\ChoC w C F jb ds n m lks ls v c w'
def ChoR(w:World)(F:Nat->Prop)(jb:Nat)(ds:List Sy)(n m:Nat)(lks:List Lm)(ls:List Lk)(c:Ch)(e:Ending)(w':World):Prop:=
 ∃v,e=.returned v/\ChoE w F jb ds n m lks ls v c w'
theorem jeh{w:World}{C F:Nat->Prop}{jb:Nat}{ds:List Sy}{n:Nat}{c:Ch}{lks:List Lm}{ls:List Lk}{l:List Sx}{v:Value}{slot vx:Nat}
 (h:JS w F jb ds n c.length lks ls l) (hc:ChR C w v n c) (hCF:∀k,C k->F k) (hs:slot<c.length) (hv:vx∈atC c slot) (hac:AC ls c):
 Calls Tryz.prog 102 #[.pointer (some ⟨jb,0,none⟩),v,.int .i64 (slot:Int),.int .i64 (vx:Int)] w (ChoZ w C F jb ds n c.length lks ls (jas ls c slot vx)):=by
 obtain⟨ab,al,ao,am,ap⟩:=hc.ex;have ai:ab.length=c.length:=by rw[<- al,zH]
 have ay:=h.mm;obtain⟨nr,ak⟩:=eX ab.length;have C0:=jfo ao am (fun e=>by rw[e]at ai;simp at ai;omega) (by omega);rw[<- ak]at C0;have hsr:slot<nr:=by omega
 have hsI:(slot:Int)<(nr:Int):=by omega
 have C1:Hid (∀w1 g1 ac,w1.ownsRow w.heap.size 59 1 (.slice (some ⟨g1,0,none⟩) nr ac) nr (ab.flatMap jaN)->Below w.heap.size w w1->∀W4,W4=((w1.setCell ⟨g1,slot,none⟩ (.slice (some ⟨w1.heap.size,0,none⟩) 1 1)).alloc (.cells #[.int .i64 (vx:Int)] 3)).alloc (.cells #[.int .i64 (slot:Int)] 3)->
  Calls Tryz.prog 76 #[.pointer (some ⟨jb,0,none⟩),.slice (some ⟨g1,0,none⟩) nr ac,.slice (some ⟨w1.heap.size+1,0,none⟩) 1 1] W4 fun e w'=>e=.returned (.tuple #[])/\ChoC w C F jb ds n c.length lks ls (.slice (some ⟨g1,0,none⟩) nr ac) (jas ls c slot vx) w'):=zA (fun w1 g1 ac aa hb1 W4 hW=>by
  obtain⟨ar,af⟩:=aa.lt g1 rfl;have an:=(aa.stored slot (.slice (some ⟨w1.heap.size,0,none⟩) 1 1)).1;obtain⟨wa,ah⟩:=eX (w1.setCell ⟨g1,slot,none⟩ (.slice (some ⟨w1.heap.size,0,none⟩) 1 1));have aA:wa.heap.size=w1.heap.size:=by rw[ah];simp
  have aw:∀k,k≠g1->wa.heap[k]?=w1.heap[k]?:=fun k hk=>by rw[ah];exact zM w1 ⟨g1,slot,none⟩ _ k hk
  have aj:wa.os=w1.os/\wa.tape=w1.tape/\wa.output=w1.output:=by rw[ah];exact⟨rfl,rfl,rfl⟩
  rw[<- ah]at hW an;obtain⟨wb,ag⟩:=eX (wa.alloc (.cells #[.int .i64 (vx:Int)] 3));rw[<- ag]at hW;have ae:Below wa.heap.size wa wb:=by rw[ag];exact(zF _ _).alloc (zD _) _
  have hzb:wb.heap.size=wa.heap.size+1:=by rw[ag];simp
  have ax:wb.heap[wa.heap.size]?=some (.cells #[.int .i64 (vx:Int)] 3 (0,0)):=by rw[ag];exact heap_alloc_new _ _
  have ad:Below wb.heap.size wb W4:=by rw[hW];exact(zF _ _).alloc (zD _) _
  have hz4:W4.heap.size=wb.heap.size+1:=by rw[hW];simp
  have au:W4.heap[wb.heap.size]?=some (.cells #[.int .i64 (slot:Int)] 3 (0,0)):=by rw[hW];exact heap_alloc_new _ _
  refine h.choose al hCF am ap ak hs hv hac hb1 ar af (by omega) (ad.os.trans (ae.os.trans aj.1)) (ad.tape.trans (ae.tape.trans aj.2.1)) (ad.output.trans (ae.output.trans aj.2.2)) (fun k hk hne=>?_) ?_ ?_ ?_
  . exact(ad.block k (by omega)).trans ((ae.block k (by omega)).trans (aw k hne))
  . rw[<- aA];exact(ad.block _ (by omega)).trans ax
  . rw[show w1.heap.size+1=wb.heap.size by omega];exact au
  . rw[jfE];have h1:W4.ownsRow w.heap.size 59 1 (.slice (some ⟨g1,0,none⟩) nr ac) nr ((ab.flatMap jaN).set slot (.slice (some ⟨w1.heap.size,0,none⟩) 1 1)):=jae an (fun g o hg ho=>by
     have av:=lt_of_block ho;exact(ad.block g (by omega)).trans ((ae.block g av).trans ho))
    refine⟨h1.1,h1.2.imp id ?_⟩;rintro⟨g,cp,az,e1,_,e3⟩;exact⟨g,cp,az,e1,zO _,e3⟩)
 have aq:=zA C0;obtain⟨Q,hQ⟩:=eX (ChoZ w C F jb ds n c.length lks ls (jas ls c slot vx));obtain⟨P,hP⟩:=eX (fun v=>ChoC w C F jb ds n c.length lks ls v (jas ls c slot vx));have HQ:Hid (∀v w',P v w'->Q (.returned v) w'):=zA (fun v w' hp=>by rw[hQ];rw[hP]at hp;exact⟨v,rfl,hp⟩);have C2:Hid (∀w1 g1 ac,w1.ownsRow w.heap.size 59 1 (.slice (some ⟨g1,0,none⟩) nr ac) nr (ab.flatMap jaN)->Below w.heap.size w w1->∀W4,W4=((w1.setCell ⟨g1,slot,none⟩ (.slice (some ⟨w1.heap.size,0,none⟩) 1 1)).alloc (.cells #[.int .i64 (vx:Int)] 3)).alloc (.cells #[.int .i64 (slot:Int)] 3)->
  Calls Tryz.prog 76 #[.pointer (some ⟨jb,0,none⟩),.slice (some ⟨g1,0,none⟩) nr ac,.slice (some ⟨w1.heap.size+1,0,none⟩) 1 1] W4 fun e w'=>e=.returned (.tuple #[])/\P (.slice (some ⟨g1,0,none⟩) nr ac) w'):=zA (by rw[hP];exact C1.out)
 rw[<- hQ];clear C0 C1 h hc hCF hs hv hac al ao am ap ai ay ak hQ hP;go_enter Tryz.func102,Tryz.ntmps102;go_wp2_with fail;refine aq.out.mono ?_;rintro e w1 ⟨g1,ac,rfl,aa,hb⟩;obtain⟨ar,af⟩:=aa.lt g1 rfl;have aB:∃u,w1.cell? ⟨g1,slot,none⟩=some u:=⟨_,(aa.cellAt slot (by omega)).trans (zB (by rw[aa.1];omega))⟩
 obtain⟨u0,hu0⟩:=aB;have hfz:=aa.frozenAt slot;have C3:=zA (C2.out w1 g1 ac aa hb);clear aa hb C2 aq;go_wp2_with fail;refine(C3.out _ rfl).mono ?_;rintro e w' ⟨rfl,hp⟩;have HP:=zA (HQ.out _ _ hp);clear hp C3 HQ;go_wp2;all_goals (first|(go_ret;exact HP.out)|exact HP.out)
theorem jiw{w:World}{F:Nat->Prop}{jb:Nat}{ds:List Sy}{n:Nat}{c:Ch}{lks:List Lm}{ls:List Lk}{l:List Sx}{v:Value}{slot vx:Nat}
 (h:JS w F jb ds n c.length lks ls l) (hc:ChR F w v n c) (hs:slot<c.length) (hv:vx∈atC c slot) (hac:AC ls c):
 Calls Tryz.prog 102 #[.pointer (some ⟨jb,0,none⟩),v,.int .i64 (slot:Int),.int .i64 (vx:Int)] w (ChoR w F jb ds n c.length lks ls (jas ls c slot vx)):=by
 refine(jeh h hc (fun _ hk=>hk) hs hv hac).mono ?_;rintro e w' ⟨v,rfl,hp⟩;exact⟨v,rfl,hp.old⟩
def lnkB(a b:Nat)(L:Lm):Bool:=(L.1==a&&L.2.1==b)||(L.1==b&&L.2.1==a)
theorem jdf{p q:Nat}(h:p≠q):¬(p:Int)=(q:Int)/\((p:Int)==(q:Int))=false:=⟨by omega,by simp;omega⟩
theorem jhy{w:World}{pa pb a b:Nat}(ha:w.cell? ⟨pa,0,none⟩=some (.int .i64 (a:Int)))(hb:w.cell? ⟨pb,0,none⟩=some (.int .i64 (b:Int)))(L:Lm):
 Calls Tryz.prog 156 #[.agg (csL L).toArray,.pointer (some ⟨pa,0,none⟩),.pointer (some ⟨pb,0,none⟩)] w fun e w'=>e=.returned (.bool (lnkB a b L))/\Below w.heap.size w w':=by
 obtain⟨x,y,s,t⟩:=L;have ab:=World.block_lt_of_cell? _ _ ha;have ac:=World.block_lt_of_cell? _ _ hb;have ab:pa<w.heap.size:=ab;have ac:pb<w.heap.size:=ac;have hc:∀(i:Nat) v,(csL (x,y,s,t))[i]?=some v->(w.alloc (.cells #[.int .i64 (x:Int),.int .i64 (y:Int),.pointer (some ⟨s,0,none⟩),.pointer (some ⟨t,0,none⟩)] 140)).cell? ⟨w.heap.size,i,none⟩=some v:=fun i v hv=>by
  obtain⟨W,hW⟩:=eX (w.alloc (.cells #[.int .i64 (x:Int),.int .i64 (y:Int),.pointer (some ⟨s,0,none⟩),.pointer (some ⟨t,0,none⟩)] 140));have h1:W.heap[w.heap.size]?=some (.cells #[.int .i64 (x:Int),.int .i64 (y:Int),.pointer (some ⟨s,0,none⟩),.pointer (some ⟨t,0,none⟩)] 140 (0,0)):=by rw[hW];exact heap_alloc_new _ _
  rw[<- hW];simpa[World.cell?,h1]using hv
 have c0:=hc 0 _ rfl;have c1:=hc 1 _ rfl;have c2:=hc 2 _ rfl;have c3:=hc 3 _ rfl;dsimp only at c0 c1 c2 c3;obtain⟨r,hr⟩:=eX (lnkB a b (x,y,s,t));rw[<- hr];show Calls Tryz.prog 156 #[.agg #[.int .i64 (x:Int),.int .i64 (y:Int),.pointer (some ⟨s,0,none⟩),.pointer (some ⟨t,0,none⟩)],.pointer (some ⟨pa,0,none⟩),.pointer (some ⟨pb,0,none⟩)] w _;have aa:(x=a/\y=b/\r=true)\/(x=a/\a=b/\y≠b/\r=false)\/(x=a/\y≠b/\a≠b/\r=false)\/(x=b/\y=a/\x≠a/\r=true)\/(x=b/\x≠a/\y≠a/\r=false)\/(x≠a/\x≠b/\r=false):=by
  unfold lnkB at hr;dsimp only at hr;cases h1:(x==a)<;>cases h2:(y==b)<;>cases h3:(x==b)<;>cases h4:(y==a)<;>rw[h1,h2,h3,h4]at hr<;>simp only[beq_iff_eq,beq_eq_false_iff_ne]at h1 h2 h3 h4<;>(subst hr;simp only[Bool.and_true,Bool.and_false,Bool.or_true,Bool.or_false,reduceCtorEq,and_false,and_true,or_false,false_or];omega)
 clear hc hr;rcases aa with⟨rfl,rfl,hr⟩|⟨rfl,rfl,h1,hr⟩|⟨rfl,h1,h2,hr⟩|⟨rfl,rfl,h1,hr⟩|⟨rfl,h1,h2,hr⟩|⟨h1,h2,hr⟩
 . subst hr;go_enter Tryz.func156,Tryz.ntmps156;go_wp2;all_goals (first|(go_ret;exact⟨rfl,(zF _ _).alloc (zD _) _⟩)|exact⟨rfl,(zF _ _).alloc (zD _) _⟩)
 . subst hr;obtain⟨f1,g1⟩:=jdf h1;go_enter Tryz.func156,Tryz.ntmps156;go_wp2;all_goals (first|(go_ret;exact⟨rfl,(zF _ _).alloc (zD _) _⟩)|exact⟨rfl,(zF _ _).alloc (zD _) _⟩)
 . subst hr;obtain⟨f1,g1⟩:=jdf h1;obtain⟨f2,g2⟩:=jdf h2;go_enter Tryz.func156,Tryz.ntmps156;go_wp2;all_goals (first|(go_ret;exact⟨rfl,(zF _ _).alloc (zD _) _⟩)|exact⟨rfl,(zF _ _).alloc (zD _) _⟩)
 . subst hr;obtain⟨f1,g1⟩:=jdf h1;go_enter Tryz.func156,Tryz.ntmps156;go_wp2;all_goals (first|(go_ret;exact⟨rfl,(zF _ _).alloc (zD _) _⟩)|exact⟨rfl,(zF _ _).alloc (zD _) _⟩)
 . subst hr;obtain⟨f1,g1⟩:=jdf h1;obtain⟨f2,g2⟩:=jdf h2;go_enter Tryz.func156,Tryz.ntmps156;go_wp2;all_goals (first|(go_ret;exact⟨rfl,(zF _ _).alloc (zD _) _⟩)|exact⟨rfl,(zF _ _).alloc (zD _) _⟩)
 . subst hr;obtain⟨f1,g1⟩:=jdf h1;obtain⟨f2,g2⟩:=jdf h2;go_enter Tryz.func156,Tryz.ntmps156;go_wp2;all_goals (first|(go_ret;exact⟨rfl,(zF _ _).alloc (zD _) _⟩)|exact⟨rfl,(zF _ _).alloc (zD _) _⟩)
theorem jjQ(ao:Option Addr)(cap:Nat)(fv:Value)(w:World):
 Calls Tryz.prog 158 #[.slice ao 0 cap,fv] w fun e w'=>e=.returned (.int .i64 (-1))/\w'=w:=by
 go_enter Tryz.func158,Tryz.ntmps158;go_wp2_with fail;go_loopw [8] (fun c wr=>c=.int .i64 0/\wr=w) (fun _ _=>0)
 case atStart=>exact⟨rfl,rfl⟩
 case round=>
  obtain⟨rfl,rfl⟩:=hrel;go_wp2;all_goals (first|(go_ret;exact⟨rfl,rfl⟩)|exact⟨rfl,rfl⟩)
theorem jjr(ao:Option Addr)(cap:Nat)(fv:Value)(w:World):
 Calls Tryz.prog 155 #[.slice ao 0 cap,fv] w fun e w'=>e=.returned (.bool false)/\w'=w:=by
 have C:=zA (jjQ ao cap fv w);go_enter Tryz.func155,Tryz.ntmps155;go_wp2_with fail;refine C.out.mono ?_;rintro e w5 ⟨rfl,h⟩;rw[h];clear h;go_wp2;all_goals (first|(go_ret;exact⟨rfl,rfl⟩)|exact⟨rfl,rfl⟩)
theorem jin{w:World}{F:Nat->Prop}{jb:Nat}{lv:Value}{lks:List Lm}{a b:Nat}(hj:w.cell? ⟨jb,3,none⟩=some lv)(hlk:SlS csL 4 F w lv lks)(hll:lks.length<=1000):
 Calls Tryz.prog 149 #[.pointer (some ⟨jb,0,none⟩),.int .i64 (a:Int),.int .i64 (b:Int)] w fun e w'=>e=.returned (.bool (lks.any (lnkB a b)))/\Below w.heap.size w w':=by
 obtain⟨ka,kc,ag⟩:=hlk.slice;obtain⟨nk,ad⟩:=eX lks.length;obtain⟨w2,ab⟩:=eX ((w.alloc (.cells #[.int .i64 (a:Int)] 3)).alloc (.cells #[.int .i64 (b:Int)] 3));have af:Below w.heap.size w w2:=by rw[ab];exact((zF _ _).alloc (zD _) _).alloc (by simp) _
 have ak:w2.heap[w.heap.size]?=some (.cells #[.int .i64 (a:Int)] 3 (0,0)):=by rw[ab];exact jak [_,_] w 0 (by simp)
 have ac:w2.heap[w.heap.size+1]?=some (.cells #[.int .i64 (b:Int)] 3 (0,0)):=by rw[ab];exact jak [_,_] w 1 (by simp)
 have al:w2.heap.size=w.heap.size+2:=by rw[ab];simp
 obtain⟨r,hr⟩:=eX (lks.any (lnkB a b));have ah:w2.cell? ⟨jb,3,none⟩=some lv:=by
  have ae:jb<w.heap.size:=World.block_lt_of_cell? _ _ hj;simpa only[World.cell?,af.block jb ae]using hj
 have aa:=hlk.below af;rw[ag]at aa ah;rw[<- ad]at ah;have C:Calls Tryz.prog 155 #[.slice ka nk kc,.func (.func 156) #[] #[.pointer (some ⟨w.heap.size,0,none⟩),.pointer (some ⟨w.heap.size+1,0,none⟩)]] w2 fun e w'=>e=.returned (.bool r)/\Below w2.heap.size w2 w':=by
  by_cases h0:lks=[]
  . have h1:nk=0:=by rw[ad,h0];rfl
    rw[h1,hr,h0];refine(jjr ka kc _ w2).mono ?_;rintro e w' ⟨he,hw⟩;exact⟨he,by rw[hw];exact zF _ _⟩
  . obtain⟨ao,cap,e,h5⟩:=aa;injection e with e1 e2 e3;rcases h5 with h5|⟨g,aq,e5,_,ap,hc⟩
    . exact absurd h5 h0
    . rw[e1,e5,hr];have C1:=Tryz.slices_ContainsFunc 4 (fun w=>by kernel_rfl) (fun w=>by kernel_rfl) csL jhh (lnkB a b) 156 #[.pointer (some ⟨w.heap.size,0,none⟩),.pointer (some ⟨w.heap.size+1,0,none⟩)] (fun args w=>by kernel_rfl) g aq nk kc lks w2 (fun W x hW=>by
       have k1:W.cell? ⟨w.heap.size,0,none⟩=some (.int .i64 (a:Int)):=by
        have h1:=(hW.block w.heap.size (by omega)).trans ak;simp[World.cell?,h1]
       have k2:W.cell? ⟨w.heap.size+1,0,none⟩=some (.int .i64 (b:Int)):=by
        have h1:=(hW.block (w.heap.size+1) (by omega)).trans ac;simp[World.cell?,h1]
       refine(jhy k1 k2 x).mono ?_;rintro e w' ⟨he,hb⟩;exact⟨he,hW.trans (hb.mono (by have:=hW.size;omega))⟩) (by omega) (by omega) ap (fun j ae i v hv=>hc j _ (by rw[List.getElem!_eq_getElem?_getD,zB ae];rfl) i v hv)
      refine C1.mono ?_;rintro e w' ⟨he,hb⟩;rw[ad,List.take_length]at he;exact⟨he,hb⟩
 have CH:=zA C;have ai:=zA af;have ae:jb<w.heap.size:=World.block_lt_of_cell? _ _ hj;rw[ag,<- ad]at hj;rw[<- hr];clear hlk hll ak ac aa C af hr ad ag ah;have an:=zA al;have am:=zA ab;clear al ab;go_enter Tryz.func149,Tryz.ntmps149;go_wp2_with fail;rw[<- am.out];refine CH.out.mono ?_;rintro e w5 ⟨rfl,hb⟩;have aj:=zA (ai.out.trans (hb.mono (by have:=an.out;omega)));clear hb an am CH ai;go_wp2;all_goals (first|(go_ret;exact⟨rfl,aj.out⟩)|exact⟨rfl,aj.out⟩)
end Go.Proofs.YtkbgmcmcpbegjaaGreatDoor
