/- XState, XVertex, XChoose, XLinked. -/
import Derived.Test.YtdalcipmpelifaaGreatDoorMG33
import Derived.Test.YtdalcipmpelifaaGreatDoorMG16
set_option maxRecDepth 100000
namespace Go.Proofs.YtdalcipmpelifaaGreatDoor
open Go.RowKit Go.Shelf
structure ChR (F:Nat->Prop) (w:World) (v:Value) (n:Nat) (c:Ch):Prop where
 ex:∃rows:List (Value×List Nat),rows.map (·.2)=c/\SlS csRow 1 F w v rows/\(∀r∈rows,NatC F w r.1 r.2)/\∀r∈rows,(∀u∈r.2,u<n)/\r.2.length<=10000
theorem ChR.keep{F T:Nat->Prop}{w w':World}{v:Value}{n:Nat}{c:Ch}(h:ChR F w v n c)(hz:w.heap.size<=w'.heap.size)(hk:∀b,F b->b<w.heap.size->T b/\w'.heap[b]?=w.heap[b]?):ChR T w' v n c:=by
 obtain⟨rows,h1,h2,h3,h4⟩:=h.ex;exact⟨rows,h1,h2.keep hz hk,fun r hr=>(h3 r hr).keep hz hk,h4⟩
structure JS (w:World) (F:Nat->Prop) (jb:Nat) (ds:List Sy) (n m:Nat) (lks:List Lm) (ls:List Lk) (l:List Sx):Prop where
 pool:Pool w l
 like:l.map syOf=ds
 low:Low F w
 un:∀k,F k->∀x∈l,¬OwnX x k
 tab:TabG w
 f0:F 0
 jF:F jb
 lk:∃lv,w.cell? ⟨jb,3,none⟩=some lv/\SlS csL 4 F w lv lks
 ll:lks.length<=1000
 ok:LinksOk ds n m lks ls
 nn:n<=10000
 mm:m<=1000
theorem JS.below{w w':World}{F:Nat->Prop}{jb:Nat}{ds:List Sy}{n m:Nat}{lks:List Lm}{ls:List Lk}{l:List Sx}(h:JS w F jb ds n m lks ls l)(hb:Below w.heap.size w w'):JS w' F jb ds n m lks ls l:=by
 obtain⟨lv,h1,h2⟩:=h.lk;exact⟨h.pool.below hb,h.like,h.low.below hb,h.un,h.tab.below (h.low 0 h.f0) hb,h.f0,h.jF,⟨lv,by simpa only[World.cell?,hb.block jb (h.low jb h.jF)]using h1,h2.below hb⟩,h.ll,h.ok,h.nn,h.mm⟩
theorem JS.more{w w':World}{F T:Nat->Prop}{jb:Nat}{ds:List Sy}{n m:Nat}{lks:List Lm}{ls:List Lk}{l:List Sx}(h:JS w F jb ds n m lks ls l)(hb:Below w.heap.size w w')(hT:∀k,T k->F k\/(w.heap.size<=k/\k<w'.heap.size))(hs:∀k,F k->T k):JS w' T jb ds n m lks ls l:=by
 obtain⟨lv,h1,h2⟩:=(h.below hb).lk;refine⟨h.pool.below hb,h.like,fun k hk=>?_,fun k hk x hx ho=>?_,h.tab.below (h.low 0 h.f0) hb,hs 0 h.f0,hs jb h.jF,⟨lv,h1,h2.sub (fun k hk _=>hs k hk)⟩,h.ll,h.ok,h.nn,h.mm⟩
 . rcases hT k hk with h3|h3
   . exact zO (h.low k h3) hb.size
   . exact h3.2
 . rcases hT k hk with h3|h3
   . exact h.un k h3 x hx ho
   . have:=h.pool.own_lt hx ho;omega
def ChoC(w:World)(C F:Nat->Prop)(jb:Nat)(ds:List Sy)(n m:Nat)(lks:List Lm)(ls:List Lk)(v:Value)(c:Ch)(w':World):Prop:=
 ∃F' C' l',(∀k,F k->F' k)/\Fr F w w'/\JS w' F' jb ds n m lks ls l'/\ChR C' w' v n c/\(∀k,C' k->F' k)/\(∀k,C' k->C k\/w.heap.size<=k)
def ChoE(w:World)(F:Nat->Prop)(jb:Nat)(ds:List Sy)(n m:Nat)(lks:List Lm)(ls:List Lk)(v:Value)(c:Ch)(w':World):Prop:=
 ∃F' l',(∀k,F k->F' k)/\Fr F w w'/\JS w' F' jb ds n m lks ls l'/\ChR F' w' v n c
theorem ac_set{ls:List Lk}{c:Ch}(hac:AC ls c){slot vx:Nat}(hs:slot<c.length)(hv:vx∈atC c slot):∀l∈ls,(l.fr∈[slot]\/HC (c.set slot [vx]) l.fr l.to l.R)/\(l.to∈[slot]\/HC (c.set slot [vx]) l.to l.fr (fun v u=>l.R u v)):=fun l hl=>by
 have key:∀(a b:Nat) (Q:Nat->Nat->Prop),HC c a b Q->a∈[slot]\/HC (c.set slot [vx]) a b Q:=fun a b Q h=>by
  by_cases e:a=slot
  . exact .inl (by rw[e];exact zL ..)
  . refine .inr fun v hv2=>?_
    rw[atC_set c _ _ hs]at hv2;have hv3:v∈atC c b:=by
     split at hv2
     . rename_i eb;rw[zJ.1 hv2,<- eb];exact hv
     . exact hv2
    obtain⟨u,hu,hq⟩:=h v hv3;exact⟨u,by rw[atC_set c _ _ hs,if_neg (fun e2=>e e2.symm)];exact hu,hq⟩
 exact⟨key _ _ _ (hac l hl).1,key _ _ _ (hac l hl).2⟩
theorem one_nat{w:World}{b x:Nat}(h:w.heap[b]?=some (.cells #[.int .i64 (x:Int)] 3 (0,0))):NatC (fun k=>k=b) w (.slice (some ⟨b,0,none⟩) 1 1) [x]:=by
 refine⟨⟨_,1,rfl,.inr ⟨b,0,rfl,rfl,lt_of_block h,fun j y hy c u hu=>?_⟩⟩,_,1,rfl,zD _⟩
 match j,hy with
 |0,hy=>
  simp at hy;subst hy
  match c,hu with
  |0,hu=>
   simp at hu;subst hu;simp[World.cell?,h]
  |c+1,hu=>simp at hu
 |j+1,hy=>simp at hy
theorem JS.choose{w w1 W4:World}{C F:Nat->Prop}{jb:Nat}{ds:List Sy}{n:Nat}{c:Ch}{lks:List Lm}{ls:List Lk}{l:List Sx}{rows:List (Value×List Nat)}{g1 nr cap slot vx:Nat}
 (h:JS w F jb ds n c.length lks ls l) (hrc:rows.map (·.2)=c) (hCF:∀k,C k->F k) (hat:∀r∈rows,NatC C w r.1 r.2) (hbd:∀r∈rows,(∀u∈r.2,u<n)/\r.2.length<=10000) (hnr:nr=rows.length)
 (hs:slot<c.length) (hv:vx∈atC c slot) (hac:AC ls c) (hb1:Below w.heap.size w w1) (hg1:w.heap.size<=g1) (hg1l:g1<w1.heap.size) (hsz:W4.heap.size=w1.heap.size+2) (ho:W4.os=w1.os) (ht:W4.tape=w1.tape) (hu:W4.output=w1.output)
 (hk:∀k,k<w1.heap.size->k≠g1->W4.heap[k]?=w1.heap[k]?) (hA:W4.heap[w1.heap.size]?=some (.cells #[.int .i64 (vx:Int)] 3 (0,0))) (hB:W4.heap[w1.heap.size+1]?=some (.cells #[.int .i64 (slot:Int)] 3 (0,0)))
 (hrow:W4.ownsRow 0 56 1 (.slice (some ⟨g1,0,none⟩) nr cap) nr ((rows.set slot (.slice (some ⟨w1.heap.size,0,none⟩) 1 1,[vx])).flatMap csRow)):
 Calls Tryz.prog 52 #[.pointer (some ⟨jb,0,none⟩),.slice (some ⟨g1,0,none⟩) nr cap,.slice (some ⟨w1.heap.size+1,0,none⟩) 1 1] W4 fun e w'=>e=.returned (.tuple #[])/\ChoC w C F jb ds n c.length lks ls (.slice (some ⟨g1,0,none⟩) nr cap) (chooseC ls c slot vx) w':=by
 have hz1:=hb1.size;have hold:∀k,k<w.heap.size->W4.heap[k]?=w.heap[k]?:=fun k hk2=>(hk k (by omega) (by omega)).trans (hb1.block k hk2)
 have hvn:vx<n:=by
  have hrl:rows.length=c.length:=by rw[<- hrc,zH]
  obtain⟨r,hr⟩:∃r,rows[slot]?=some r:=⟨_,zB (by omega)⟩
  have hcs:atC c slot=r.2:=by unfold atC;rw[<- hrc,List.getD,zI,hr];rfl
  rw[hcs]at hv;exact(hbd r (zC hr)).1 vx hv
 have hob:∀k,(Value.slice (some ⟨g1,0,none⟩) nr cap).ownBlock=some k->k=g1:=fun k e=>by
  have h3:g1=k:=by simpa[Value.ownBlock]using e
  exact h3.symm
 have hFw:Fr F w W4:=⟨ho.trans hb1.os,ht.trans hb1.tape,hu.trans hb1.output,by omega,fun k hk2=>hold k (h.low k hk2)⟩
 have hni:NI W4 (fun k=>C k\/w.heap.size<=k) (fun k=>F k\/k=w1.heap.size+1) (fun _=>False) (.slice (some ⟨g1,0,none⟩) nr cap) ds n (c.set slot [vx]) W4 l (fun k=>(k<W4.heap.size/\∀x∈l,¬OwnX x k)/\(C k\/w.heap.size<=k)) (rows.set slot (.slice (some ⟨w1.heap.size,0,none⟩) 1 1,[vx])):=by
  have hnew:∀k,w.heap.size<=k->∀x∈l,¬OwnX x k:=fun k hk2 x hx ho2=>by have:=h.pool.own_lt hx ho2;omega
  refine⟨h.pool.keep (by omega) (fun x hx k hk2=>hold k (hk2.elim (h.pool.own_lt hx) (h.pool.kp_lt hx))),h.like,⟨by rw[List.length_set,<- hnr];exact hrow,fun g hg=>?_,fun r hr=>?_⟩,by rw[List.map_set,hrc],fun k hk2=>hk2.1.1,fun k hk2=>hk2.1.2,fun x hx k hk2 e=>?_,fun r hr=>?_,Fr.refl _ _,fun k hk2=>?_,fun _ hk2=>hk2.elim,fun _ hk2=>hk2.elim,fun _ hk2=>hk2.elim,fun _ hk2 _=>hk2.2⟩
  . rw[hob g hg];exact⟨⟨by omega,hnew g1 hg1⟩,.inr hg1⟩
  . rcases List.mem_or_eq_of_mem_set hr with hr|hr
    . exact(hat r hr).keep (by omega) (fun k hk2 hk3=>⟨⟨⟨⟨by omega,h.un k (hCF k hk2)⟩,.inl hk2⟩,fun e=>by have:=hob k e;omega⟩,hold k hk3⟩)
    . rw[hr];exact(one_nat hA).sub (fun k hk2 _=>⟨⟨⟨by omega,hnew k (by omega)⟩,.inr (by omega)⟩,fun e=>by have:=hob k e;omega⟩)
  . have h3:=h.pool.kp_lt hx hk2;have:=hob k e;omega
  . rcases List.mem_or_eq_of_mem_set hr with hr|hr
    . exact hbd r hr
    . rw[hr];exact⟨fun u hu2=>by rw[zJ.1 hu2];exact hvn,by simp⟩
  . rcases hk2 with hk2|hk2
    . have:=h.low k hk2;exact⟨by omega,h.un k hk2,fun e=>by have:=hob k e;omega⟩
    . exact⟨by omega,hnew k (by omega),fun e=>by have:=hob k e;omega⟩
 obtain⟨lv,hl1,hl2⟩:=h.lk;have hlow4:Low (fun k=>F k\/k=w1.heap.size+1) W4:=fun k hk2=>by
  rcases hk2 with hk2|hk2
  . have:=h.low k hk2;omega
  . omega
 have hok4:LinksOk ds n (c.set slot [vx]).length lks ls:=by rw[List.length_set];exact h.ok
 have C:=narrow_any (jb:=jb) (lv:=lv) (chv:=.slice (some ⟨w1.heap.size+1,0,none⟩) 1 1) (T0:=[slot]) hni h.nn (h.tab.fr h.f0 hFw) (.inl h.f0) hlow4 (by rw[List.length_set];exact h.mm) (by simpa only[World.cell?,hold jb (h.low jb h.jF)]using hl1) (.inl h.jF) (hl2.keep (by omega) (fun k hk2 hk3=>⟨.inl hk2,hold k hk3⟩)) h.ll hok4 ((one_nat hB).1.sub (fun k hk2 _=>.inr hk2)) (by simp) (by simp) (fun k hk2=>by rw[zJ.1 hk2,List.length_set];exact hs) (ac_set hac hs hv);refine C.mono ?_;rintro e w' ⟨rfl,l',Z',rows',hn'⟩;refine⟨rfl,fun k=>Z' k\/(F k\/k=w1.heap.size+1),Z',l',fun k hk2=>.inr (.inl hk2),hFw.trans (hn'.fr.sub (fun k hk2=>.inl hk2)),?_,?_,fun k hk2=>.inl hk2,fun k hk2=>?_⟩
 . refine⟨hn'.pool,hn'.like,fun k hk2=>?_,fun k hk2=>?_,(h.tab.fr h.f0 hFw).fr (.inl h.f0) hn'.fr,.inr (.inl h.f0),.inr (.inl h.jF),⟨lv,?_,?_⟩,h.ll,h.ok,h.nn,h.mm⟩
   . exact hk2.elim (hn'.zl k) (fun hk2=>(hn'.fo k hk2).1)
   . exact hk2.elim (hn'.zu k) (fun hk2=>(hn'.fo k hk2).2.1)
   . have h5:W4.cell? ⟨jb,3,none⟩=some lv:=by simpa only[World.cell?,hold jb (h.low jb h.jF)]using hl1
     simpa only[World.cell?,hn'.fr.block jb (.inl h.jF)]using h5
   . exact(((hl2.fr hFw).sub (fun k hk2 _=>(.inl hk2:F k\/k=w1.heap.size+1))).fr hn'.fr).sub (fun k hk2 _=>.inr hk2)
 . exact⟨rows',hn'.rc,(own_sl csRow_len hn'.ch.row rfl).sub (fun k hk2 _=>hn'.ch.own k hk2),fun r hr=>(hn'.ch.ats r hr).sub (fun k hk2 _=>hk2.1),hn'.cb⟩
 . by_cases hkw:k<W4.heap.size
   . exact hn'.zo k hk2 hkw
   . exact .inr (by omega)
def VerE(w:World)(L:List Nat)(e:Ending)(w':World):Prop:=∃v,e=.returned v/\NatC (fun k=>w.heap.size<=k) w' v L/\Below w.heap.size w w'
def vertexL(N:List Wd)(s:Wd):List Nat:=if s∈N then [N.idxOf s]else []
set_option maxHeartbeats 4000000 in
theorem vertex_any{S:Nat->Prop}{w:World}{gb:Nat}{N:List Wd}{E:List Eg}{mb:Nat}{nv ev:Value}{D:DataW Unit}{c:Nat}(h:GrS S w gb N E mb nv ev D c)(s:Wd)(hs:s.length<=140737488351232):
 Calls Tryz.prog 70 #[.pointer (some ⟨gb,0,none⟩),.string ⟨s.toArray⟩] w (VerE w (vertexL N s)):=by
 have H:=zA h;have HK:=zA (keySG s (by unfold maxLen;omega));obtain⟨⟨g0,g1,g2⟩,_⟩:=cells3G h.blk;have hh:=h.keys s;by_cases hm:s∈N
 . have HM:Hid (Maps.has D (.string s)=true):=zA (by rw[hh];exact yC hm);have hx:=h.tells (N.idxOf s) s (zZ hm) (idx_at hm);have HX:=zA hx;have HL:Hid (vertexL N s=[N.idxOf s]):=zA (by rw[vertexL,if_pos hm]);rw[HL.out];obtain⟨x,hxe⟩:∃x,x=N.idxOf s:=⟨_,rfl⟩
   rw[<- hxe]at HX ⊢;clear h hh hm hx HL hxe;go_enter Tryz.func70,Tryz.ntmps70;have HONE:Hid (∀u:World,Hid (NatC (fun k=>u.heap.size<=k) (u.alloc (.cells #[.int .i64 (x:Int)] 3)) (.slice (some ⟨u.heap.size,0,none⟩) 1 1) [x])):=zA (fun u=>zA ((one_nat (b:=u.heap.size) (heap_alloc_new u _)).sub (fun k hk _=>by have hk:k=u.heap.size:=hk;omega)));go_wp2_with (at_lookup;refine wpList_lookup_own_ok_int _ rfl _ _ 69 rfl 9 3 .i64 lawSG Tryz.underlying69 Tryz.underlying3 (zeroIG _) mb _ D rfl H.out.map _ _ rfl HK.out ?_;intro cc hat hwc;rw[HM.out];have hcc:cc=(x:Int):=(by rw[HX.out]at hat;injection hat with hat;injection hat with _ hat;exact hat.symm);clear hat hwc;subst hcc);all_goals (first|(go_ret;exact⟨_,rfl,(HONE.out w).out,(zF _ _).alloc (zD _) _⟩)|exact⟨_,rfl,(HONE.out w).out,(zF _ _).alloc (zD _) _⟩)
 . have HM:Hid (Maps.has D (.string s)=false):=zA (by rw[hh];exact decide_eq_false hm);have HL:Hid (vertexL N s=[]):=zA (by rw[vertexL,if_neg hm]);rw[HL.out];clear h hh hm HL;have HNIL:Hid (NatC (fun k=>w.heap.size<=k) w (.slice none 0 0) []):=zA ⟨SlS.nil _ _,none,0,rfl,zD _⟩;go_enter Tryz.func70,Tryz.ntmps70;go_wp2_with (at_lookup;refine wpList_lookup_own_ok_int _ rfl _ _ 69 rfl 9 3 .i64 lawSG Tryz.underlying69 Tryz.underlying3 (zeroIG _) mb _ D rfl H.out.map _ _ rfl HK.out ?_;intro cc hat hwc;rw[HM.out];clear hat hwc);all_goals (first|(go_ret;exact⟨_,rfl,HNIL.out,zF _ _⟩)|exact⟨_,rfl,HNIL.out,zF _ _⟩)
def WrdE(w:World)(L:List Wd)(e:Ending)(w':World):Prop:=∃b,e=.returned (.slice (some ⟨b,0,none⟩) L.length L.length)/\b=w.heap.size/\VRow w' b 9 (L.flatMap csT)/\Below w.heap.size w w'
theorem csT_lenX(x:Wd):(csT x).length=1:=rfl
theorem flat_T(L:List Wd):L.flatMap csT=L.map (fun s=>Value.string ⟨s.toArray⟩):=by
 induction L with
 |nil=>rfl
 |cons a l ih=>rw[yS,ih];rfl
set_option maxHeartbeats 4000000 in
theorem words_any{S T:Nat->Prop}{w:World}{gb:Nat}{N:List Wd}{E:List Eg}{mb:Nat}{nv ev:Value}{D:DataW Unit}{c:Nat}(h:GrS S w gb N E mb nv ev D c){v:Value}{row:List Nat}(hr:NatC T w v row)(hrl:row.length<=100000)(hrn:∀x∈row,x<N.length):
 Calls Tryz.prog 32 #[.pointer (some ⟨gb,0,none⟩),v] w (WrdE w (row.map fun i=>N.getD i [])):=by
 obtain⟨i0,hi0,hz0,hz1,hz2⟩:=info_partsG infoSG;obtain⟨⟨g0,_,_⟩,_⟩:=cells3G h.blk;obtain⟨na,nc,hnv⟩:=h.names.slice;obtain⟨nn,hnn⟩:∃q,q=N.length:=⟨_,rfl⟩
 rw[<- hnn]at hnv;rw[hnv]at g0;obtain⟨ra,rc,hre⟩:=hr.1.slice;obtain⟨n,hn⟩:∃q,q=row.length:=⟨_,rfl⟩
 rw[<- hn]at hre hrl;subst hre;have hgb:=lt_of_block h.blk;have HNA:Hid (TxtS S w (.slice na nn nc) N):=zA (by rw[<- hnv];exact h.names);have HR:=zA hr.1;have HRN:=zA hrn;have HN:=zA hn;have HNN:=zA hnn;obtain⟨R,hR⟩:∃R,R=row.map fun i=>N.getD i []:=⟨_,rfl⟩
 rw[<- hR];have HRR:=zA hR;have hRl:R.length=n:=by rw[hR,zH,hn]
 have HRL:=zA hRl;have HM:=zA (made_row w (.string ⟨#[]⟩) n 9);have HB0:Hid (Below w.heap.size w (w.alloc (.cells (madeCells #[.string ⟨#[]⟩] n) 9))):=zA ((zF _ _).alloc (zD _) _);have HG0:Hid (∀u,Below w.heap.size w u->u.cell? ⟨gb,0,none⟩=some (.slice na nn nc)):=zA (fun u hu=>(hu.cell (p:=⟨gb,0,none⟩) hgb).trans g0);obtain⟨W0,hW0⟩:∃W,W=w.alloc (.cells (madeCells #[.string ⟨#[]⟩] n) 9):=⟨_,rfl⟩
 rw[<- hW0]at HM HB0;have HW0:=zA hW0.symm;clear h hr hrn hn hnn hnv hR hRl hW0 g0 hgb;go_enter Tryz.func32,Tryz.ntmps32;go_wp2_with (at_make;refine wpList_make_row _ rfl _ _ 22 rfl 9 i0 (.string ⟨#[]⟩) Tryz.underlying22 hi0 hz0 hz1 rfl _ _ n rfl rfl (by rw[hz2];omega) (by omega) ?_;rw[HW0.out]);go_loopw [13] (fun c wr=>∃(i:Nat) (l:List Wd),i<=n/\c=.int .i64 i/\Hid (l.length=n)/\Hid (l.take i=R.take i)/\Hid (VRow wr w.heap.size 9 (l.flatMap csT))/\Hid (Below w.heap.size w wr)) (fun c _=>n-(intOf c).toNat)
 case atStart=>exact⟨0,List.replicate n [],zS _,rfl,zA (by simp),zA (by simp),zA (by
  have:=HM.out;rw[show (List.replicate n ([]:Wd)).flatMap csT=List.replicate n (Value.string ⟨#[]⟩) by rw[flat_T];simp];exact this),HB0⟩
 case round=>
  obtain⟨i,l,hi,rfl,HLL,HTK,HROW,HBW⟩:=hrel;obtain⟨wx,hwx⟩:∃wx,wx=wr:=⟨_,rfl⟩
  subst hwx;by_cases hlt:i<n
  . have hltI:(i:Int)<(n:Int):=by omega
    obtain⟨x,hx⟩:∃x,row[i]?=some x:=⟨_,zB (by rw[<- HN.out];exact hlt)⟩
    obtain⟨ga,goff,hra,_,hgl,hcell⟩:=HR.out.get hx;subst hra;have q0:=getI hcell;rw[yK]at q0;have q0:=(HBW.out.cell (p:=⟨ga,goff+i,none⟩) hgl).trans q0;have hxn:=HRN.out x (zC hx);rw[<- HNN.out]at hxn;have hxI:(x:Int)<(nn:Int):=by omega
    obtain⟨s,hs⟩:∃s,N[x]?=some s:=⟨_,zB (by rw[<- HNN.out];exact hxn)⟩
    obtain⟨gn,noff,hna,_,hnl,hcelln⟩:=HNA.out.get hs;subst hna;have q1:=hcelln 0 _ rfl;rw[yK,yF]at q1;have q1:=(HBW.out.cell (p:=⟨gn,noff+x,none⟩) hnl).trans q1;have q2:=HG0.out wx HBW.out;obtain⟨y,hy⟩:∃y,l[i]?=some y:=⟨_,zB (by rw[HLL.out];exact hlt)⟩
    obtain⟨z0,z1⟩:=HROW.out.cell (i:=i) (v:=.string ⟨y.toArray⟩) (by rw[flat_T,zI,hy];rfl);have HR2:Hid (VRow (wx.setCell ⟨w.heap.size,i,none⟩ (.string ⟨s.toArray⟩)) w.heap.size 9 ((l.set i s).flatMap csT)):=zA (by
     have:=HROW.out.set i (.string ⟨s.toArray⟩);rw[flat_T]at this ⊢;rw[List.map_set];exact this)
    have HB2:=zA (HBW.out.setCell (p:=⟨w.heap.size,i,none⟩) (zD _) (.string ⟨s.toArray⟩));have HT2:Hid ((l.set i s).take (i+1)=R.take (i+1)):=zA (by
     rw[zT,List.getElem?_set_self (by rw[HLL.out];exact hlt),List.take_set_of_le (zD _),HTK.out,zT];have hRi:R[i]?=some s:=by
      rw[HRR.out,zI,hx];simp[List.getD,hs]
     rw[hRi])
    have HL2:Hid ((l.set i s).length=n):=zA (by rw[List.length_set];exact HLL.out);clear hx hs hy hcell hcelln;go_wp2;go_roundw
    case rel=>exact⟨i+1,l.set i s,by omega,by go_num,HL2,HT2,HR2,HB2⟩
    case measure=>simp[intOf];omega
  . have hltI:¬(i:Int)<(n:Int):=by omega
    have HE:Hid (l=R):=zA (by
     have h1:=HTK.out;rw[zK (by rw[HLL.out];omega),zK (by rw[HRL.out];omega)]at h1;exact h1)
    have HFIN:Hid (WrdE w R (.returned (.slice (some ⟨w.heap.size,0,none⟩) n n)) wx):=zA ⟨_,by rw[HRL.out],rfl,by rw[<- HE.out];exact HROW.out,HBW.out⟩;go_wp2;all_goals (first|(go_ret;exact HFIN.out)|exact HFIN.out)
theorem NewE.mono{w w2:World}{n:Nat}{E:List Eg}{a:Au}{e:Ending}{w':World}(h:NewE w2 n E a e w')(hb:Below w.heap.size w w2):NewE w n E a e w':=by
 obtain⟨sb,m,kp,h1,h2,h3,h4,h5⟩:=h;have hz:=hb.size;exact⟨sb,m,kp,h1,h2,fun k hk=>zQ hz (h3 k hk),fun k hk=>⟨zQ hz (h4 k hk).1,(h4 k hk).2⟩,hb.trans (h5.mono hz)⟩
set_option maxHeartbeats 8000000 in
theorem along_any{S U:Nat->Prop}{w:World}{gb:Nat}{N:List Wd}{E:List Eg}{mb:Nat}{nv ev:Value}{D:DataW Unit}{c:Nat}{t:Vt}(hg:GrS S w gb N E mb nv ev D c)(hv:VOk U w t)(hp:mayP t.pt=true)(hn:N.length<=10000)(hEl:E.length<=10000)(hE:∀e∈E,e.1<N.length/\e.2.2<N.length/\e.2.1.length<=140737488351232):
 Calls Tryz.prog 49 #[.pointer (some ⟨gb,0,none⟩),encN t] w (NewE w N.length E (autoOf t.pt)):=by
 obtain⟨P,hP⟩:∃P,P=t.pt:=⟨_,rfl⟩
 rw[<- hP]at hp ⊢;have CO:Hid (∀u,Below w.heap.size w u->Calls Tryz.prog 18 #[encN t] u fun e w'=>∃m:Mu,e=.returned (.tuple #[encU m,.int .i64 0])/\UOk (fun g=>u.heap.size<=g) w' m/\m.au=autoOf P/\Below u.heap.size u w'):=zA (fun u hu=>by
  have h1:=of_any (hv.below hu);rw[<- hP,hp,if_pos rfl]at h1;have h2:ofA P=autoOf P:=by rw[ofA,hp,if_pos rfl]
  rw[h2]at h1;exact h1)
 obtain⟨hmay,_⟩:=auto_will hp;have HG:=zA hg;have HMAY:=zA hmay;have HE:=zA hE;obtain⟨ka,kc,hkv⟩:=hv.parts.1.slice;obtain⟨k,wd,v,l⟩:=t;dsimp only at hkv;subst hkv;obtain⟨kn,hkn⟩:∃n,n=l.length:=⟨_,rfl⟩
 rw[<- hkn]at CO ⊢;clear hg hv hp hP hkn hmay hE;show Calls Tryz.prog _ #[_,.agg #[.int .i64 k,.string ⟨wd.toArray⟩,.slice ka kn kc]] w _;obtain⟨o,ho⟩:∃o,o=Obj.cells #[.int .i64 k,.string ⟨wd.toArray⟩,.slice ka kn kc] 25 (0,0):=⟨_,rfl⟩
 have HBA:Hid (Below w.heap.size w (w.alloc o)):=zA ((zF _ _).alloc (zD _) _);have C1:=zA (CO.out (w.alloc o) HBA.out);subst ho;have C1b:Hid (Calls Tryz.prog 18 #[.agg #[.int .i64 k,.string ⟨wd.toArray⟩,.slice ka kn kc]] (w.alloc (Obj.cells #[.int .i64 k,.string ⟨wd.toArray⟩,.slice ka kn kc] 25 (0,0))) fun e w'=>∃m:Mu,e=.returned (.tuple #[encU m,.int .i64 0])/\UOk (fun g=>(w.alloc (Obj.cells #[.int .i64 k,.string ⟨wd.toArray⟩,.slice ka kn kc] 25 (0,0))).heap.size<=g) w' m/\m.au=autoOf P/\Below (w.alloc (Obj.cells #[.int .i64 k,.string ⟨wd.toArray⟩,.slice ka kn kc] 25 (0,0))).heap.size (w.alloc (Obj.cells #[.int .i64 k,.string ⟨wd.toArray⟩,.slice ka kn kc] 25 (0,0))) w'):=C1;clear C1 CO;go_enter Tryz.func49,Tryz.ntmps49;go_wp2_with fail;refine C1b.out.mono ?_;rintro e w1 ⟨m,rfl,hu,hau,hb1⟩;have HU:=zA hu;have HAU:=zA hau;have HB1:=zA (HBA.out.trans (hb1.mono HBA.out.size));obtain⟨wa,wcc,fa2,fc2,la,lc,oa,oc,e1,e2,e3,e4⟩:=hu.slices;obtain⟨wv,ws,fv,fs2,lv,ls,ov,os,em⟩:=m;dsimp only at e1 e2 e3 e4;subst e1 e2 e3 e4;clear hu hau hb1 C1b;obtain⟨nw,hnw⟩:∃n,n=ws.length:=⟨_,rfl⟩
 obtain⟨no,hno⟩:∃n,n=os.length:=⟨_,rfl⟩
 obtain⟨nf2,hnf2⟩:∃n,n=fs2.length:=⟨_,rfl⟩
 obtain⟨nl,hnl⟩:∃n,n=ls.length:=⟨_,rfl⟩
 obtain⟨mu0,hmu⟩:∃m:Mu,m=⟨.slice wa ws.length wcc,ws,.slice fa2 fs2.length fc2,fs2,.slice la ls.length lc,ls,.slice oa os.length oc,os,em⟩:=⟨_,rfl⟩
 rw[<- hmu]at HU HAU;have HEN:Hid (encU mu0=.agg #[.slice wa nw wcc,.slice fa2 nf2 fc2,.slice la nl lc,.slice oa no oc,.bool em]):=zA (by rw[hmu,hnw,hno,hnf2,hnl]);rw[<- hmu,HEN.out];clear hmu hnw hno hnf2 hnl;obtain⟨o2,ho2⟩:∃o,o=Obj.cells #[.slice wa nw wcc,.slice fa2 nf2 fc2,.slice la nl lc,.slice oa no oc,.bool em] 59 (0,0):=⟨_,rfl⟩
 obtain⟨w2,hw2⟩:∃W,W=w1.alloc o2:=⟨_,rfl⟩
 have hb12:Below w1.heap.size w1 w2:=by rw[hw2];exact(zF _ _).alloc (zD _) _
 have HB2:=zA (HB1.out.trans (hb12.mono HB1.out.size));have hbx:w2.heap[w1.heap.size]?=some o2:=by rw[hw2];exact heap_alloc_new _ _
 rw[ho2]at hbx;obtain⟨⟨r0,r1,r2,r3,r4⟩,_⟩:=five_cells hbx;have CN:=zA (newSearch_any (HG.out.keep HB2.out.size (fun b hs hl=>⟨hs,HB2.out.block b hl⟩)) (HU.out.below hb12) (by rw[HAU.out];exact HMAY.out) hn hEl HE.out);rw[HAU.out,HEN.out]at CN;have HW2:Hid (w1.alloc (.cells #[.slice wa nw wcc,.slice fa2 nf2 fc2,.slice la nl lc,.slice oa no oc,.bool em] 59)=w2):=zA (by rw[hw2,ho2]);rw[hw2,ho2]at r0 r1 r2 r3 r4;clear hb12 hbx hw2 ho2;go_wp2_with fail;rw[HW2.out];refine CN.out.mono ?_;intro e w3 hnew;have HNEW:=zA (hnew.mono HB2.out);obtain⟨sb,m3,kp,rfl,_⟩:=hnew;go_wp2;all_goals (first|(go_ret;exact HNEW.out)|exact HNEW.out)
theorem infoRG:(Tryz.prog.info? 56).map (fun i=>(i.zero,i.size,i.bytes))=some (some (.slice none 0 0),1,24):=by kernel_rfl
theorem cloneC_any{S:Nat->Prop}{w:World}{v:Value}{L:List (Value×List Nat)}(h:SlS csRow 1 S w v L)(hat:∀r∈L,NatC S w r.1 r.2)(hne:L≠[])(hL:L.length<=1000000000):
 Calls Tryz.prog 51 #[v] w fun e w'=>∃g cap,e=.returned (.slice (some ⟨g,0,none⟩) L.length cap)/\w'.ownsRow w.heap.size 56 1 (.slice (some ⟨g,0,none⟩) L.length cap) L.length (L.flatMap csRow)/\Below w.heap.size w w':=by
 obtain⟨i0,hi0,hz0,hz1,hz2⟩:=info_partsG infoRG;obtain⟨ao,cap,e,h⟩:=h;subst e;have hsz:∀w,(Go.sizeOf 56).run Tryz.prog w=.ok 1 w:=fun w=>by kernel_rfl
 rcases h with h|⟨g,off,rfl,_,_,hc⟩
 . exact absurd h hne
 refine(Tryz.slices_Clone_f51 i0 _ 1 24 hi0 hz0 hz1 hz2 rfl (by decide) hsz g off L.length cap (L.flatMap csRow) w (by rw[flat_len csRow_len]) (by unfold maxLen;omega) (by omega) (fun j u hj=>?_) (fun u hu=>?_)).mono ?_
 . rw[flat_row,zI]at hj;cases hLj:L[j]? with
   |none=>rw[hLj]at hj;simp at hj
   |some z=>
    rw[hLj]at hj;simp at hj;subst hj;have:=hc j z hLj 0 _ rfl;rw[yK,yF]at this;exact this
 . rw[flat_row]at hu;obtain⟨z,hz,rfl⟩:=zR.1 hu;obtain⟨_,ao,cp,e,_⟩:=hat z hz;rw[e];rfl
 . rintro e w' ⟨v',rfl,h1,h3,h2⟩;rcases h1.2 with⟨e,_⟩|⟨g,cap,cur,e,_⟩
   . exact absurd e h3
   . subst e;exact⟨g,cap,rfl,h1,h2⟩
theorem ChoC.old{w:World}{F:Nat->Prop}{jb:Nat}{ds:List Sy}{n m:Nat}{lks:List Lm}{ls:List Lk}{v:Value}{c:Ch}{w':World}{C:Nat->Prop}(h:ChoC w C F jb ds n m lks ls v c w'):ChoE w F jb ds n m lks ls v c w':=by
 obtain⟨F',C',l',h1,h2,h3,h4,h5,_⟩:=h;exact⟨F',l',h1,h2,h3,h4.keep (zD _) (fun b hb _=>⟨h5 b hb,rfl⟩)⟩
def ChoZ(w:World)(C F:Nat->Prop)(jb:Nat)(ds:List Sy)(n m:Nat)(lks:List Lm)(ls:List Lk)(c:Ch)(e:Ending)(w':World):Prop:=
 ∃v,e=.returned v/\ChoC w C F jb ds n m lks ls v c w'
def ChoR(w:World)(F:Nat->Prop)(jb:Nat)(ds:List Sy)(n m:Nat)(lks:List Lm)(ls:List Lk)(c:Ch)(e:Ending)(w':World):Prop:=
 ∃v,e=.returned v/\ChoE w F jb ds n m lks ls v c w'
set_option maxHeartbeats 4000000 in
theorem chooseZ_any{w:World}{C F:Nat->Prop}{jb:Nat}{ds:List Sy}{n:Nat}{c:Ch}{lks:List Lm}{ls:List Lk}{l:List Sx}{v:Value}{slot vx:Nat}
 (h:JS w F jb ds n c.length lks ls l) (hc:ChR C w v n c) (hCF:∀k,C k->F k) (hs:slot<c.length) (hv:vx∈atC c slot) (hac:AC ls c):
 Calls Tryz.prog 76 #[.pointer (some ⟨jb,0,none⟩),v,.int .i64 (slot:Int),.int .i64 (vx:Int)] w (ChoZ w C F jb ds n c.length lks ls (chooseC ls c slot vx)):=by
 obtain⟨rows,hrc,hsl,hat,hbd⟩:=hc.ex;have hrl:rows.length=c.length:=by rw[<- hrc,zH]
 have hmm:=h.mm;obtain⟨nr,hnr⟩:∃k,k=rows.length:=⟨_,rfl⟩
 have C0:=cloneC_any hsl hat (fun e=>by rw[e]at hrl;simp at hrl;omega) (by omega);rw[<- hnr]at C0;have hsr:slot<nr:=by omega
 have hsI:(slot:Int)<(nr:Int):=by omega
 have C1:Hid (∀w1 g1 cap,w1.ownsRow w.heap.size 56 1 (.slice (some ⟨g1,0,none⟩) nr cap) nr (rows.flatMap csRow)->Below w.heap.size w w1->∀W4,W4=((w1.setCell ⟨g1,slot,none⟩ (.slice (some ⟨w1.heap.size,0,none⟩) 1 1)).alloc (.cells #[.int .i64 (vx:Int)] 3)).alloc (.cells #[.int .i64 (slot:Int)] 3)->
  Calls Tryz.prog 52 #[.pointer (some ⟨jb,0,none⟩),.slice (some ⟨g1,0,none⟩) nr cap,.slice (some ⟨w1.heap.size+1,0,none⟩) 1 1] W4 fun e w'=>e=.returned (.tuple #[])/\ChoC w C F jb ds n c.length lks ls (.slice (some ⟨g1,0,none⟩) nr cap) (chooseC ls c slot vx) w'):=zA (fun w1 g1 cap hown hb1 W4 hW=>by
  obtain⟨hg1,hg1l⟩:=hown.lt g1 rfl;have hst:=(hown.stored slot (.slice (some ⟨w1.heap.size,0,none⟩) 1 1)).1;obtain⟨wa,hwa⟩:∃x,x=w1.setCell ⟨g1,slot,none⟩ (.slice (some ⟨w1.heap.size,0,none⟩) 1 1):=⟨_,rfl⟩
  have hza:wa.heap.size=w1.heap.size:=by rw[hwa];simp
  have hka:∀k,k≠g1->wa.heap[k]?=w1.heap[k]?:=fun k hk=>by rw[hwa];exact zM w1 ⟨g1,slot,none⟩ _ k hk
  have hoa:wa.os=w1.os/\wa.tape=w1.tape/\wa.output=w1.output:=by rw[hwa];exact⟨rfl,rfl,rfl⟩
  rw[<- hwa]at hW hst;obtain⟨wb,hwb⟩:∃x,x=wa.alloc (.cells #[.int .i64 (vx:Int)] 3):=⟨_,rfl⟩
  rw[<- hwb]at hW;have hbb:Below wa.heap.size wa wb:=by rw[hwb];exact(zF _ _).alloc (zD _) _
  have hzb:wb.heap.size=wa.heap.size+1:=by rw[hwb];simp
  have hAb:wb.heap[wa.heap.size]?=some (.cells #[.int .i64 (vx:Int)] 3 (0,0)):=by rw[hwb];exact heap_alloc_new _ _
  have hb4:Below wb.heap.size wb W4:=by rw[hW];exact(zF _ _).alloc (zD _) _
  have hz4:W4.heap.size=wb.heap.size+1:=by rw[hW];simp
  have hB4:W4.heap[wb.heap.size]?=some (.cells #[.int .i64 (slot:Int)] 3 (0,0)):=by rw[hW];exact heap_alloc_new _ _
  refine h.choose hrc hCF hat hbd hnr hs hv hac hb1 hg1 hg1l (by omega) (hb4.os.trans (hbb.os.trans hoa.1)) (hb4.tape.trans (hbb.tape.trans hoa.2.1)) (hb4.output.trans (hbb.output.trans hoa.2.2)) (fun k hk hne=>?_) ?_ ?_ ?_
  . exact(hb4.block k (by omega)).trans ((hbb.block k (by omega)).trans (hka k hne))
  . rw[<- hza];exact(hb4.block _ (by omega)).trans hAb
  . rw[show w1.heap.size+1=wb.heap.size by omega];exact hB4
  . rw[flat_set];have h1:W4.ownsRow w.heap.size 56 1 (.slice (some ⟨g1,0,none⟩) nr cap) nr ((rows.flatMap csRow).set slot (.slice (some ⟨w1.heap.size,0,none⟩) 1 1)):=owns_key hst (fun g o hg ho=>by
     have hgl:=lt_of_block ho;exact(hb4.block g (by omega)).trans ((hbb.block g hgl).trans ho))
    refine⟨h1.1,h1.2.imp id ?_⟩;rintro⟨g,cp,cur,e1,_,e3⟩;exact⟨g,cp,cur,e1,zS _,e3⟩)
 have C0H:=zA C0;obtain⟨Q,hQ⟩:∃Q,Q=ChoZ w C F jb ds n c.length lks ls (chooseC ls c slot vx):=⟨_,rfl⟩
 obtain⟨P,hP⟩:∃P,P=fun v=>ChoC w C F jb ds n c.length lks ls v (chooseC ls c slot vx):=⟨_,rfl⟩
 have HQ:Hid (∀v w',P v w'->Q (.returned v) w'):=zA (fun v w' hp=>by rw[hQ];rw[hP]at hp;exact⟨v,rfl,hp⟩);have C2:Hid (∀w1 g1 cap,w1.ownsRow w.heap.size 56 1 (.slice (some ⟨g1,0,none⟩) nr cap) nr (rows.flatMap csRow)->Below w.heap.size w w1->∀W4,W4=((w1.setCell ⟨g1,slot,none⟩ (.slice (some ⟨w1.heap.size,0,none⟩) 1 1)).alloc (.cells #[.int .i64 (vx:Int)] 3)).alloc (.cells #[.int .i64 (slot:Int)] 3)->
  Calls Tryz.prog 52 #[.pointer (some ⟨jb,0,none⟩),.slice (some ⟨g1,0,none⟩) nr cap,.slice (some ⟨w1.heap.size+1,0,none⟩) 1 1] W4 fun e w'=>e=.returned (.tuple #[])/\P (.slice (some ⟨g1,0,none⟩) nr cap) w'):=zA (by rw[hP];exact C1.out)
 rw[<- hQ];clear C0 C1 h hc hCF hs hv hac hrc hsl hat hbd hrl hmm hnr hQ hP;go_enter Tryz.func76,Tryz.ntmps76;go_wp2_with fail;refine C0H.out.mono ?_;rintro e w1 ⟨g1,cap,rfl,hown,hb⟩;obtain⟨hg1,hg1l⟩:=hown.lt g1 rfl;have hcl:∃u,w1.cell? ⟨g1,slot,none⟩=some u:=⟨_,(hown.cellAt slot (by omega)).trans (zB (by rw[hown.1];omega))⟩
 obtain⟨u0,hu0⟩:=hcl;have hfz:=hown.frozenAt slot;have C3:=zA (C2.out w1 g1 cap hown hb);clear hown hb C2 C0H;go_wp2_with fail;refine(C3.out _ rfl).mono ?_;rintro e w' ⟨rfl,hp⟩;have HP:=zA (HQ.out _ _ hp);clear hp C3 HQ;go_wp2;all_goals (first|(go_ret;exact HP.out)|exact HP.out)
theorem choose_any{w:World}{F:Nat->Prop}{jb:Nat}{ds:List Sy}{n:Nat}{c:Ch}{lks:List Lm}{ls:List Lk}{l:List Sx}{v:Value}{slot vx:Nat}
 (h:JS w F jb ds n c.length lks ls l) (hc:ChR F w v n c) (hs:slot<c.length) (hv:vx∈atC c slot) (hac:AC ls c):
 Calls Tryz.prog 76 #[.pointer (some ⟨jb,0,none⟩),v,.int .i64 (slot:Int),.int .i64 (vx:Int)] w (ChoR w F jb ds n c.length lks ls (chooseC ls c slot vx)):=by
 refine(chooseZ_any h hc (fun _ hk=>hk) hs hv hac).mono ?_;rintro e w' ⟨v,rfl,hp⟩;exact⟨v,rfl,hp.old⟩
def lnkB(a b:Nat)(L:Lm):Bool:=(L.1==a&&L.2.1==b)||(L.1==b&&L.2.1==a)
theorem nz_int{p q:Nat}(h:p≠q):¬(p:Int)=(q:Int)/\((p:Int)==(q:Int))=false:=⟨by omega,by simp;omega⟩
set_option maxHeartbeats 4000000 in
theorem linked1_any{w:World}{pa pb a b:Nat}(ha:w.cell? ⟨pa,0,none⟩=some (.int .i64 (a:Int)))(hb:w.cell? ⟨pb,0,none⟩=some (.int .i64 (b:Int)))(L:Lm):
 Calls Tryz.prog 130 #[.agg (csL L).toArray,.pointer (some ⟨pa,0,none⟩),.pointer (some ⟨pb,0,none⟩)] w fun e w'=>e=.returned (.bool (lnkB a b L))/\Below w.heap.size w w':=by
 obtain⟨x,y,s,t⟩:=L;have hal:=World.block_lt_of_cell? _ _ ha;have hbl:=World.block_lt_of_cell? _ _ hb;have hal:pa<w.heap.size:=hal;have hbl:pb<w.heap.size:=hbl;have hc:∀(i:Nat) v,(csL (x,y,s,t))[i]?=some v->(w.alloc (.cells #[.int .i64 (x:Int),.int .i64 (y:Int),.pointer (some ⟨s,0,none⟩),.pointer (some ⟨t,0,none⟩)] 120)).cell? ⟨w.heap.size,i,none⟩=some v:=fun i v hv=>by
  obtain⟨W,hW⟩:∃W,W=w.alloc (.cells #[.int .i64 (x:Int),.int .i64 (y:Int),.pointer (some ⟨s,0,none⟩),.pointer (some ⟨t,0,none⟩)] 120):=⟨_,rfl⟩
  have h1:W.heap[w.heap.size]?=some (.cells #[.int .i64 (x:Int),.int .i64 (y:Int),.pointer (some ⟨s,0,none⟩),.pointer (some ⟨t,0,none⟩)] 120 (0,0)):=by rw[hW];exact heap_alloc_new _ _
  rw[<- hW];simpa[World.cell?,h1]using hv
 have c0:=hc 0 _ rfl;have c1:=hc 1 _ rfl;have c2:=hc 2 _ rfl;have c3:=hc 3 _ rfl;dsimp only at c0 c1 c2 c3;obtain⟨r,hr⟩:∃r,r=lnkB a b (x,y,s,t):=⟨_,rfl⟩
 rw[<- hr];show Calls Tryz.prog 130 #[.agg #[.int .i64 (x:Int),.int .i64 (y:Int),.pointer (some ⟨s,0,none⟩),.pointer (some ⟨t,0,none⟩)],.pointer (some ⟨pa,0,none⟩),.pointer (some ⟨pb,0,none⟩)] w _;have hcase:(x=a/\y=b/\r=true)\/(x=a/\a=b/\y≠b/\r=false)\/(x=a/\y≠b/\a≠b/\r=false)\/(x=b/\y=a/\x≠a/\r=true)\/(x=b/\x≠a/\y≠a/\r=false)\/(x≠a/\x≠b/\r=false):=by
  unfold lnkB at hr;dsimp only at hr;cases h1:(x==a)<;>cases h2:(y==b)<;>cases h3:(x==b)<;>cases h4:(y==a)<;>rw[h1,h2,h3,h4]at hr<;>simp only[beq_iff_eq,beq_eq_false_iff_ne]at h1 h2 h3 h4<;>(subst hr;simp only[Bool.and_true,Bool.and_false,Bool.or_true,Bool.or_false,reduceCtorEq,and_false,and_true,or_false,false_or];omega)
 clear hc hr;rcases hcase with⟨rfl,rfl,hr⟩|⟨rfl,rfl,h1,hr⟩|⟨rfl,h1,h2,hr⟩|⟨rfl,rfl,h1,hr⟩|⟨rfl,h1,h2,hr⟩|⟨h1,h2,hr⟩
 . subst hr;go_enter Tryz.func130,Tryz.ntmps130;go_wp2;all_goals (first|(go_ret;exact⟨rfl,(zF _ _).alloc (zD _) _⟩)|exact⟨rfl,(zF _ _).alloc (zD _) _⟩)
 . subst hr;obtain⟨f1,g1⟩:=nz_int h1;go_enter Tryz.func130,Tryz.ntmps130;go_wp2;all_goals (first|(go_ret;exact⟨rfl,(zF _ _).alloc (zD _) _⟩)|exact⟨rfl,(zF _ _).alloc (zD _) _⟩)
 . subst hr;obtain⟨f1,g1⟩:=nz_int h1;obtain⟨f2,g2⟩:=nz_int h2;go_enter Tryz.func130,Tryz.ntmps130;go_wp2;all_goals (first|(go_ret;exact⟨rfl,(zF _ _).alloc (zD _) _⟩)|exact⟨rfl,(zF _ _).alloc (zD _) _⟩)
 . subst hr;obtain⟨f1,g1⟩:=nz_int h1;go_enter Tryz.func130,Tryz.ntmps130;go_wp2;all_goals (first|(go_ret;exact⟨rfl,(zF _ _).alloc (zD _) _⟩)|exact⟨rfl,(zF _ _).alloc (zD _) _⟩)
 . subst hr;obtain⟨f1,g1⟩:=nz_int h1;obtain⟨f2,g2⟩:=nz_int h2;go_enter Tryz.func130,Tryz.ntmps130;go_wp2;all_goals (first|(go_ret;exact⟨rfl,(zF _ _).alloc (zD _) _⟩)|exact⟨rfl,(zF _ _).alloc (zD _) _⟩)
 . subst hr;obtain⟨f1,g1⟩:=nz_int h1;obtain⟨f2,g2⟩:=nz_int h2;go_enter Tryz.func130,Tryz.ntmps130;go_wp2;all_goals (first|(go_ret;exact⟨rfl,(zF _ _).alloc (zD _) _⟩)|exact⟨rfl,(zF _ _).alloc (zD _) _⟩)
theorem idxL_none(ao:Option Addr)(cap:Nat)(fv:Value)(w:World):
 Calls Tryz.prog 132 #[.slice ao 0 cap,fv] w fun e w'=>e=.returned (.int .i64 (-1))/\w'=w:=by
 go_enter Tryz.func132,Tryz.ntmps132;go_wp2_with fail;go_loopw [8] (fun c wr=>c=.int .i64 0/\wr=w) (fun _ _=>0)
 case atStart=>exact⟨rfl,rfl⟩
 case round=>
  obtain⟨rfl,rfl⟩:=hrel;go_wp2;all_goals (first|(go_ret;exact⟨rfl,rfl⟩)|exact⟨rfl,rfl⟩)
theorem conL_none(ao:Option Addr)(cap:Nat)(fv:Value)(w:World):
 Calls Tryz.prog 129 #[.slice ao 0 cap,fv] w fun e w'=>e=.returned (.bool false)/\w'=w:=by
 have C:=zA (idxL_none ao cap fv w);go_enter Tryz.func129,Tryz.ntmps129;go_wp2_with fail;refine C.out.mono ?_;rintro e w5 ⟨rfl,h⟩;rw[h];clear h;go_wp2;all_goals (first|(go_ret;exact⟨rfl,rfl⟩)|exact⟨rfl,rfl⟩)
set_option maxHeartbeats 4000000 in
theorem linked_any{w:World}{F:Nat->Prop}{jb:Nat}{lv:Value}{lks:List Lm}{a b:Nat}(hj:w.cell? ⟨jb,3,none⟩=some lv)(hlk:SlS csL 4 F w lv lks)(hll:lks.length<=1000):
 Calls Tryz.prog 123 #[.pointer (some ⟨jb,0,none⟩),.int .i64 (a:Int),.int .i64 (b:Int)] w fun e w'=>e=.returned (.bool (lks.any (lnkB a b)))/\Below w.heap.size w w':=by
 obtain⟨ka,kc,hlv⟩:=hlk.slice;obtain⟨nk,hnk⟩:∃k,k=lks.length:=⟨_,rfl⟩
 obtain⟨w2,hw2⟩:∃W,W=(w.alloc (.cells #[.int .i64 (a:Int)] 3)).alloc (.cells #[.int .i64 (b:Int)] 3):=⟨_,rfl⟩
 have hb2:Below w.heap.size w w2:=by rw[hw2];exact((zF _ _).alloc (zD _) _).alloc (by simp) _
 have ha2:w2.heap[w.heap.size]?=some (.cells #[.int .i64 (a:Int)] 3 (0,0)):=by rw[hw2];exact get_atG [_,_] w 0 (by simp)
 have hbb2:w2.heap[w.heap.size+1]?=some (.cells #[.int .i64 (b:Int)] 3 (0,0)):=by rw[hw2];exact get_atG [_,_] w 1 (by simp)
 have hz2:w2.heap.size=w.heap.size+2:=by rw[hw2];simp
 obtain⟨r,hr⟩:∃r,r=lks.any (lnkB a b):=⟨_,rfl⟩
 have hj2:w2.cell? ⟨jb,3,none⟩=some lv:=by
  have hjl:jb<w.heap.size:=World.block_lt_of_cell? _ _ hj;simpa only[World.cell?,hb2.block jb hjl]using hj
 have hlk2:=hlk.below hb2;rw[hlv]at hlk2 hj2;rw[<- hnk]at hj2;have C:Calls Tryz.prog 129 #[.slice ka nk kc,.func (.func 130) #[] #[.pointer (some ⟨w.heap.size,0,none⟩),.pointer (some ⟨w.heap.size+1,0,none⟩)]] w2 fun e w'=>e=.returned (.bool r)/\Below w2.heap.size w2 w':=by
  by_cases h0:lks=[]
  . have h1:nk=0:=by rw[hnk,h0];rfl
    rw[h1,hr,h0];refine(conL_none ka kc _ w2).mono ?_;rintro e w' ⟨he,hw⟩;exact⟨he,by rw[hw];exact zF _ _⟩
  . obtain⟨ao,cap,e,h5⟩:=hlk2;injection e with e1 e2 e3;rcases h5 with h5|⟨g,off,e5,_,hgl,hc⟩
    . exact absurd h5 h0
    . rw[e1,e5,hr];have C1:=Tryz.slices_ContainsFunc 4 (fun w=>by kernel_rfl) (fun w=>by kernel_rfl) csL csL_len (lnkB a b) 130 #[.pointer (some ⟨w.heap.size,0,none⟩),.pointer (some ⟨w.heap.size+1,0,none⟩)] (fun args w=>by kernel_rfl) g off nk kc lks w2 (fun W x hW=>by
       have k1:W.cell? ⟨w.heap.size,0,none⟩=some (.int .i64 (a:Int)):=by
        have h1:=(hW.block w.heap.size (by omega)).trans ha2;simp[World.cell?,h1]
       have k2:W.cell? ⟨w.heap.size+1,0,none⟩=some (.int .i64 (b:Int)):=by
        have h1:=(hW.block (w.heap.size+1) (by omega)).trans hbb2;simp[World.cell?,h1]
       refine(linked1_any k1 k2 x).mono ?_;rintro e w' ⟨he,hb⟩;exact⟨he,hW.trans (hb.mono (by have:=hW.size;omega))⟩) (by omega) (by omega) hgl (fun j hjl i v hv=>hc j _ (by rw[List.getElem!_eq_getElem?_getD,zB hjl];rfl) i v hv)
      refine C1.mono ?_;rintro e w' ⟨he,hb⟩;rw[hnk,List.take_length]at he;exact⟨he,hb⟩
 have CH:=zA C;have HB2:=zA hb2;have hjl:jb<w.heap.size:=World.block_lt_of_cell? _ _ hj;rw[hlv,<- hnk]at hj;rw[<- hr];clear hlk hll ha2 hbb2 hlk2 C hb2 hr hnk hlv hj2;have HZ2:=zA hz2;have HW2:=zA hw2;clear hz2 hw2;go_enter Tryz.func123,Tryz.ntmps123;go_wp2_with fail;rw[<- HW2.out];refine CH.out.mono ?_;rintro e w5 ⟨rfl,hb⟩;have HB5:=zA (HB2.out.trans (hb.mono (by have:=HZ2.out;omega)));clear hb HZ2 HW2 CH HB2;go_wp2;all_goals (first|(go_ret;exact⟨rfl,HB5.out⟩)|exact⟨rfl,HB5.out⟩)
end Go.Proofs.YtdalcipmpelifaaGreatDoor
