/- XTurnQ, XStrike. -/
import Derived.Test.YtdalcipmpelifaaGreatDoorMG29
import Derived.Test.YtdalcipmpelifaaGreatDoorMG27
set_option maxRecDepth 100000
namespace Go.Proofs.YtdalcipmpelifaaGreatDoor
open Go.RowKit Go.Shelf
def TurnPE(w:World)(t:Vt)(e:Ending)(w':World):Prop:=
 ∃(kb n:Nat) (kids:List Vt),e=.returned (.agg #[.int .i64 t.kind,.string ⟨t.word.toArray⟩,.slice (some ⟨kb,0,none⟩) n n])/\VOk (fun g=>w.heap.size<=g) w' ⟨t.kind,t.word,.slice (some ⟨kb,0,none⟩) n n,kids⟩/\Vt.pt ⟨t.kind,t.word,.slice (some ⟨kb,0,none⟩) n n,kids⟩=turnP t.pt/\Below w.heap.size w w'
theorem range_turn{l:List Vt}{f:Nat->Vt}{n:Nat}(hn:n=l.length)(h:∀p,p<n->∃x,l[p]?=some x/\(f p).pt=turnP x.pt):((List.range n).map f).map Vt.pt=(l.map Vt.pt).map turnP:=by
 apply List.ext_getElem?;intro p;rw[zI,zI,zI,zI];by_cases hp:p<n
 . obtain⟨x,h1,h2⟩:=h p hp;rw[yO hp,h1];simp[h2]
 . rw[yB (by simp;omega),yB (by omega)];rfl
theorem range_back{l:List Vt}{f:Nat->Vt}{n:Nat}(hn:n=l.length)(h:∀p,p<n->∃x,l[p]?=some x/\(f p).pt=turnP x.pt):((List.range n).map fun p=>f (n-1-p)).map Vt.pt=((l.map Vt.pt).map turnP).reverse:=by
 rw[<- range_turn hn h];apply List.ext_getElem?;intro p;by_cases hp:p<n
 . rw[List.getElem?_reverse (by simp;exact hp)];simp only[zH,List.length_range];rw[zI,zI,zI,zI,yO hp,yO (by omega)];rfl
 . rw[yB (by simp;omega),yB (by simp;omega)]
theorem three_cellsT{w:World}{b:Nat}{c0 c1 c2:Value}{t:TypeId}(h:w.heap[b]?=some (.cells #[c0,c1,c2] t (0,0))):(w.cell? ⟨b,0,none⟩=some c0/\w.cell? ⟨b,1,none⟩=some c1/\w.cell? ⟨b,2,none⟩=some c2)/\w.frozen? ⟨b,0,none⟩=false/\w.frozen? ⟨b,1,none⟩=false/\w.frozen? ⟨b,2,none⟩=false:=by
 simp[World.cell?,World.frozen?,h]
structure TkI (l:List Vt) (kb n:Nat) (w3:World) (i:Nat) (f:Nat->Vt) (wr:World):Prop where
 kf:KF wr kb n f
 bel:Below kb w3 wr
 sz:w3.heap.size<=wr.heap.size
 ok:∀p,p<i->∃x,l[p]?=some x/\VOk (fun g=>kb<g) wr (f p)/\(f p).pt=turnP x.pt/\∃a k c,(f p).val=.slice a k c
theorem TkI.step{l:List Vt}{kb n:Nat}{w3:World}{i:Nat}{f:Nat->Vt}{wr wz w5:World}(h:TkI l kb n w3 i f wr)(hi:i<n){x:Vt}(hx:l[i]?=some x)(hbz:Below wr.heap.size wr wz)(hb5:Below wz.heap.size wz w5){kb' n':Nat}{kids:List Vt}(hv:VOk (fun g=>wz.heap.size<=g) w5 ⟨x.kind,x.word,.slice (some ⟨kb',0,none⟩) n' n',kids⟩)(hp:Vt.pt ⟨x.kind,x.word,.slice (some ⟨kb',0,none⟩) n' n',kids⟩=turnP x.pt):
 (KF w5 kb n f)/\TkI l kb n w3 (i+1) (fun p=>if p=i then⟨x.kind,x.word,.slice (some ⟨kb',0,none⟩) n' n',kids⟩else f p) (set3K w5 kb (i*3) (.int .i64 x.kind) (.string ⟨x.word.toArray⟩) (.slice (some ⟨kb',0,none⟩) n' n')):=by
 have hkb:=h.kf.lt;have hz:=hbz.size;have hz5:=hb5.size;have h5:∀k,k<wr.heap.size->w5.heap[k]?=wr.heap[k]?:=fun k hk=>(hb5.block k (by omega)).trans (hbz.block k hk)
 have hk5:KF w5 kb n f:=h.kf.keep (h5 kb hkb);refine⟨hk5,hk5.set i hi ⟨x.kind,x.word,.slice (some ⟨kb',0,none⟩) n' n',kids⟩,below_set3K ⟨(hb5.os.trans hbz.os).trans h.bel.os,(hb5.tape.trans hbz.tape).trans h.bel.tape,(hb5.output.trans hbz.output).trans h.bel.output,by have:=h.sz;omega,fun k hk=>(h5 k (by omega)).trans (h.bel.block k hk)⟩ (zD _) _ _ _ _,by rw[set3K_size];have:=h.sz;omega,fun p hp2=>?_⟩;have hset:∀ {y:Vt} {Y:Nat->Prop},VOk Y w5 y->(∀g,Y g->kb<g)->VOk (fun g=>kb<g) (set3K w5 kb (i*3) (.int .i64 x.kind) (.string ⟨x.word.toArray⟩) (.slice (some ⟨kb',0,none⟩) n' n')) y:=fun {y Y} hy hY=>VOk.keep (by rw[set3K_size];exact zD _) (fun b hb _=>⟨hY b hb,set3K_other _ _ _ _ _ _ (by have:=hY b hb;omega)⟩) y hy
 by_cases e:p=i
 . subst e;rw[if_pos rfl];exact⟨x,hx,hset hv (fun g hg=>by omega),hp,_,_,_,rfl⟩
 . rw[if_neg e];obtain⟨y,h1,h2,h3,h4⟩:=h.ok p (by omega);exact⟨y,h1,hset (VOk.keep (T:=fun g=>kb<g) (by omega) (fun b hb hl=>⟨hb,h5 b hl⟩) _ h2) (fun g hg=>hg),h3,h4⟩
set_option maxHeartbeats 16000000 in
theorem turnedP_any:∀(t:Vt) (d:Nat) (S:Nat->Prop) (w:World),shapedP d t.pt=true->VOk S w t->Calls Tryz.prog 50 #[encN t] w (TurnPE w t):=by
 intro t;induction t using Vt.ind with
 |h k wd v l ih=>
 intro d S w hsh hv;obtain⟨i0,hi0,hz0,hz1,hz2⟩:=info_partsG infoN;obtain⟨d',rfl⟩:∃d',d=d'+1:=by
  cases d with
  |zero=>simp[shapedP]at hsh
  |succ d'=>exact⟨d',rfl⟩
 rw[Vt.pt_mk,shapedP]at hsh;simp only[Bool.and_eq_true,decide_eq_true_eq,yJ,zH]at hsh;obtain⟨⟨_,hl24⟩,hall⟩:=hsh;obtain⟨h1,h2,h3,h4⟩:=vok_mk.1 hv;obtain⟨ka,kc,hke⟩:=h1.slice;obtain⟨n,hn⟩:∃n,n=l.length:=⟨_,rfl⟩
 rw[<- hn]at hke hl24;subst hke;have IH:Hid (∀(x:Vt) (u:World),x∈l->Below w.heap.size w u->Calls Tryz.prog 50 #[encN x] u (TurnPE u x)):=zA (fun x u hx hu=>ih x hx d' S u (hall x.pt (zU hx)) ((h4 x hx).below hu));have HKS:=zA h1;have HVX:=zA (fun x hx=>(h4 x hx).parts.1.slice);have HN:=zA hn;have HWD:=zA h2;obtain⟨kb,hkb⟩:∃b,b=w.heap.size+2:=⟨_,rfl⟩
 obtain⟨o1,ho1⟩:∃o,o=Obj.cells #[.int .i64 k,.string ⟨wd.toArray⟩,.slice ka n kc] 25 (0,0):=⟨_,rfl⟩
 obtain⟨o2,ho2⟩:∃o,o=Obj.cells #[.int .i64 0,.string ⟨#[]⟩,.slice none 0 0] 25 (0,0):=⟨_,rfl⟩
 obtain⟨w2,hw2⟩:∃W,W=(w.alloc o1).alloc o2:=⟨_,rfl⟩
 have hs2:w2.heap.size=w.heap.size+2:=by rw[hw2];simp
 have hb2:Below w.heap.size w w2:=by rw[hw2];exact((zF _ _).alloc (zD _) _).alloc (by simp) _
 have g1:w2.heap[w.heap.size]?=some o1:=by rw[hw2];exact get_atG [o1,o2] w 0 (by simp)
 have g2:w2.heap[w.heap.size+1]?=some o2:=by rw[hw2];exact get_atG [o1,o2] w 1 (by simp)
 obtain⟨w3,hw3⟩:∃W,W=w2.alloc (.cells (madeCells #[.int .i64 0,.string ⟨#[]⟩,.slice none 0 0] (n*3)) 25):=⟨_,rfl⟩
 have hb3:Below w2.heap.size w2 w3:=by rw[hw3];exact(zF _ _).alloc (zD _) _
 have hs3:w3.heap.size=w.heap.size+3:=by rw[hw3];simp;omega
 have hkf:KF w3 kb n (fun _=>vt0):=by rw[hw3,hkb,<- hs2];exact KF.made w2 n
 have HT0:Hid (TkI l kb n w3 0 (fun _=>vt0) w3):=zA ⟨hkf,zF _ _,zD _,fun p hp=>absurd hp (Nat.not_lt_zero _)⟩;have HB3:Hid (Below w.heap.size w w3):=zA (hb2.trans (hb3.mono (by omega)));have HKB:Hid (w.heap.size+2=kb):=zA hkb.symm;have HS3:=zA hs3;have HC:Hid (∀u:World,Below kb w3 u->(u.cell? ⟨w.heap.size,0,none⟩=some (.int .i64 k)/\u.cell? ⟨w.heap.size,1,none⟩=some (.string ⟨wd.toArray⟩)/\u.cell? ⟨w.heap.size,2,none⟩=some (.slice ka n kc))/\u.heap[w.heap.size+1]?=some (.cells #[.int .i64 0,.string ⟨#[]⟩,.slice none 0 0] 25 (0,0))):=zA (fun u hu=>by
  have x1:=(hu.block w.heap.size (by omega)).trans ((hb3.block _ (lt_of_block g1)).trans g1);have x2:=(hu.block (w.heap.size+1) (by omega)).trans ((hb3.block _ (lt_of_block g2)).trans g2);rw[ho1]at x1;rw[ho2]at x2;exact⟨(three_cellsT x1).1,x2⟩)
 have q2:w2.cell? ⟨w.heap.size,2,none⟩=some (.slice ka n kc):=by
  rw[ho1]at g1;exact(three_cellsT g1).1.2.2
 have q3:w3.cell? ⟨w.heap.size,2,none⟩=some (.slice ka n kc):=(HC.out w3 (zF _ _)).1.2.2;have HW2:Hid (((w.alloc (.cells #[.int .i64 k,.string ⟨wd.toArray⟩,.slice ka n kc] 25)).alloc (.cells #[.int .i64 0,.string ⟨#[]⟩,.slice none 0 0] 25))=w2):=zA (by rw[hw2,ho1,ho2]);have HW3:Hid (w2.alloc (.cells (madeCells #[.int .i64 0,.string ⟨#[]⟩,.slice none 0 0] (n*3)) 25)=w3):=zA hw3.symm;have HS2:Hid (w2.heap.size=kb):=zA (by rw[hkb];exact hs2);obtain⟨Q,hQ⟩:∃Q,Q=TurnPE w ⟨k,wd,.slice ka n kc,l⟩:=⟨_,rfl⟩
 rw[<- hQ];have HFIN:Hid (∀(f:Nat->Vt) (u:World),KF u kb n f->Below kb w3 u->w3.heap.size<=u.heap.size->(∀p,p<n->VOk (fun g=>kb<g) u (f p))->((List.range n).map f).map Vt.pt=(if k=2 then ((l.map Vt.pt).map turnP).reverse else (l.map Vt.pt).map turnP)->
  Q (.returned (.agg #[.int .i64 k,.string ⟨wd.toArray⟩,.slice (some ⟨kb,0,none⟩) n n])) (set3K u (w.heap.size+1) 0 (.int .i64 k) (.string ⟨wd.toArray⟩) (.slice (some ⟨kb,0,none⟩) n n))):=zA (fun f u hf hb hs hok hpt=>by
  rw[hQ];have hoth:∀b,b≠w.heap.size+1->(set3K u (w.heap.size+1) 0 (.int .i64 k) (.string ⟨wd.toArray⟩) (.slice (some ⟨kb,0,none⟩) n n)).heap[b]?=u.heap[b]?:=fun b hb2=>set3K_other _ _ _ _ _ _ hb2
  refine⟨kb,n,(List.range n).map f,rfl,vok_mk.2 ⟨?_,h2,by simp;omega,fun x hx=>?_⟩,?_,?_⟩
  . exact hf.sl.keep (by rw[set3K_size];exact zD _) (fun b hb2 _=>⟨by omega,hoth b (by omega)⟩)
  . obtain⟨p,hp,rfl⟩:=zR.1 hx;exact VOk.keep (by rw[set3K_size];exact zD _) (fun b hb2 _=>⟨by omega,hoth b (by omega)⟩) _ (hok p (yA.1 hp))
  . rw[Vt.pt_mk,Vt.pt_mk,turnP_mk,hpt]
  . refine below_set3K ?_ (by omega) _ _ _ _;exact HB3.out.trans (hb.mono (by omega)))
 clear ih hv hall h1 h2 h3 h4 hn hQ hb2 hb3 hkf hs2 hs3 hw2 hw3 g1 g2 ho1 ho2 hkb;show Calls Tryz.prog _ #[.agg #[.int .i64 k,.string ⟨wd.toArray⟩,.slice ka n kc]] w _;go_enter Tryz.func50,Tryz.ntmps50;go_wp2_with (at_make;rw[HW2.out];refine wpList_make_many _ rfl _ _ 23 rfl 25 i0 _ Tryz.underlying23 hi0 hz0 3 hz1 #[.int .i64 0,.string ⟨#[]⟩,.slice none 0 0] rfl _ _ n rfl rfl (by rw[hz2];omega) (by omega) ?_;rw[HW3.out,HS2.out]);go_loopw [13] (fun c wr=>∃(i:Nat) (f:Nat->Vt),i<=n/\c=.int .i64 i/\Hid (TkI l kb n w3 i f wr)) (fun c _=>n-(intOf c).toNat)
 case atStart=>exact⟨0,_,zS _,rfl,HT0⟩
 case round=>
  obtain⟨i,f,hi,rfl,HT⟩:=hrel;obtain⟨wx,hwx⟩:∃wx,wx=wr:=⟨_,rfl⟩
  subst hwx;clear q2 q3;by_cases hlt:i<n
  . have hltI:(i:Int)<(n:Int):=by omega
    obtain⟨x,hx⟩:∃x,l[i]?=some x:=⟨_,zB (by rw[<- HN.out];exact hlt)⟩
    have hbw:Below w.heap.size w wx:=HB3.out.trans (HT.out.bel.mono (by have:=HKB.out;omega));obtain⟨ga,goff,hka,_,hgl,hcell⟩:=HKS.out.get hx;subst hka;obtain⟨c0,c1,c2⟩:=getN hcell;have c0:=(hbw.cell (p:=⟨ga,goff+i*3,none⟩) hgl).trans c0;have c1:=(hbw.cell (p:=⟨ga,goff+i*3+1,none⟩) hgl).trans c1;have c2:=(hbw.cell (p:=⟨ga,goff+i*3+2,none⟩) hgl).trans c2;obtain⟨xa,xc,hxv⟩:=HVX.out x (zC hx);have HX:Hid (l[i]?=some x):=zA hx;have CX:=IH.out x;have hxm:=zC hx;obtain⟨xk,xw,xv,xl⟩:=x;dsimp only at hxv c0 c1 c2;obtain⟨xn,hxn⟩:∃q,q=xl.length:=⟨_,rfl⟩
    rw[<- hxn]at hxv;subst hxv;obtain⟨wz,hwz⟩:∃W,W=wx.alloc (.cells #[.int .i64 xk,.string ⟨xw.toArray⟩,.slice xa xn xc] 25):=⟨_,rfl⟩
    have hbz:Below wx.heap.size wx wz:=by rw[hwz];exact(zF _ _).alloc (zD _) _
    have hbox:wz.heap[wx.heap.size]?=some (.cells #[.int .i64 xk,.string ⟨xw.toArray⟩,.slice xa xn xc] 25 (0,0)):=by rw[hwz];exact heap_alloc_new _ _
    obtain⟨⟨b0,b1,b2⟩,_⟩:=three_cellsT hbox;have CT:=zA (CX wz hxm (hbw.trans (hbz.mono hbw.size)));have HBZ:=zA hbz;have HWZ:=zA hwz;rw[hwz]at b0 b1 b2;clear hx hcell hbw hxn CX hxm hbox hbz hwz;go_wp2_with fail;rw[<- HWZ.out];clear b0 b1 b2 c0 c1 c2;refine CT.out.mono ?_;rintro e w5 ⟨kb',n',kids',rfl,hv5,hp5,hb5⟩;obtain⟨hk5,ht5⟩:=HT.out.step hlt HX.out HBZ.out hb5 hv5 hp5;obtain⟨⟨a0,a1,a2⟩,z0,z1,z2⟩:=hk5.get hlt;obtain⟨m0,hm0⟩:∃q,q=(f i).kind:=⟨_,rfl⟩
    obtain⟨m1,hm1⟩:∃q,q=(f i).word.toArray:=⟨_,rfl⟩
    obtain⟨m2,hm2⟩:∃q,q=(f i).val:=⟨_,rfl⟩
    rw[<- hm0]at a0;rw[<- hm1]at a1;rw[<- hm2]at a2;have HT5:=zA ht5;unfold set3K at HT5;dsimp only at HT5;clear hk5 ht5 hv5 hp5 hb5 hm0 hm1 hm2 CT;go_wp2;go_roundw
    case rel=>exact⟨i+1,_,by omega,by go_num,HT5⟩
    case measure=>simp[intOf];omega
  . have hltI:¬(i:Int)<(n:Int):=by omega
    have hin:i=n:=by omega
    rw[hin]at HT;clear hin;obtain⟨⟨p0,p1,p2⟩,hrb⟩:=HC.out wx HT.out.bel;have hok:∀p,p<n->∃x,l[p]?=some x/\(f p).pt=turnP x.pt:=fun p hp=>by
     obtain⟨x,h1,_,h3,_⟩:=HT.out.ok p hp;exact⟨x,h1,h3⟩
    by_cases hk2:k=2
    . have CR:=zA (revP_any HT.out.kf (by omega) (fun p hp=>by obtain⟨_,_,_,_,h5⟩:=HT.out.ok p hp;exact h5));have HPT:=zA (range_back HN.out hok);subst hk2;clear hok hrb;go_wp2_with fail;refine CR.out.mono ?_;rintro e w6 ⟨rfl,h6,hb6,ho6,hs6⟩;have hbel6:Below kb w3 w6:=HT.out.bel.trans hb6;obtain⟨⟨y0,y1,y2⟩,hrb⟩:=HC.out w6 hbel6;obtain⟨⟨r0,r1,r2⟩,s0,s1,s2⟩:=three_cellsT hrb;have HE:=zA (HFIN.out (fun p=>f (n-1-p)) w6 h6 hbel6 (by rw[hs6];exact HT.out.sz) (fun p hp=>by
       obtain⟨_,_,h7,_⟩:=HT.out.ok (n-1-p) (by omega);exact VOk.keep (by omega) (fun b hb _=>⟨hb,ho6 b (by omega)⟩) _ h7) (by first|(rw [if_pos rfl];exact HPT.out)|(rw [if_pos trivial];exact HPT.out)))
      have hat:=set3K_at (o:=0) (c0:=.int .i64 2) (c1:=.string ⟨wd.toArray⟩) (c2:=.slice (some ⟨kb,0,none⟩) n n) hrb;obtain⟨⟨t0,t1,t2⟩,_⟩:=three_cellsT hat;have Z0:=zA t0;have Z1:=zA t1;have Z2:=zA t2;unfold set3K at HE Z0 Z1 Z2;clear h6 hb6 ho6 hs6 hbel6 hrb hat t0 t1 t2 CR p0 p1 p2;go_wp2;refine bodyPost_ret (v:=.agg #[.int .i64 2,.string ⟨wd.toArray⟩,.slice (some ⟨kb,0,none⟩) n n]) ?_ rfl HE.out;simp[results,Tryz.results50,go_sem,Z0.out,Z1.out,Z2.out]
    . have hk2B:(k==2)=false:=by simp[hk2]
      obtain⟨⟨r0,r1,r2⟩,s0,s1,s2⟩:=three_cellsT hrb;have HE:=zA (HFIN.out f wx HT.out.kf HT.out.bel HT.out.sz (fun p hp=>by obtain⟨_,_,h7,_⟩:=HT.out.ok p hp;exact h7) (by rw[if_neg hk2];exact range_turn HN.out hok));have hat:=set3K_at (o:=0) (c0:=.int .i64 k) (c1:=.string ⟨wd.toArray⟩) (c2:=.slice (some ⟨kb,0,none⟩) n n) hrb;obtain⟨⟨t0,t1,t2⟩,_⟩:=three_cellsT hat;have Z0:=zA t0;have Z1:=zA t1;have Z2:=zA t2;unfold set3K at HE Z0 Z1 Z2;clear hrb hat t0 t1 t2 hok;go_wp2;refine bodyPost_ret (v:=.agg #[.int .i64 k,.string ⟨wd.toArray⟩,.slice (some ⟨kb,0,none⟩) n n]) ?_ rfl HE.out;simp[results,Tryz.results50,go_sem,Z0.out,Z1.out,Z2.out]
structure ChO (S:Nat->Prop) (w:World) (v:Value) (rows:List (Value×List Nat)):Prop where
 row:w.ownsRow 0 56 1 v rows.length (rows.flatMap csRow)
 own:∀g,v.ownBlock=some g->S g
 ats:∀r∈rows,NatC (fun k=>S k/\v.ownBlock≠some k) w r.1 r.2
theorem ChO.at_{S:Nat->Prop}{w:World}{v:Value}{rows:List (Value×List Nat)}(h:ChO S w v rows){i:Nat}{r:Value×List Nat}(hi:rows[i]?=some r):∃g cap,v=.slice (some ⟨g,0,none⟩) rows.length cap/\w.cell? ⟨g,i,none⟩=some r.1/\w.frozen? ⟨g,i,none⟩=false:=by
 have hil:=(zE.1 hi).1;have hrow:=h.row;rcases h.row.2 with⟨_,h0⟩|⟨g,cap,cur,e,_⟩
 . omega
 . rw[e]at hrow;have hc:=hrow.cellAt i (by omega);have hf:=flat_at csRow_len rows i 0 r hi (by omega);rw[yK,yF]at hf;exact⟨g,cap,e,by rw[hc,hf];rfl,hrow.frozenAt i⟩
structure SInv (w0:World) (S0:Nat->Prop) (vl:Nat) (M:List Nat) (i:Nat) (S:Nat->Prop) (w:World):Prop where
 sub:∀k,S0 k->S k
 fr:Fr S0 w0 w
 svl:S vl
 ex:∃lv,w.heap[vl]?=some (.cells #[lv] 56 (0,0))/\(∀g,lv.ownBlock=some g->S g/\w0.heap.size<=g)/\((i=0/\lv=.slice none 0 0)\/(i=1/\w.ownsRow 0 3 1 lv M.length (M.flatMap csI)))
theorem SInv.keep{w0:World}{S0:Nat->Prop}{vl:Nat}{M:List Nat}{i:Nat}{S:Nat->Prop}{w w':World}(h:SInv w0 S0 vl M i S w)(hf:Fr S w w'):SInv w0 S0 vl M i S w':=by
 obtain⟨lv,h1,h2,h3⟩:=h.ex;refine⟨h.sub,h.fr.trans (hf.sub h.sub),h.svl,lv,(hf.block vl h.svl).trans h1,h2,?_⟩;rcases h3 with h3|⟨h3,h4⟩
 . exact .inl h3
 . exact .inr ⟨h3,owns_key h4 (fun g o hg ho=>(hf.block g (h2 g hg).1).trans ho)⟩
theorem ends_P{d:Sd}{s:Ss}{al:List Nat}(hd:∀v p,(s.came.getD v 0).testBit p=true↔d.Rch al v p){P:Nat->Bool}{x:Nat}(hP:P x=true↔d.leads al x):decide (s.came.getD x 0 &&& d.last≠0)=P x:=by
 cases hp:P x with
 |true=>
  apply yC;intro e;obtain⟨p,h1,h2⟩:=hP.1 hp;have:=and_none e p ((hd x p).2 h1);rw[h2]at this;cases this
 |false=>
  apply decide_eq_false;intro h;obtain⟨p,h1,h2⟩:=and_some h;have:=hP.2 ⟨p,(hd x p).1 h1,h2⟩;rw[hp]at this;cases this
set_option maxHeartbeats 16000000 in
theorem strike1_any{w0:World}{S0:Nat->Prop}{vc vt vs vl hb sb nr cap b:Nat}{d:Sd}{av bv:Value}{al bl:List Nat}{P:Nat->Bool}
 (hlow:Low S0 w0) (hvl:¬S0 vl) (hvc:w0.heap[vc]?=some (.cells #[.slice (some ⟨hb,0,none⟩) nr cap] 112 (0,0))/\S0 vc) (hvt:w0.heap[vt]?=some (.cells #[.int .i64 (b:Int)] 3 (0,0))/\S0 vt) (hvs:w0.heap[vs]?=some (.cells #[.pointer (some ⟨sb,0,none⟩)] 64 (0,0))/\S0 vs)
 (hcell:w0.cell? ⟨hb,b,none⟩=some bv/\S0 hb) (hb2:b<nr) (hbv:NatC S0 w0 bv bl) (hbl:∀x∈bl,x<d.n) (hbll:bl.length<=10000) (hP:∀x,x<d.n->(P x=true↔d.leads al x)) (hkp:∀k,d.kp k->S0 k):
 FoundC 104 #[.pointer (some ⟨vc,0,none⟩),.pointer (some ⟨vt,0,none⟩),.pointer (some ⟨vs,0,none⟩),.pointer (some ⟨vl,0,none⟩)] sb d [(av,al)] (SInv w0 S0 vl (bl.filter P)):=by
 intro i r S w s m hri hSl hsr hre hdo hinv;obtain⟨i0,hi0,hz0,hz1,hz2⟩:=info_partsG infoZG;obtain⟨rfl,rfl⟩:i=0/\r=(av,al):=by
  match i,hri with
  |0,h=>simp at h;exact⟨rfl,h.symm⟩
  |i+1,h=>simp at h
 dsimp only at hdo;obtain⟨lv,e1,e2,e3⟩:=hinv.ex;have hlv:lv=.slice none 0 0:=by
  rcases e3 with e3|⟨e3,_⟩
  . exact e3.2
  . omega
 subst hlv;have HSR:=zA hsr;have HRE:=zA hre;have HINV:=zA hinv;have HSL:=zA hSl;have HLOW:=zA hlow;have HVL:=zA hvl;have HVLB:=zA e1;have HKP:=zA hkp;have hsz0:w0.heap.size<=w.heap.size:=hinv.fr.size;obtain⟨ba,bc,hbe⟩:=hbv.1.slice;obtain⟨nb,hnb⟩:∃n,n=bl.length:=⟨_,rfl⟩
 rw[<- hnb]at hbe hbll;subst hbe;have HNB:=zA hnb;have HBL:=zA hbl;have HBV:Hid (NatS S0 w (.slice ba nb bc) bl):=zA (hbv.1.fr hinv.fr);have HC:Hid (∀wr x,Fr (fun k=>k<w.heap.size/\k≠vl) w wr->x<d.n->Calls Tryz.prog 44 #[.pointer (some ⟨sb,0,none⟩),.int .i64 (x:Int)] wr fun e w'=>e=.returned (.bool (P x))/\w'=wr.drew):=zA (fun wr x hf hx=>by
  rw[<- ends_P hdo (hP x hx)];have hkeep:SrS S wr sb d s m:=hsr.keep hf.size (fun k hk ho=>⟨hsr.own_no ho,hf.block k ⟨hk,fun e=>hsr.own_no ho (e▸hinv.svl)⟩⟩) (fun k hk hkp2=>hf.block k ⟨hk,fun e=>hvl (e▸hkp k hkp2)⟩) hsr.kS;exact endsAt_any hkeep hre.cl hre.cb hx)
 have hS0:∀k,S0 k->k<w.heap.size/\k≠vl:=fun k hk=>⟨zO (hlow k hk) hsz0,fun e=>hvl (e▸hk)⟩
 have HS0:=zA hS0;have qc:w.cell? ⟨vc,0,none⟩=some (.slice (some ⟨hb,0,none⟩) nr cap):=by
  have h1:=(hinv.fr.block vc hvc.2).trans hvc.1;simp[World.cell?,h1]
 have qt:w.cell? ⟨vt,0,none⟩=some (.int .i64 (b:Int)):=by
  have h1:=(hinv.fr.block vt hvt.2).trans hvt.1;simp[World.cell?,h1]
 have HVS:Hid (∀u:World,Fr (fun k=>k<w.heap.size/\k≠vl) w u->u.cell? ⟨vs,0,none⟩=some (.pointer (some ⟨sb,0,none⟩))):=zA (fun u hu=>by
  have h1:=(hu.block vs (hS0 vs hvs.2)).trans ((hinv.fr.block vs hvs.2).trans hvs.1);simp[World.cell?,h1])
 have qb:w.cell? ⟨hb,b,none⟩=some (.slice ba nb bc):=by
  have h1:=hinv.fr.block hb hcell.2;simpa only[World.cell?,h1]using hcell.1
 have hbI:(b:Int)<(nr:Int):=by omega
 have hvlw:vl<w.heap.size:=lt_of_block e1;obtain⟨M,hM⟩:∃M,M=bl.filter P:=⟨_,rfl⟩
 rw[<- hM]at HINV ⊢;have HM:=zA hM;clear hri hSl hsr hre hdo hinv e1 e2 e3 hlow hvl hvc hvt hvs hcell hbv hbl hP hkp hS0 hM hnb;show Calls Tryz.prog _ #[.int .i64 0,.pointer (some ⟨vc,0,none⟩),.pointer (some ⟨vt,0,none⟩),.pointer (some ⟨vs,0,none⟩),.pointer (some ⟨vl,0,none⟩)] w _;go_enter Tryz.func104,Tryz.ntmps104;go_wp2_with fail;go_loopw [13] (fun c wr=>∃(k:Nat) (lx:Value),k<=nb/\c=.int .i64 k/\Hid (wr.heap[vl]?=some (.cells #[lx] 56 (0,0)))/\Hid (wr.ownsRow w.heap.size 3 1 lx ((bl.take k).filter P).length (((bl.take k).filter P).flatMap csI))/\Hid (Fr (fun k=>k<w.heap.size/\k≠vl) w wr)) (fun c _=>nb-(intOf c).toNat)
 case atStart=>exact⟨0,.slice none 0 0,zS _,rfl,HVLB,zA (World.ownsRow_nil _ _ _ _),zA (Fr.refl _ _)⟩
 case round=>
  obtain⟨k,lx,hk,rfl,HVB,HROW,HFR⟩:=hrel;obtain⟨wx,hwx⟩:∃wx,wx=wr:=⟨_,rfl⟩
  subst hwx;obtain⟨X,hX⟩:∃X,X=(bl.take k).filter P:=⟨_,rfl⟩
  rw[<- hX]at HROW;have HX:=zA hX;have hXl:X.length<=10000:=by
   rw[hX];have h1:=yD P (bl.take k);rw[yL,<- HNB.out]at h1;omega
  clear hX;have hszx:w.heap.size<=wx.heap.size:=HFR.out.size;by_cases hlt:k<nb
  . have hltI:(k:Int)<(nb:Int):=by omega
    obtain⟨x,hx⟩:∃x,bl[k]?=some x:=⟨_,zB (by rw[<- HNB.out];exact hlt)⟩
    obtain⟨g,off,hba,hsg,hgl,hcell⟩:=HBV.out.get hx;subst hba;have q0:=getI hcell;rw[yK]at q0;have q0x:wx.cell? ⟨g,off+k,none⟩=some (.int .i64 (x:Int)):=by simpa only[World.cell?,HFR.out.block g (HS0.out g hsg)]using q0
    have qs:=HVS.out wx HFR.out;have C:=zA (HC.out wx x HFR.out (HBL.out x (zC hx)));have HT:=zA (filt_take (p:=P) hx);rw[<- HX.out]at HT;clear hx hcell q0;cases hp:P x with
    |true=>
     rw[hp]at C HT;rw[if_pos rfl]at HT;clear hp;obtain⟨ua,uc,hlx⟩:=own_slice HROW.out;obtain⟨nu,hnu⟩:∃n,n=X.length:=⟨_,rfl⟩
     rw[<- hnu]at hlx hXl;subst hlx;have HNU:=zA hnu;obtain⟨wy,hwy⟩:∃wy,wy=wx.drew:=⟨_,rfl⟩
     have HRY:Hid (wy.ownsRow w.heap.size 3 1 (.slice ua nu uc) nu (X.flatMap csI)):=zA (by
      have:=HROW.out.drew;rw[<- hwy,<- hnu]at this;exact this)
     have HVY:Hid (wy.heap[vl]?=some (.cells #[.slice ua nu uc] 56 (0,0))):=zA (by rw[hwy];exact HVB.out);have HFY:Hid (Fr (fun k=>k<w.heap.size/\k≠vl) w wy):=zA (by rw[hwy];exact⟨HFR.out.os,HFR.out.tape,HFR.out.output,HFR.out.size,HFR.out.block⟩);have hszy:w.heap.size<=wy.heap.size:=HFY.out.size;have qly:wy.cell? ⟨vl,0,none⟩=some (.slice ua nu uc):=by
      have:=HVY.out;simp[World.cell?,this]
     clear hnu;go_wp2_with fail;refine C.out.mono ?_;rintro e w1 ⟨rfl,rfl⟩;rw[<- hwy];clear hwy q0x qs;go_wp2_with (at_builtin;refine wpList_append_lies _ rfl _ _ _ rfl w.heap.size 3 i0 _ 1 8 Tryz.underlying56 hi0 hz0 hz1 hz2 rfl (by decide) (.slice ua nu uc) _ _ (by rfl) (HRY.out.alloc _) ⟨wy.heap.size,0,none⟩ 1 1 (csI x) (by rfl) (by rfl) ?d1 ?d2 (by decide) ?d3 ?d4 ?d5 (wy.heap.size+1) (by simp) ?_)
     case d1=>exact World.news_of_block (cs:=#[.int .i64 (x:Int)]) (t:=3) (fr:=(0,0)) (heap_alloc_new wy _)
     case d2=>simp[Value.oneCell']
     case d3=>unfold maxLen;omega
     case d4=>omega
     case d5=>simp;omega
     intro gg cap2 w9 hown9 hgrow9 hat9 hlt9;have hkeep9:=grown_keep hgrow9;have hv9:w9.heap[vl]?=some (.cells #[.slice ua nu uc] 56 (0,0)):=(hkeep9 vl (lt_of_block HVY.out) (own_neG HRY.out HVY.out (by decide))).trans HVY.out;have c9:w9.cell? ⟨vl,0,none⟩=some (.slice ua nu uc)/\w9.frozen? ⟨vl,0,none⟩=false:=by simp[World.cell?,World.frozen?,hv9]
     have hset:∀b,b≠vl->(w9.setCell ⟨vl,0,none⟩ (.slice (some ⟨gg,0,none⟩) (nu+1) cap2)).heap[b]?=w9.heap[b]?:=fun b hb=>zM _ _ _ _ hb
     have HVF:Hid ((w9.setCell ⟨vl,0,none⟩ (.slice (some ⟨gg,0,none⟩) (nu+1) cap2)).heap[vl]?=some (.cells #[.slice (some ⟨gg,0,none⟩) (nu+1) cap2] 56 (0,0))):=zA (by simp[World.setCell,Array.getElem?_modify,hv9]);have HRF:Hid ((w9.setCell ⟨vl,0,none⟩ (.slice (some ⟨gg,0,none⟩) (nu+1) cap2)).ownsRow w.heap.size 3 1 (.slice (some ⟨gg,0,none⟩) (nu+1) cap2) ((bl.take (k+1)).filter P).length (((bl.take (k+1)).filter P).flatMap csI)):=zA (by
      have h4:w9.ownsRow w.heap.size 3 1 (.slice (some ⟨gg,0,none⟩) (nu+1) cap2) ((bl.take (k+1)).filter P).length (((bl.take (k+1)).filter P).flatMap csI):=by
       rw[HT.out,zG,<- HNU.out,zY];exact hown9
      exact owns_key h4 (fun g o hg ho=>(hset g (fun e=>own_neG h4 hv9 (by decide) (by rw[hg,e]))).trans ho))
     have HFF:Hid (Fr (fun k=>k<w.heap.size/\k≠vl) w (w9.setCell ⟨vl,0,none⟩ (.slice (some ⟨gg,0,none⟩) (nu+1) cap2))):=zA (HFY.out.trans ⟨hgrow9.os,hgrow9.tape,hgrow9.output,by have:=hgrow9.size;simp at this ⊢;omega,fun b hb=>(hset b hb.2).trans (hkeep9 b (by omega) (fun e=>by have:=(HRY.out.lt b e).1;omega))⟩);obtain⟨c9a,c9b⟩:=c9;clear hown9 hgrow9 hat9 hlt9 hkeep9 hv9 hset qly;go_wp2;go_roundw
     case rel=>exact⟨k+1,_,by omega,by go_num,HVF,HRF,HFF⟩
     case measure=>simp[intOf];omega
    |false=>
     rw[hp]at C HT;rw[if_neg (by decide),List.append_nil]at HT;clear hp;have HVF:Hid (wx.drew.heap[vl]?=some (.cells #[lx] 56 (0,0))):=HVB;have HRF:Hid (wx.drew.ownsRow w.heap.size 3 1 lx ((bl.take (k+1)).filter P).length (((bl.take (k+1)).filter P).flatMap csI)):=zA (by rw[HT.out];exact HROW.out.drew);have HFF:Hid (Fr (fun k=>k<w.heap.size/\k≠vl) w wx.drew):=zA ⟨HFR.out.os,HFR.out.tape,HFR.out.output,HFR.out.size,HFR.out.block⟩;go_wp2_with fail;refine C.out.mono ?_;rintro e w1 ⟨rfl,rfl⟩;go_wp2;go_roundw
     case rel=>exact⟨k+1,_,by omega,by go_num,HVF,HRF,HFF⟩
     case measure=>simp[intOf];omega
  . have hltI:¬(k:Int)<(nb:Int):=by omega
    have HXM:Hid (X=M):=zA (by rw[HX.out,HM.out,zK (by rw[<- HNB.out];omega)]);have HFIN:Hid (∃T2:Nat->Prop,(∀k,S k->T2 k)/\Low T2 wx/\SrS T2 wx sb d s m/\SInv w0 S0 vl M (0+1) T2 wx):=zA (by
     refine⟨Plus S w.heap.size wx.heap.size,fun k hk=>.inl hk,HSL.out.plus hszx,?_,?_⟩
     . refine HSR.out.keep hszx (fun b hb ho=>⟨fun hp=>?_,?_⟩) (fun b hb hkb=>?_) (fun b hb=>.inl (HSR.out.kS b hb))
       . rcases hp with hp|hp
         . exact HSR.out.own_no ho hp
         . omega
       . exact HFR.out.block b ⟨hb,fun e=>HSR.out.own_no ho (e▸HINV.out.svl)⟩
       . exact HFR.out.block b (HS0.out b (HKP.out b hkb))
     . refine⟨fun k hk=>.inl (HINV.out.sub k hk),HINV.out.fr.trans (HFR.out.sub (fun k hk=>HS0.out k hk)),.inl HINV.out.svl,lx,HVB.out,fun g hg=>?_,.inr ⟨rfl,?_⟩⟩
       . have h1:=HROW.out.lt g hg;exact⟨.inr h1,by omega⟩
       . rw[<- HXM.out];have h2:=HROW.out;exact⟨h2.1,by
          rcases h2.2 with h3|⟨g,c,cur,a1,a2,a3⟩
          . exact .inl h3
          . exact .inr ⟨g,c,cur,a1,zS _,a3⟩⟩)
    go_wp2;go_end0;exact⟨rfl,HFIN.out⟩
end Go.Proofs.YtdalcipmpelifaaGreatDoor
