/- XTurnQ, XStrike, XStrk. -/
import Derived.Test.YtkbgmcmcpbegjaaGreatDoorZR32
import Derived.Test.YtkbgmcmcpbegjaaGreatDoorZR33
set_option maxRecDepth 100000
set_option maxHeartbeats 16000000
namespace Go.Proofs.YtkbgmcmcpbegjaaGreatDoor
open Go.RowKit Go.Shelf
def jjN(w:World)(t:Vt)(e:Ending)(w':World):Prop:=
 ∃(kb n:Nat) (kids:List Vt),e=.returned (.agg #[.int .i64 t.kind,.string ⟨t.word.toArray⟩,.slice (some ⟨kb,0,none⟩) n n])/\VOk (fun g=>w.heap.size<=g) w' ⟨t.kind,t.word,.slice (some ⟨kb,0,none⟩) n n,kids⟩/\Vt.pt ⟨t.kind,t.word,.slice (some ⟨kb,0,none⟩) n n,kids⟩=jaQ t.pt/\Below w.heap.size w w'
theorem jfb{l:List Vt}{f:Nat->Vt}{n:Nat}(hn:n=l.length)(h:∀p,p<n->∃x,l[p]?=some x/\(f p).pt=jaQ x.pt):((List.range n).map f).map Vt.pt=(l.map Vt.pt).map jaQ:=by
 apply List.ext_getElem?;intro p;rw[zI,zI,zI,zI];by_cases hp:p<n
 . obtain⟨x,h1,h2⟩:=h p hp;rw[yO hp,h1];simp[h2]
 . rw[yE (by simp;omega),yE (by omega)];rfl
theorem jiC{l:List Vt}{f:Nat->Vt}{n:Nat}(hn:n=l.length)(h:∀p,p<n->∃x,l[p]?=some x/\(f p).pt=jaQ x.pt):((List.range n).map fun p=>f (n-1-p)).map Vt.pt=((l.map Vt.pt).map jaQ).reverse:=by
 rw[<- jfb hn h];apply List.ext_getElem?;intro p;by_cases hp:p<n
 . rw[List.getElem?_reverse (by simp;exact hp)];simp only[zH,List.length_range];rw[zI,zI,zI,zI,yO hp,yO (by omega)];rfl
 . rw[yE (by simp;omega),yE (by simp;omega)]
theorem jaV{w:World}{b:Nat}{c0 c1 c2:Value}{t:TypeId}(h:w.heap[b]?=some (.cells #[c0,c1,c2] t (0,0))):(w.cell? ⟨b,0,none⟩=some c0/\w.cell? ⟨b,1,none⟩=some c1/\w.cell? ⟨b,2,none⟩=some c2)/\w.frozen? ⟨b,0,none⟩=false/\w.frozen? ⟨b,1,none⟩=false/\w.frozen? ⟨b,2,none⟩=false:=by
 simp[World.cell?,World.frozen?,h]
structure TkI (l:List Vt) (kb n:Nat) (w3:World) (i:Nat) (f:Nat->Vt) (wr:World):Prop where
 kf:KF wr kb n f
 bel:Below kb w3 wr
 sz:w3.heap.size<=wr.heap.size
 ok:∀p,p<i->∃x,l[p]?=some x/\VOk (fun g=>kb<g) wr (f p)/\(f p).pt=jaQ x.pt/\∃a k c,(f p).val=.slice a k c
theorem TkI.step{l:List Vt}{kb n:Nat}{w3:World}{i:Nat}{f:Nat->Vt}{wr wz w5:World}(h:TkI l kb n w3 i f wr)(hi:i<n){x:Vt}(hx:l[i]?=some x)(hbz:Below wr.heap.size wr wz)(hb5:Below wz.heap.size wz w5){kb' n':Nat}{kids:List Vt}(hv:VOk (fun g=>wz.heap.size<=g) w5 ⟨x.kind,x.word,.slice (some ⟨kb',0,none⟩) n' n',kids⟩)(hp:Vt.pt ⟨x.kind,x.word,.slice (some ⟨kb',0,none⟩) n' n',kids⟩=jaQ x.pt):
 (KF w5 kb n f)/\TkI l kb n w3 (i+1) (fun p=>if p=i then⟨x.kind,x.word,.slice (some ⟨kb',0,none⟩) n' n',kids⟩else f p) (jcm w5 kb (i*3) (.int .i64 x.kind) (.string ⟨x.word.toArray⟩) (.slice (some ⟨kb',0,none⟩) n' n')):=by
 have ac:=h.kf.lt;have hz:=hbz.size;have hz5:=hb5.size;have h5:∀k,k<wr.heap.size->w5.heap[k]?=wr.heap[k]?:=fun k hk=>(hb5.block k (by omega)).trans (hbz.block k hk)
 have ab:KF w5 kb n f:=h.kf.keep (h5 kb ac);refine⟨ab,ab.set i hi ⟨x.kind,x.word,.slice (some ⟨kb',0,none⟩) n' n',kids⟩,jcd ⟨(hb5.os.trans hbz.os).trans h.bel.os,(hb5.tape.trans hbz.tape).trans h.bel.tape,(hb5.output.trans hbz.output).trans h.bel.output,by have:=h.sz;omega,fun k hk=>(h5 k (by omega)).trans (h.bel.block k hk)⟩ (zD _) _ _ _ _,by rw[jbm];have:=h.sz;omega,fun p hp2=>?_⟩;have aa:∀ {y:Vt} {Y:Nat->Prop},VOk Y w5 y->(∀g,Y g->kb<g)->VOk (fun g=>kb<g) (jcm w5 kb (i*3) (.int .i64 x.kind) (.string ⟨x.word.toArray⟩) (.slice (some ⟨kb',0,none⟩) n' n')) y:=fun {y Y} hy hY=>VOk.keep (by rw[jbm];exact zD _) (fun b hb _=>⟨hY b hb,jbx _ _ _ _ _ _ (by have:=hY b hb;omega)⟩) y hy
 by_cases e:p=i
 . subst e;rw[if_pos rfl];exact⟨x,hx,aa hv (fun g hg=>by omega),hp,_,_,_,rfl⟩
 . rw[if_neg e];obtain⟨y,h1,h2,h3,h4⟩:=h.ok p (by omega);exact⟨y,h1,aa (VOk.keep (T:=fun g=>kb<g) (by omega) (fun b hb hl=>⟨hb,h5 b hl⟩) _ h2) (fun g hg=>hg),h3,h4⟩
theorem jby:∀(t:Vt) (d:Nat) (S:Nat->Prop) (w:World),jaf d t.pt=true->VOk S w t->Calls Tryz.prog 74 #[encN t] w (jjN w t):=by
 intro t;induction t using Vt.ind with
 |h k wd v l ih=>
 intro d S w au hv;obtain⟨i0,a8,a7,bd,ba⟩:=jal jmm;obtain⟨d',rfl⟩:∃d',d=d'+1:=by
  cases d with
  |zero=>simp[jaf]at au
  |succ d'=>exact⟨d',rfl⟩
 rw[Vt.pt_mk,jaf]at au;simp only[Bool.and_eq_true,decide_eq_true_eq,yF,zH]at au;obtain⟨⟨_,aA⟩,ak⟩:=au;obtain⟨h1,h2,h3,h4⟩:=jbV.1 hv;obtain⟨ka,kc,aG⟩:=h1.slice;obtain⟨n,hn⟩:=eX l.length;rw[<- hn]at aG aA;subst aG;have IH:Hid (∀(x:Vt) (u:World),x∈l->Below w.heap.size w u->Calls Tryz.prog 74 #[encN x] u (jjN u x)):=zA (fun x u hx hu=>ih x hx d' S u (ak x.pt (zW hx)) ((h4 x hx).below hu));have a9:=zA h1;have a3:=zA (fun x hx=>(h4 x hx).parts.1.slice);have HN:=zA hn;have HWD:=zA h2;obtain⟨kb,aq⟩:=eX (w.heap.size+2);obtain⟨o1,ap⟩:=eX (Obj.cells #[.int .i64 k,.string ⟨wd.toArray⟩,.slice ka n kc] 25 (0,0));obtain⟨o2,aB⟩:=eX (Obj.cells #[.int .i64 0,.string ⟨#[]⟩,.slice none 0 0] 25 (0,0));obtain⟨w2,ae⟩:=eX ((w.alloc o1).alloc o2);have aC:w2.heap.size=w.heap.size+2:=by rw[ae];simp
 have af:Below w.heap.size w w2:=by rw[ae];exact((zF _ _).alloc (zD _) _).alloc (by simp) _
 have g1:w2.heap[w.heap.size]?=some o1:=by rw[ae];exact jak [o1,o2] w 0 (by simp)
 have g2:w2.heap[w.heap.size+1]?=some o2:=by rw[ae];exact jak [o1,o2] w 1 (by simp)
 obtain⟨w3,ai⟩:=eX (w2.alloc (.cells (madeCells #[.int .i64 0,.string ⟨#[]⟩,.slice none 0 0] (n*3)) 25));have ar:Below w2.heap.size w2 w3:=by rw[ai];exact(zF _ _).alloc (zD _) _
 have aT:w3.heap.size=w.heap.size+3:=by rw[ai];simp;omega
 have aI:KF w3 kb n (fun _=>vt0):=by rw[ai,aq,<- aC];exact KF.made w2 n
 have a5:Hid (TkI l kb n w3 0 (fun _=>vt0) w3):=zA ⟨aI,zF _ _,zD _,fun p hp=>absurd hp (Nat.not_lt_zero _)⟩;have aM:Hid (Below w.heap.size w w3):=zA (af.trans (ar.mono (by omega)));have aZ:Hid (w.heap.size+2=kb):=zA aq.symm;have HS3:=zA aT;have HC:Hid (∀u:World,Below kb w3 u->(u.cell? ⟨w.heap.size,0,none⟩=some (.int .i64 k)/\u.cell? ⟨w.heap.size,1,none⟩=some (.string ⟨wd.toArray⟩)/\u.cell? ⟨w.heap.size,2,none⟩=some (.slice ka n kc))/\u.heap[w.heap.size+1]?=some (.cells #[.int .i64 0,.string ⟨#[]⟩,.slice none 0 0] 25 (0,0))):=zA (fun u hu=>by
  have x1:=(hu.block w.heap.size (by omega)).trans ((ar.block _ (lt_of_block g1)).trans g1);have x2:=(hu.block (w.heap.size+1) (by omega)).trans ((ar.block _ (lt_of_block g2)).trans g2);rw[ap]at x1;rw[aB]at x2;exact⟨(jaV x1).1,x2⟩)
 have q2:w2.cell? ⟨w.heap.size,2,none⟩=some (.slice ka n kc):=by
  rw[ap]at g1;exact(jaV g1).1.2.2
 have q3:w3.cell? ⟨w.heap.size,2,none⟩=some (.slice ka n kc):=(HC.out w3 (zF _ _)).1.2.2;have bb:Hid (((w.alloc (.cells #[.int .i64 k,.string ⟨wd.toArray⟩,.slice ka n kc] 25)).alloc (.cells #[.int .i64 0,.string ⟨#[]⟩,.slice none 0 0] 25))=w2):=zA (by rw[ae,ap,aB]);have a4:Hid (w2.alloc (.cells (madeCells #[.int .i64 0,.string ⟨#[]⟩,.slice none 0 0] (n*3)) 25)=w3):=zA ai.symm;have bc:Hid (w2.heap.size=kb):=zA (by rw[aq];exact aC);obtain⟨Q,hQ⟩:=eX (jjN w ⟨k,wd,.slice ka n kc,l⟩);rw[<- hQ];have aj:Hid (∀(f:Nat->Vt) (u:World),KF u kb n f->Below kb w3 u->w3.heap.size<=u.heap.size->(∀p,p<n->VOk (fun g=>kb<g) u (f p))->((List.range n).map f).map Vt.pt=(if k=2 then ((l.map Vt.pt).map jaQ).reverse else (l.map Vt.pt).map jaQ)->
  Q (.returned (.agg #[.int .i64 k,.string ⟨wd.toArray⟩,.slice (some ⟨kb,0,none⟩) n n])) (jcm u (w.heap.size+1) 0 (.int .i64 k) (.string ⟨wd.toArray⟩) (.slice (some ⟨kb,0,none⟩) n n))):=zA (fun f u hf hb hs ah hpt=>by
  rw[hQ];have al:∀b,b≠w.heap.size+1->(jcm u (w.heap.size+1) 0 (.int .i64 k) (.string ⟨wd.toArray⟩) (.slice (some ⟨kb,0,none⟩) n n)).heap[b]?=u.heap[b]?:=fun b af=>jbx _ _ _ _ _ _ af
  refine⟨kb,n,(List.range n).map f,rfl,jbV.2 ⟨?_,h2,by simp;omega,fun x hx=>?_⟩,?_,?_⟩
  . exact hf.sl.keep (by rw[jbm];exact zD _) (fun b af _=>⟨by omega,al b (by omega)⟩)
  . obtain⟨p,hp,rfl⟩:=zV.1 hx;exact VOk.keep (by rw[jbm];exact zD _) (fun b af _=>⟨by omega,al b (by omega)⟩) _ (ah p (yK.1 hp))
  . rw[Vt.pt_mk,Vt.pt_mk,jdZ,hpt]
  . refine jcd ?_ (by omega) _ _ _ _;exact aM.out.trans (hb.mono (by omega)))
 clear ih hv ak h1 h2 h3 h4 hn hQ af ar aI aC aT ae ai g1 g2 ap aB aq;show Calls Tryz.prog _ #[.agg #[.int .i64 k,.string ⟨wd.toArray⟩,.slice ka n kc]] w _;go_enter Tryz.func74,Tryz.ntmps74;go_wp2_with (at_make;rw[bb.out];refine jdW _ rfl _ _ 23 rfl 25 i0 _ Tryz.underlying23 a8 a7 3 bd #[.int .i64 0,.string ⟨#[]⟩,.slice none 0 0] rfl _ _ n rfl rfl (by rw[ba];omega) (by omega) ?_;rw[a4.out,bc.out]);go_loopw [13] (fun c wr=>∃(i:Nat) (f:Nat->Vt),i<=n/\c=.int .i64 i/\Hid (TkI l kb n w3 i f wr)) (fun c _=>n-(intOf c).toNat)
 case atStart=>exact⟨0,_,zO _,rfl,a5⟩
 case round=>
  obtain⟨i,f,hi,rfl,HT⟩:=hrel;obtain⟨wx,aY⟩:=eX wr;subst aY;clear q2 q3;by_cases hlt:i<n
  . have av:(i:Int)<(n:Int):=by omega
    obtain⟨x,hx⟩:∃x,l[i]?=some x:=⟨_,zB (by rw[<- HN.out];exact hlt)⟩
    have ag:Below w.heap.size w wx:=aM.out.trans (HT.out.bel.mono (by have:=aZ.out;omega));obtain⟨ga,ad,a6,_,az,ab⟩:=a9.out.get hx;subst a6;obtain⟨c0,c1,c2⟩:=getN ab;have c0:=(ag.cell (p:=⟨ga,ad+i*3,none⟩) az).trans c0;have c1:=(ag.cell (p:=⟨ga,ad+i*3+1,none⟩) az).trans c1;have c2:=(ag.cell (p:=⟨ga,ad+i*3+2,none⟩) az).trans c2;obtain⟨xa,xc,ay⟩:=a3.out x (zC hx);have HX:Hid (l[i]?=some x):=zA hx;have CX:=IH.out x;have aN:=zC hx;obtain⟨xk,xw,xv,xl⟩:=x;dsimp only at ay c0 c1 c2;obtain⟨xn,aK⟩:=eX xl.length;rw[<- aK]at ay;subst ay;obtain⟨wz,am⟩:=eX (wx.alloc (.cells #[.int .i64 xk,.string ⟨xw.toArray⟩,.slice xa xn xc] 25));have ax:Below wx.heap.size wx wz:=by rw[am];exact(zF _ _).alloc (zD _) _
    have an:wz.heap[wx.heap.size]?=some (.cells #[.int .i64 xk,.string ⟨xw.toArray⟩,.slice xa xn xc] 25 (0,0)):=by rw[am];exact heap_alloc_new _ _
    obtain⟨⟨b0,b1,b2⟩,_⟩:=jaV an;have CT:=zA (CX wz aN (ag.trans (ax.mono ag.size)));have aX:=zA ax;have aW:=zA am;rw[am]at b0 b1 b2;clear hx ab ag aK CX aN an ax am;go_wp2_with fail;rw[<- aW.out];clear b0 b1 b2 c0 c1 c2;refine CT.out.mono ?_;rintro e w5 ⟨kb',n',kids',rfl,aU,aR,aH⟩;obtain⟨aJ,aV⟩:=HT.out.step hlt HX.out aX.out aH aU aR;obtain⟨⟨a0,a1,a2⟩,z0,z1,z2⟩:=aJ.get hlt;obtain⟨m0,aO⟩:=eX ((f i).kind);obtain⟨m1,aS⟩:=eX ((f i).word.toArray);obtain⟨m2,aQ⟩:=eX ((f i).val);rw[<- aO]at a0;rw[<- aS]at a1;rw[<- aQ]at a2;have aw:=zA aV;unfold jcm at aw;dsimp only at aw;clear aJ aV aU aR aH aO aS aQ CT;go_wp2;go_roundw
    case rel=>exact⟨i+1,_,by omega,by go_num,aw⟩
    case measure=>simp[intOf];omega
  . have av:¬(i:Int)<(n:Int):=by omega
    have aF:i=n:=by omega
    rw[aF]at HT;clear aF;obtain⟨⟨p0,p1,p2⟩,ac⟩:=HC.out wx HT.out.bel;have ah:∀p,p<n->∃x,l[p]?=some x/\(f p).pt=jaQ x.pt:=fun p hp=>by
     obtain⟨x,h1,_,h3,_⟩:=HT.out.ok p hp;exact⟨x,h1,h3⟩
    by_cases hk2:k=2
    . have CR:=zA (jko HT.out.kf (by omega) (fun p hp=>by obtain⟨_,_,_,_,h5⟩:=HT.out.ok p hp;exact h5));have aD:=zA (jiC HN.out ah);subst hk2;clear ah ac;go_wp2_with fail;refine CR.out.mono ?_;rintro e w6 ⟨rfl,h6,aP,aE,aL⟩;have aa:Below kb w3 w6:=HT.out.bel.trans aP;obtain⟨⟨y0,y1,y2⟩,ac⟩:=HC.out w6 aa;obtain⟨⟨r0,r1,r2⟩,s0,s1,s2⟩:=jaV ac;have HE:=zA (aj.out (fun p=>f (n-1-p)) w6 h6 aa (by rw[aL];exact HT.out.sz) (fun p hp=>by
       obtain⟨_,_,h7,_⟩:=HT.out.ok (n-1-p) (by omega);exact VOk.keep (by omega) (fun b hb _=>⟨hb,aE b (by omega)⟩) _ h7) (by first|(rw [if_pos rfl];exact aD.out)|(rw [if_pos trivial];exact aD.out)))
      have ao:=jgb (o:=0) (c0:=.int .i64 2) (c1:=.string ⟨wd.toArray⟩) (c2:=.slice (some ⟨kb,0,none⟩) n n) ac;obtain⟨⟨t0,t1,t2⟩,_⟩:=jaV ao;have Z0:=zA t0;have Z1:=zA t1;have Z2:=zA t2;unfold jcm at HE Z0 Z1 Z2;clear h6 aP aE aL aa ac ao t0 t1 t2 CR p0 p1 p2;go_wp2;refine bodyPost_ret (v:=.agg #[.int .i64 2,.string ⟨wd.toArray⟩,.slice (some ⟨kb,0,none⟩) n n]) ?_ rfl HE.out;simp[results,Tryz.results74,go_sem,Z0.out,Z1.out,Z2.out]
    . have hk2B:(k==2)=false:=by simp[hk2]
      obtain⟨⟨r0,r1,r2⟩,s0,s1,s2⟩:=jaV ac;have HE:=zA (aj.out f wx HT.out.kf HT.out.bel HT.out.sz (fun p hp=>by obtain⟨_,_,h7,_⟩:=HT.out.ok p hp;exact h7) (by rw[if_neg hk2];exact jfb HN.out ah));have ao:=jgb (o:=0) (c0:=.int .i64 k) (c1:=.string ⟨wd.toArray⟩) (c2:=.slice (some ⟨kb,0,none⟩) n n) ac;obtain⟨⟨t0,t1,t2⟩,_⟩:=jaV ao;have Z0:=zA t0;have Z1:=zA t1;have Z2:=zA t2;unfold jcm at HE Z0 Z1 Z2;clear ac ao t0 t1 t2 ah;go_wp2;refine bodyPost_ret (v:=.agg #[.int .i64 k,.string ⟨wd.toArray⟩,.slice (some ⟨kb,0,none⟩) n n]) ?_ rfl HE.out;simp[results,Tryz.results74,go_sem,Z0.out,Z1.out,Z2.out]
structure ChO (S:Nat->Prop) (w:World) (v:Value) (rows:List (Value×List Nat)):Prop where
 row:w.ownsRow 0 59 1 v rows.length (rows.flatMap jaN)
 own:∀g,v.ownBlock=some g->S g
 ats:∀r∈rows,NatC (fun k=>S k/\v.ownBlock≠some k) w r.1 r.2
theorem ChO.at_{S:Nat->Prop}{w:World}{v:Value}{rows:List (Value×List Nat)}(h:ChO S w v rows){i:Nat}{r:Value×List Nat}(hi:rows[i]?=some r):∃g cap,v=.slice (some ⟨g,0,none⟩) rows.length cap/\w.cell? ⟨g,i,none⟩=some r.1/\w.frozen? ⟨g,i,none⟩=false:=by
 have hil:=(zE.1 hi).1;have aa:=h.row;rcases h.row.2 with⟨_,h0⟩|⟨g,cap,cur,e,_⟩
 . omega
 . rw[e]at aa;have hc:=aa.cellAt i (by omega);have hf:=jdr jaU rows i 0 r hi (by omega);rw[yC,yA]at hf;exact⟨g,cap,e,by rw[hc,hf];rfl,aa.frozenAt i⟩
structure SInv (w0:World) (S0:Nat->Prop) (vl:Nat) (M:List Nat) (i:Nat) (S:Nat->Prop) (w:World):Prop where
 sub:∀k,S0 k->S k
 fr:Fr S0 w0 w
 svl:S vl
 ex:∃lv,w.heap[vl]?=some (.cells #[lv] 59 (0,0))/\(∀g,lv.ownBlock=some g->S g/\w0.heap.size<=g)/\((i=0/\lv=.slice none 0 0)\/(i=1/\w.ownsRow 0 3 1 lv M.length (M.flatMap csI)))
theorem SInv.keep{w0:World}{S0:Nat->Prop}{vl:Nat}{M:List Nat}{i:Nat}{S:Nat->Prop}{w w':World}(h:SInv w0 S0 vl M i S w)(hf:Fr S w w'):SInv w0 S0 vl M i S w':=by
 obtain⟨lv,h1,h2,h3⟩:=h.ex;refine⟨h.sub,h.fr.trans (hf.sub h.sub),h.svl,lv,(hf.block vl h.svl).trans h1,h2,?_⟩;rcases h3 with h3|⟨h3,h4⟩
 . exact .inl h3
 . exact .inr ⟨h3,jae h4 (fun g o hg ho=>(hf.block g (h2 g hg).1).trans ho)⟩
theorem jk4{d:Sd}{s:Ss}{al:List Nat}(hd:∀v p,(s.came.getD v 0).testBit p=true↔d.Rch al v p){P:Nat->Bool}{x:Nat}(hP:P x=true↔d.leads al x):decide (s.came.getD x 0 &&& d.last≠0)=P x:=by
 cases hp:P x with
 |true=>
  apply zU;intro e;obtain⟨p,h1,h2⟩:=hP.1 hp;have:=jhW e p ((hd x p).2 h1);rw[h2]at this;cases this
 |false=>
  apply decide_eq_false;intro h;obtain⟨p,h1,h2⟩:=jh9 h;have:=hP.2 ⟨p,(hd x p).1 h1,h2⟩;rw[hp]at this;cases this
theorem jg7{w0:World}{S0:Nat->Prop}{vc vt vs vl hb sb nr cap b:Nat}{d:Sd}{av bv:Value}{al bl:List Nat}{P:Nat->Bool}
 (hlow:Low S0 w0) (hvl:¬S0 vl) (hvc:w0.heap[vc]?=some (.cells #[.slice (some ⟨hb,0,none⟩) nr cap] 132 (0,0))/\S0 vc) (hvt:w0.heap[vt]?=some (.cells #[.int .i64 (b:Int)] 3 (0,0))/\S0 vt) (hvs:w0.heap[vs]?=some (.cells #[.pointer (some ⟨sb,0,none⟩)] 67 (0,0))/\S0 vs)
 (hcell:w0.cell? ⟨hb,b,none⟩=some bv/\S0 hb) (hb2:b<nr) (hbv:NatC S0 w0 bv bl) (hbl:∀x∈bl,x<d.n) (hbll:bl.length<=10000) (hP:∀x,x<d.n->(P x=true↔d.leads al x)) (hkp:∀k,d.kp k->S0 k):
 FoundC 130 #[.pointer (some ⟨vc,0,none⟩),.pointer (some ⟨vt,0,none⟩),.pointer (some ⟨vs,0,none⟩),.pointer (some ⟨vl,0,none⟩)] sb d [(av,al)] (SInv w0 S0 vl (bl.filter P)):=by
 intro i r S w s m aM aP aj ar aK ab;obtain⟨i0,a4,aZ,bg,a9⟩:=jal jcY;obtain⟨rfl,rfl⟩:i=0/\r=(av,al):=by
  match i,aM with
  |0,h=>simp at h;exact⟨rfl,h.symm⟩
  |i+1,h=>simp at h
 dsimp only at aK;obtain⟨lv,e1,e2,e3⟩:=ab.ex;have bf:lv=.slice none 0 0:=by
  rcases e3 with e3|⟨e3,_⟩
  . exact e3.2
  . omega
 subst bf;have aq:=zA aj;have HRE:=zA ar;have ag:=zA ab;have aY:=zA aP;have HLOW:=zA hlow;have HVL:=zA hvl;have aF:=zA e1;have aU:=zA hkp;have aw:w0.heap.size<=w.heap.size:=ab.fr.size;obtain⟨ba,bc,aO⟩:=hbv.1.slice;obtain⟨nb,aC⟩:=eX bl.length;rw[<- aC]at aO hbll;subst aO;have aG:=zA aC;have bb:=zA hbl;have aV:Hid (NatS S0 w (.slice ba nb bc) bl):=zA (hbv.1.fr ab.fr);have HC:Hid (∀wr x,Fr (fun k=>k<w.heap.size/\k≠vl) w wr->x<d.n->Calls Tryz.prog 62 #[.pointer (some ⟨sb,0,none⟩),.int .i64 (x:Int)] wr fun e w'=>e=.returned (.bool (P x))/\w'=wr.drew):=zA (fun wr x hf hx=>by
  rw[<- jk4 aK (hP x hx)];have an:SrS S wr sb d s m:=aj.keep hf.size (fun k hk ho=>⟨aj.own_no ho,hf.block k ⟨hk,fun e=>aj.own_no ho (e▸ab.svl)⟩⟩) (fun k hk hkp2=>hf.block k ⟨hk,fun e=>hvl (e▸hkp k hkp2)⟩) aj.kS;exact jdt an ar.cl ar.cb hx)
 have aL:∀k,S0 k->k<w.heap.size/\k≠vl:=fun k hk=>⟨zQ (hlow k hk) aw,fun e=>hvl (e▸hk)⟩
 have aD:=zA aL;have qc:w.cell? ⟨vc,0,none⟩=some (.slice (some ⟨hb,0,none⟩) nr cap):=by
  have h1:=(ab.fr.block vc hvc.2).trans hvc.1;simp[World.cell?,h1]
 have qt:w.cell? ⟨vt,0,none⟩=some (.int .i64 (b:Int)):=by
  have h1:=(ab.fr.block vt hvt.2).trans hvt.1;simp[World.cell?,h1]
 have a6:Hid (∀u:World,Fr (fun k=>k<w.heap.size/\k≠vl) w u->u.cell? ⟨vs,0,none⟩=some (.pointer (some ⟨sb,0,none⟩))):=zA (fun u hu=>by
  have h1:=(hu.block vs (aL vs hvs.2)).trans ((ab.fr.block vs hvs.2).trans hvs.1);simp[World.cell?,h1])
 have qb:w.cell? ⟨hb,b,none⟩=some (.slice ba nb bc):=by
  have h1:=ab.fr.block hb hcell.2;simpa only[World.cell?,h1]using hcell.1
 have hbI:(b:Int)<(nr:Int):=by omega
 have hvlw:vl<w.heap.size:=lt_of_block e1;obtain⟨M,hM⟩:=eX (bl.filter P);rw[<- hM]at ag ⊢;have HM:=zA hM;clear aM aP aj ar aK ab e1 e2 e3 hlow hvl hvc hvt hvs hcell hbv hbl hP hkp aL hM aC;show Calls Tryz.prog _ #[.int .i64 0,.pointer (some ⟨vc,0,none⟩),.pointer (some ⟨vt,0,none⟩),.pointer (some ⟨vs,0,none⟩),.pointer (some ⟨vl,0,none⟩)] w _;go_enter Tryz.func130,Tryz.ntmps130;go_wp2_with fail;go_loopw [13] (fun c wr=>∃(k:Nat) (lx:Value),k<=nb/\c=.int .i64 k/\Hid (wr.heap[vl]?=some (.cells #[lx] 59 (0,0)))/\Hid (wr.ownsRow w.heap.size 3 1 lx ((bl.take k).filter P).length (((bl.take k).filter P).flatMap csI))/\Hid (Fr (fun k=>k<w.heap.size/\k≠vl) w wr)) (fun c _=>nb-(intOf c).toNat)
 case atStart=>exact⟨0,.slice none 0 0,zO _,rfl,aF,zA (World.ownsRow_nil _ _ _ _),zA (Fr.refl _ _)⟩
 case round=>
  obtain⟨k,lx,hk,rfl,aA,af,ac⟩:=hrel;obtain⟨wx,aX⟩:=eX wr;subst aX;obtain⟨X,hX⟩:=eX ((bl.take k).filter P);rw[<- hX]at af;have HX:=zA hX;have aT:X.length<=10000:=by
   rw[hX];have h1:=yH P (bl.take k);rw[zX,<- aG.out]at h1;omega
  clear hX;have ak:w.heap.size<=wx.heap.size:=ac.out.size;by_cases hlt:k<nb
  . have ay:(k:Int)<(nb:Int):=by omega
    obtain⟨x,hx⟩:∃x,bl[k]?=some x:=⟨_,zB (by rw[<- aG.out];exact hlt)⟩
    obtain⟨g,bd,aR,aS,hgl,hcell⟩:=aV.out.get hx;subst aR;have q0:=getI hcell;rw[yC]at q0;have aW:wx.cell? ⟨g,bd+k,none⟩=some (.int .i64 (x:Int)):=by simpa only[World.cell?,ac.out.block g (aD.out g aS)]using q0
    have qs:=a6.out wx ac.out;have C:=zA (HC.out wx x ac.out (bb.out x (zC hx)));have HT:=zA (jeJ (p:=P) hx);rw[<- HX.out]at HT;clear hx hcell q0;cases hp:P x with
    |true=>
     rw[hp]at C HT;rw[if_pos rfl]at HT;clear hp;obtain⟨ua,uc,aN⟩:=jab af.out;obtain⟨nu,au⟩:=eX X.length;rw[<- au]at aN aT;subst aN;have a0:=zA au;obtain⟨wy,am⟩:=eX wx.drew;have aE:Hid (wy.ownsRow w.heap.size 3 1 (.slice ua nu uc) nu (X.flatMap csI)):=zA (by
      have:=af.out.drew;rw[<- am,<- au]at this;exact this)
     have ao:Hid (wy.heap[vl]?=some (.cells #[.slice ua nu uc] 59 (0,0))):=zA (by rw[am];exact aA.out);have aQ:Hid (Fr (fun k=>k<w.heap.size/\k≠vl) w wy):=zA (by rw[am];exact⟨ac.out.os,ac.out.tape,ac.out.output,ac.out.size,ac.out.block⟩);have hszy:w.heap.size<=wy.heap.size:=aQ.out.size;have a7:wy.cell? ⟨vl,0,none⟩=some (.slice ua nu uc):=by
      have:=ao.out;simp[World.cell?,this]
     clear au;go_wp2_with fail;refine C.out.mono ?_;rintro e w1 ⟨rfl,rfl⟩;rw[<- am];clear am aW qs;go_wp2_with (at_builtin;refine wpList_append_lies _ rfl _ _ _ rfl w.heap.size 3 i0 _ 1 8 Tryz.underlying59 a4 aZ bg a9 rfl (by decide) (.slice ua nu uc) _ _ (by rfl) (aE.out.alloc _) ⟨wy.heap.size,0,none⟩ 1 1 (csI x) (by rfl) (by rfl) ?d1 ?d2 (by decide) ?d3 ?d4 ?d5 (wy.heap.size+1) (by simp) ?_)
     case d1=>exact World.news_of_block (cs:=#[.int .i64 (x:Int)]) (t:=3) (fr:=(0,0)) (heap_alloc_new wy _)
     case d2=>simp[Value.oneCell']
     case d3=>unfold maxLen;omega
     case d4=>omega
     case d5=>simp;omega
     intro gg ae w9 ah aa aI aB;have ad:=jbb aa;have ap:w9.heap[vl]?=some (.cells #[.slice ua nu uc] 59 (0,0)):=(ad vl (lt_of_block ao.out) (jan aE.out ao.out (by decide))).trans ao.out;have c9:w9.cell? ⟨vl,0,none⟩=some (.slice ua nu uc)/\w9.frozen? ⟨vl,0,none⟩=false:=by simp[World.cell?,World.frozen?,ap]
     have ai:∀b,b≠vl->(w9.setCell ⟨vl,0,none⟩ (.slice (some ⟨gg,0,none⟩) (nu+1) ae)).heap[b]?=w9.heap[b]?:=fun b hb=>zM _ _ _ _ hb
     have ax:Hid ((w9.setCell ⟨vl,0,none⟩ (.slice (some ⟨gg,0,none⟩) (nu+1) ae)).heap[vl]?=some (.cells #[.slice (some ⟨gg,0,none⟩) (nu+1) ae] 59 (0,0))):=zA (by simp[World.setCell,Array.getElem?_modify,ap]);have aH:Hid ((w9.setCell ⟨vl,0,none⟩ (.slice (some ⟨gg,0,none⟩) (nu+1) ae)).ownsRow w.heap.size 3 1 (.slice (some ⟨gg,0,none⟩) (nu+1) ae) ((bl.take (k+1)).filter P).length (((bl.take (k+1)).filter P).flatMap csI)):=zA (by
      have h4:w9.ownsRow w.heap.size 3 1 (.slice (some ⟨gg,0,none⟩) (nu+1) ae) ((bl.take (k+1)).filter P).length (((bl.take (k+1)).filter P).flatMap csI):=by
       rw[HT.out,zG,<- a0.out,zP];exact ah
      exact jae h4 (fun g o hg ho=>(ai g (fun e=>jan h4 ap (by decide) (by rw[hg,e]))).trans ho))
     have aJ:Hid (Fr (fun k=>k<w.heap.size/\k≠vl) w (w9.setCell ⟨vl,0,none⟩ (.slice (some ⟨gg,0,none⟩) (nu+1) ae))):=zA (aQ.out.trans ⟨aa.os,aa.tape,aa.output,by have:=aa.size;simp at this ⊢;omega,fun b hb=>(ai b hb.2).trans (ad b (by omega) (fun e=>by have:=(aE.out.lt b e).1;omega))⟩);obtain⟨c9a,c9b⟩:=c9;clear ah aa aI aB ad ap ai a7;go_wp2;go_roundw
     case rel=>exact⟨k+1,_,by omega,by go_num,ax,aH,aJ⟩
     case measure=>simp[intOf];omega
    |false=>
     rw[hp]at C HT;rw[if_neg (by decide),List.append_nil]at HT;clear hp;have ax:Hid (wx.drew.heap[vl]?=some (.cells #[lx] 59 (0,0))):=aA;have aH:Hid (wx.drew.ownsRow w.heap.size 3 1 lx ((bl.take (k+1)).filter P).length (((bl.take (k+1)).filter P).flatMap csI)):=zA (by rw[HT.out];exact af.out.drew);have aJ:Hid (Fr (fun k=>k<w.heap.size/\k≠vl) w wx.drew):=zA ⟨ac.out.os,ac.out.tape,ac.out.output,ac.out.size,ac.out.block⟩;go_wp2_with fail;refine C.out.mono ?_;rintro e w1 ⟨rfl,rfl⟩;go_wp2;go_roundw
     case rel=>exact⟨k+1,_,by omega,by go_num,ax,aH,aJ⟩
     case measure=>simp[intOf];omega
  . have ay:¬(k:Int)<(nb:Int):=by omega
    have a5:Hid (X=M):=zA (by rw[HX.out,HM.out,zJ (by rw[<- aG.out];omega)]);have az:Hid (∃T2:Nat->Prop,(∀k,S k->T2 k)/\Low T2 wx/\SrS T2 wx sb d s m/\SInv w0 S0 vl M (0+1) T2 wx):=zA (by
     refine⟨Plus S w.heap.size wx.heap.size,fun k hk=>.inl hk,aY.out.plus ak,?_,?_⟩
     . refine aq.out.keep ak (fun b hb ho=>⟨fun hp=>?_,?_⟩) (fun b hb hkb=>?_) (fun b hb=>.inl (aq.out.kS b hb))
       . rcases hp with hp|hp
         . exact aq.out.own_no ho hp
         . omega
       . exact ac.out.block b ⟨hb,fun e=>aq.out.own_no ho (e▸ag.out.svl)⟩
       . exact ac.out.block b (aD.out b (aU.out b hkb))
     . refine⟨fun k hk=>.inl (ag.out.sub k hk),ag.out.fr.trans (ac.out.sub (fun k hk=>aD.out k hk)),.inl ag.out.svl,lx,aA.out,fun g hg=>?_,.inr ⟨rfl,?_⟩⟩
       . have h1:=af.out.lt g hg;exact⟨.inr h1,by omega⟩
       . rw[<- a5.out];have h2:=af.out;exact⟨h2.1,by
          rcases h2.2 with h3|⟨g,c,a8,a1,a2,a3⟩
          . exact .inl h3
          . exact .inr ⟨g,c,a8,a1,zO _,a3⟩⟩)
    go_wp2;go_end0;exact⟨rfl,az.out⟩
def StrE(S Z:Nat->Prop)(w:World)(sb:Nat)(d:Sd)(v:Value)(rows:List (Value×List Nat))(b:Nat)(bl M:List Nat)(e:Ending)(w':World):Prop:=
 e=.returned (.bool (decide (M.length≠bl.length)))/\∃(T:Nat->Prop) (s':Ss) (m':Sp) (rows':List (Value×List Nat)),(∀k,S k->T k)/\Low T w'/\SrS T w' sb d s' m'/\Rest d s'/\ChO (fun k=>(Z k\/w.heap.size<=k)/\T k) w' v rows'/\rows'.map (·.2)=(rows.map (·.2)).set b M/\Fr (fun k=>S k/\v.ownBlock≠some k) w w'
theorem jfE{rows:List (Value×List Nat)}{b:Nat}(x:Value×List Nat):(rows.set b x).flatMap jaN=(rows.flatMap jaN).set b x.1:=by
 rw[jb6,jb6,List.map_set]
theorem jiq{S Z:Nat->Prop}{w:World}{sb:Nat}{d:Sd}{s:Ss}{m:Sp}{v:Value}{rows:List (Value×List Nat)}{a b:Nat}{ra rb:Value×List Nat}{P:Nat->Bool}
 (h:SrS S w sb d s m) (hS:Low S w) (hr:Rest d s) (hn:d.n<=10000) (hol:∀u,(d.out u).length<=1000000) (hT:TabG w) (h0:S 0) (h0v:v.ownBlock≠some 0) (hZ:∀k,Z k->S k) (hc:ChO Z w v rows) (hra:rows[a]?=some ra) (hrb:rows[b]?=some rb) (hl:∀r∈rows,(∀u∈r.2,u<d.n)/\r.2.length<=10000) (hP:∀x,x<d.n->(P x=true↔d.leads ra.2 x)) (hkv:∀k,d.kp k->v.ownBlock≠some k):
 Calls Tryz.prog 99 #[v,.pointer (some ⟨sb,0,none⟩),.int .i64 (a:Int),.int .i64 (b:Int)] w (StrE S Z w sb d v rows b rb.2 (rb.2.filter P)):=by
 obtain⟨hb,ag,hv,cb,fb⟩:=hc.at_ hrb;obtain⟨hb2,cap2,ap,ca,_⟩:=hc.at_ hra;rw[hv]at ap;injection ap with ap _ hv3;injection ap with ap;injection ap with ap;subst ap hv3;subst hv;have a2:(Value.slice (some ⟨hb,0,none⟩) rows.length ag).ownBlock=some hb:=rfl;have a4:=hc.own hb a2;have aG:=hZ hb a4;have aV:=hS hb aG;obtain⟨nr,aQ⟩:=eX rows.length;have bi:=(zE.1 hra).1;have aC:=(zE.1 hrb).1;rw[<- aQ]at bi aC hc ⊢;have aH:=hc.ats ra (zC hra);have aK:=hc.ats rb (zC hrb);have aZ:=hl ra (zC hra);have aB:=hl rb (zC hrb);obtain⟨av,al⟩:=ra;obtain⟨bv,bl⟩:=rb;dsimp only at ca cb aH aK aZ aB hP ⊢;obtain⟨aa,ac,a7⟩:=aH.1.slice;obtain⟨ba,bc,a8⟩:=aK.1.slice;obtain⟨na,az⟩:=eX al.length;obtain⟨nb,aj⟩:=eX bl.length;rw[<- az]at a7;rw[<- aj]at a8;subst a7 a8;obtain⟨o1,aI⟩:=eX (Obj.cells #[.slice (some ⟨hb,0,none⟩) nr ag] 132 (0,0));obtain⟨o2,aR⟩:=eX (Obj.cells #[.pointer (some ⟨sb,0,none⟩)] 67 (0,0));obtain⟨o3,aT⟩:=eX (Obj.cells #[.int .i64 (b:Int)] 3 (0,0));obtain⟨o4,aU⟩:=eX (Obj.cells #[.slice none 0 0] 59 (0,0));obtain⟨o5,aY⟩:=eX (Obj.cells #[.slice aa na ac] 59 (0,0));obtain⟨w4,ar⟩:=eX ((((w.alloc o1).alloc o2).alloc o3).alloc o4);have aW:w4.heap.size=w.heap.size+4:=by rw[ar];simp
 have aM:Below w.heap.size w w4:=by rw[ar];exact((((zF _ _).alloc (zD _) _).alloc (by simp) _).alloc (by simp;omega) _).alloc (by simp;omega) _
 obtain⟨w5,ax⟩:=eX (w4.drew.alloc o5);have a9:w5.heap.size=w.heap.size+5:=by rw[ax];simp;omega
 have af:Below w4.heap.size w4 w5:=by rw[ax];exact(zF _ _).drew.alloc (zD _) _
 have ae:Below w.heap.size w w5:=aM.trans (af.mono aM.size);have g1:w4.heap[w.heap.size]?=some o1:=by rw[ar];exact jak [o1,o2,o3,o4] w 0 (by simp)
 have g2:w4.heap[w.heap.size+1]?=some o2:=by rw[ar];exact jak [o1,o2,o3,o4] w 1 (by simp)
 have g3:w4.heap[w.heap.size+2]?=some o3:=by rw[ar];exact jak [o1,o2,o3,o4] w 2 (by simp)
 have g4:w4.heap[w.heap.size+3]?=some o4:=by rw[ar];exact jak [o1,o2,o3,o4] w 3 (by simp)
 have g5:w5.heap[w.heap.size+4]?=some o5:=by
  rw[ax,<- aW];exact heap_alloc_new w4.drew o5
 obtain⟨T0,a0⟩:=eX (Plus S w.heap.size w5.heap.size:Nat->Prop);obtain⟨S0,a5⟩:=eX (fun k=>Plus S w.heap.size w5.heap.size k/\k≠w.heap.size+3:Nat->Prop);have aO:Hid (∀k,T0 k↔(S k\/(w.heap.size<=k/\k<w5.heap.size))):=zA (fun k=>by rw[a0];exact Iff.rfl);have ak:Hid (∀k,S0 k↔((S k\/(w.heap.size<=k/\k<w5.heap.size))/\k≠w.heap.size+3)):=zA (fun k=>by rw[a5];exact Iff.rfl);have ad:∀k,S k->S0 k:=fun k hk=>(ak.out k).2 ⟨.inl hk,by have:=hS k hk;omega⟩
 have ao:Low S0 w5:=fun k hk=>by
  rcases ((ak.out k).1 hk).1 with h1|h1
  . have:=hS k h1;omega
  . exact h1.2
 have aF:SrS T0 w5 sb d s m:=by rw[a0];exact h.plus ae
 have aD:NatC S0 w5 (.slice ba nb bc) bl:=aK.keep ae.size (fun k hk hlk=>⟨ad k (hZ k hk.1),ae.block k hlk⟩);have aE:NatC S0 w5 (.slice aa na ac) al:=aH.keep ae.size (fun k hk hlk=>⟨ad k (hZ k hk.1),ae.block k hlk⟩);have a6:LstS S0 w5 (.slice (some ⟨w.heap.size+4,0,none⟩) 1 1) [(.slice aa na ac,al)]:=by
  refine⟨?_,fun r hr2=>by rw[zK.1 hr2];exact aE.1⟩;have bj:VRow w5 (w.heap.size+4) 59 ([((.slice aa na ac:Value),al)].flatMap jaN):=by
   rw[aY]at g5;exact g5
  exact(bj.sl jaU rfl).sub (fun k hk _=>by subst hk;exact(ak.out _).2 ⟨.inr ⟨by omega,by omega⟩,by omega⟩)
 have aJ:=(af.block _ (lt_of_block g1)).trans g1;have aL:=(af.block _ (lt_of_block g2)).trans g2;have aP:=(af.block _ (lt_of_block g3)).trans g3;have aX:=(af.block _ (lt_of_block g4)).trans g4;rw[aI]at aJ;rw[aR]at aL;rw[aT]at aP;rw[aU]at aX;have ah:=jg7 (av:=.slice aa na ac) (al:=al) (P:=P) (d:=d) ao (fun hk=>((ak.out _).1 hk).2 rfl) ⟨aJ,(ak.out _).2 ⟨.inr ⟨zD _,by omega⟩,by omega⟩⟩ ⟨aP,(ak.out _).2 ⟨.inr ⟨by omega,by omega⟩,by omega⟩⟩ ⟨aL,(ak.out _).2 ⟨.inr ⟨by omega,by omega⟩,by omega⟩⟩ ⟨(ae.cell (p:=⟨hb,b,none⟩) aV).trans cb,ad hb aG⟩ aC aD aB.1 aB.2 hP (fun k hk=>ad k (h.kS k hk));have a3:TabG w5:=hT.below (B:=w.heap.size) (hS 0 h0) ae;have CE:=zA (each_any (fn:=130) (Inv:=SInv w5 S0 (w.heap.size+3) (bl.filter P)) (v:=.slice (some ⟨w.heap.size+4,0,none⟩) 1 1) (enters_of Tryz.func130 (by kernel_rfl) rfl) aF (fun k hk=>by
  rcases (aO.out k).1 hk with h1|h1
  . have:=hS k h1;omega
  . exact h1.2) hr hn hol (by simp) (fun r hr2=>by rw[zK.1 hr2];exact aZ) (fun i T x y hi hf=>hi.keep hf) (fun i T x hi=>⟨(a6.fr hi.fr).sub (fun k hk _=>hi.sub k hk),a3.fr (ad 0 h0) hi.fr,hi.sub 0 (ad 0 h0)⟩) ah ⟨fun k hk=>(aO.out k).2 ((ak.out k).1 hk).1,Fr.refl _ _,(aO.out _).2 (.inr ⟨by omega,by omega⟩),.slice none 0 0,aX,by intro g hg;simp[Value.ownBlock]at hg,.inl ⟨rfl,rfl⟩⟩)
 have KC:Hid (∀u:World,Fr S0 w5 u->u.cell? ⟨w.heap.size,0,none⟩=some (.slice (some ⟨hb,0,none⟩) nr ag)/\u.cell? ⟨w.heap.size+1,0,none⟩=some (.pointer (some ⟨sb,0,none⟩))/\u.cell? ⟨w.heap.size+2,0,none⟩=some (.int .i64 (b:Int))/\u.cell? ⟨hb,a,none⟩=some (.slice aa na ac)/\u.cell? ⟨hb,b,none⟩=some (.slice ba nb bc)/\u.frozen? ⟨hb,b,none⟩=false):=zA (fun u hu=>by
  have x1:=(hu.block _ ((ak.out (w.heap.size)).2 ⟨.inr ⟨zD _,by omega⟩,by omega⟩)).trans aJ;have x2:=(hu.block _ ((ak.out (w.heap.size+1)).2 ⟨.inr ⟨by omega,by omega⟩,by omega⟩)).trans aL;have x3:=(hu.block _ ((ak.out (w.heap.size+2)).2 ⟨.inr ⟨by omega,by omega⟩,by omega⟩)).trans aP;have x4:=(hu.block hb (ad hb aG)).trans (ae.block hb aV);exact⟨by simp[World.cell?,x1],by simp[World.cell?,x2],by simp[World.cell?,x3],by simpa only[World.cell?,x4]using ca,by simpa only[World.cell?,x4]using cb,by simpa only[World.frozen?,x4]using fb⟩)
 have KS:Hid (∀u,Below w4.heap.size w4 u->u.cell? ⟨w.heap.size,0,none⟩=some (.slice (some ⟨hb,0,none⟩) nr ag)/\u.cell? ⟨w.heap.size+1,0,none⟩=some (.pointer (some ⟨sb,0,none⟩))/\u.cell? ⟨hb,a,none⟩=some (.slice aa na ac)):=zA (fun u hu=>by
  have x1:=(hu.block _ (lt_of_block g1)).trans g1;have x2:=(hu.block _ (lt_of_block g2)).trans g2;rw[aI]at x1;rw[aR]at x2;have x4:=(hu.block hb (by omega)).trans (aM.block hb aV);exact⟨by simp[World.cell?,x1],by simp[World.cell?,x2],by simpa only[World.cell?,x4]using ca⟩)
 have bd:Hid (Below w4.heap.size w4 w4.drew):=zA (zF _ _).drew;have bb:Hid (Below w4.heap.size w4 (w4.drew.alloc (.cells #[.slice aa na ac] 59))):=zA ((zF _ _).drew.alloc (zD _) _);have bm:Hid ((w4.alloc (.cells #[.slice aa na ac] 59)).drew=w5):=zA (by rw[ax,aY];rfl);have bk:=zA aW;have ai:Hid (∀(wE:World) (T:Nat->Prop) (sE:Ss) (mE:Sp),(∀k,T0 k->T k)->Low T wE->SrS T wE sb d sE mE->Rest d sE->SInv w5 S0 (w.heap.size+3) (bl.filter P) 1 T wE->∀lv,wE.heap[w.heap.size+3]?=some (.cells #[lv] 59 (0,0))->
  ((bl.filter P).length=nb->StrE S Z w sb d (.slice (some ⟨hb,0,none⟩) nr ag) rows b bl (bl.filter P) (.returned (.bool false)) wE.drew)/\(¬(bl.filter P).length=nb->StrE S Z w sb d (.slice (some ⟨hb,0,none⟩) nr ag) rows b bl (bl.filter P) (.returned (.bool true)) (wE.drew.setCell ⟨hb,b,none⟩ lv))):=zA (fun wE T sE mE t1 t2 t3 t4 t5 lv aN=>by
  obtain⟨bh,u1,u2,u3⟩:=t5.ex;rw[aN]at u1;injection u1 with u1;injection u1 with u1;have u1:lv=bh:=by simpa using u1
  subst u1;have am:wE.ownsRow 0 3 1 lv (bl.filter P).length ((bl.filter P).flatMap csI):=by
   rcases u3 with⟨x,_⟩|⟨_,x⟩
   . omega
   . exact x
  have aA:∀k,S k->T k:=fun k hk=>t1 k ((aO.out k).2 (.inl hk))
  have ab:Fr S w wE:=⟨t5.fr.os.trans ae.os,t5.fr.tape.trans ae.tape,t5.fr.output.trans ae.output,zT ae.size t5.fr.size,fun k hk=>(t5.fr.block k (ad k hk)).trans (ae.block k (hS k hk))⟩
  have au:ChO (fun k=>(Z k\/w.heap.size<=k)/\T k) wE (.slice (some ⟨hb,0,none⟩) nr ag) rows:=by
   refine⟨?_,fun g hg=>⟨.inl (hc.own g hg),aA g (hZ g (hc.own g hg))⟩,fun r hr2=>(hc.ats r hr2).keep ab.size (fun k hk _=>⟨⟨⟨.inl hk.1,aA k (hZ k hk.1)⟩,hk.2⟩,ab.block k (hZ k hk.1)⟩)⟩;exact jae hc.row (fun g o hg ho=>(ab.block g (hZ g (hc.own g hg))).trans ho)
  constructor
  . intro aw;refine⟨?_,T,sE,mE,rows,aA,t2,t3.below (zF _ _).drew,t4,⟨au.row.drew,au.own,fun r hr2=>(au.ats r hr2).below (zF _ _).drew⟩,?_,?_⟩
    . rw[decide_eq_false];rw[aw,aj];simp
    . have hM:bl.filter P=bl:=List.filter_eq_self.2 (List.length_filter_eq_length_iff.1 (by rw[aw,aj]));rw[hM];apply List.ext_getElem?;intro j;rw[List.getElem?_set];by_cases ej:b=j
      . subst ej;rw[if_pos rfl,if_pos (by rw[zH];omega),zI,hrb];rfl
      . rw[if_neg ej]
    . exact⟨ab.os,ab.tape,ab.output,ab.size,fun k hk=>ab.block k hk.1⟩
  . intro ay;have an:∀k,k≠hb->(wE.drew.setCell ⟨hb,b,none⟩ lv).heap[k]?=wE.heap[k]?:=fun k hk=>zM wE.drew ⟨hb,b,none⟩ lv k hk
    have hszE:w5.heap.size<=wE.heap.size:=t5.fr.size;have bf:T hb:=aA hb aG;refine⟨?_,T,sE,mE,rows.set b (lv,bl.filter P),aA,by intro k hk;have:=t2 k hk;simpa using this,?_,t4,⟨?_,fun g hg=>au.own g hg,fun r hr2=>?_⟩,?_,?_⟩
    . rw[zU];rw[aj]at ay;exact ay
    . exact t3.keep (by simp) (fun k hk ho=>⟨t3.own_no ho,an k (fun e=>t3.own_no ho (e▸bf))⟩) (fun k hk hkk=>an k (fun e=>hkv k hkk (by rw[e];rfl))) t3.kS
    . have h1:wE.drew.ownsRow 0 59 1 (.slice (some ⟨hb,0,none⟩) nr ag) nr (rows.flatMap jaN):=by
       have:=au.row.drew;rw[<- aQ]at this;exact this
      rw[List.length_set,jfE,<- aQ];exact(h1.stored b lv).1
    . obtain⟨j,hj⟩:=List.getElem?_of_mem hr2;rw[List.getElem?_set]at hj;have aq:∀ {q:Value} {L:List Nat},NatC (fun k=>((Z k\/w.heap.size<=k)/\T k)/\(Value.slice (some ⟨hb,0,none⟩) nr ag).ownBlock≠some k) wE q L->NatC (fun k=>((Z k\/w.heap.size<=k)/\T k)/\(Value.slice (some ⟨hb,0,none⟩) nr ag).ownBlock≠some k) (wE.drew.setCell ⟨hb,b,none⟩ lv) q L:=fun hq=>hq.keep (by simp) (fun k hk _=>⟨hk,an k (fun e=>hk.2 (by rw[e];rfl))⟩)
      split at hj
      . split at hj
        . injection hj with hj;subst hj;exact aq ((jc4 am).sub (fun k hk _=>⟨⟨.inr (by have:=(u2 k hk).2;omega),(u2 k hk).1⟩,fun e=>by
           have h2:=(u2 k hk).2;have h3:hb=k:=by simpa[Value.ownBlock]using e
           omega⟩))
        . cases hj
      . exact aq (au.ats r (zC hj))
    . rw[List.map_set]
    . exact⟨ab.os,ab.tape,ab.output,by simpa using ab.size,fun k hk=>(an k (fun e=>hk.2 (by rw[e];rfl))).trans (ab.block k hk.1)⟩)
 have HS5:=zA a9;have haI:(a:Int)<(nr:Int):=by omega
 have hbI:(b:Int)<(nr:Int):=by omega
 obtain⟨M,hM⟩:=eX (bl.filter P);rw[<- hM]at CE ai ⊢;obtain⟨Q,hQ⟩:=eX (StrE S Z w sb d (.slice (some ⟨hb,0,none⟩) nr ag) rows b bl M);rw[<- hQ]at ai ⊢;have bg:M.length<=10000:=by rw[hM];exact zT (yH _ _) aB.2
 clear h hS hr hn hol hT h0 hc hZ a4 hra hrb hl hP hkv a2 aG aQ aH aK aZ aB ca cb fb aM af ae g1 g2 g3 g4 g5 a0 a5 ad ao aF aD aE a6 aJ aL aP aX ah a3 aW a9 az aj hM hQ h0v;go_enter Tryz.func99,Tryz.ntmps99;go_wp2_with fail;rw[<- aI,<- aR,<- aT,<- aU,<- ar];clear aI aR aT aU ar ax aY;refine wp_region_held_drew (S:=fun u=>u.cell? ⟨w.heap.size,0,none⟩=some (.slice (some ⟨hb,0,none⟩) nr ag)/\u.cell? ⟨w.heap.size+1,0,none⟩=some (.pointer (some ⟨sb,0,none⟩))/\u.cell? ⟨hb,a,none⟩=some (.slice aa na ac)) (by kernel_rfl) ?_ (fun hHeld=>?_)
 . exact KS.out _ bd.out
 refine tkH (i:=0) (oi:=⟨some 10,.load 67 (.tmp 5),67, "join.go:160",#[],none⟩) (v:=?_) rfl ?_ hHeld ?_;rotate_left 1
 . rintro W ⟨l1,l2,l3⟩;go_simp;try with_reducible rfl
 simp only[Act.put,zIB,zSZ,zSS];refine tkH (i:=1) (oi:=⟨some 11,.load 132 (.tmp 4),132, "join.go:160",#[],none⟩) (v:=?_) rfl ?_ hHeld ?_;rotate_left 1
 . rintro W ⟨l1,l2,l3⟩;go_simp;try with_reducible rfl
 simp only[Act.put,zIB,zSZ,zSS];refine tkH (i:=2) (oi:=⟨some 12,.move (.tmp 2),3, "join.go:160",#[],none⟩) (v:=?_) rfl ?_ hHeld ?_;rotate_left 1
 . rintro W ⟨l1,l2,l3⟩;go_simp;try with_reducible rfl
 simp only[Act.put,zIB,zSZ,zSS];refine tkH (i:=3) (oi:=⟨some 13,.indexAddr 132 (.tmp 11) (.tmp 12),0, "join.go:160",#[⟨1,.data⟩,⟨2,.data⟩],none⟩) (v:=?_) rfl ?_ hHeld ?_;rotate_left 1
 . rintro W ⟨l1,l2,l3⟩;go_simp;try with_reducible rfl
 simp only[Act.put,zIB,zSZ,zSS];refine tkH (i:=4) (oi:=⟨some 14,.load 59 (.tmp 13),59, "join.go:160",#[⟨3,.data⟩],none⟩) (v:=?_) rfl ?_ hHeld ?_;rotate_left 1
 . rintro W ⟨l1,l2,l3⟩;go_simp;try with_reducible rfl
 simp only[Act.put,zIB,zSZ,zSS];refine tkH (i:=6) (oi:=⟨some 16,.makeFunc (.func 130) #[] #[.tmp 4,.tmp 7,.tmp 5,.tmp 9],76, "join.go:160",#[],none⟩) (v:=?_) rfl ?_ hHeld ?_;rotate_left 1
 . rintro W ⟨l1,l2,l3⟩;go_simp;try with_reducible rfl
 simp only[Act.put,zIB,zSZ,zSS];refine rdH (k:=5) (o:=⟨some 15,.buildSlice 60 1 #[(0,.tmp 14)],60, "join.go:160",#[⟨4,.data⟩],none⟩) rfl (fun K hK=>?_);go_simp;refine hK.out _ _ (KS.out _ bb.out) (fun hHeld=>?_);clear hK K;refine rdH (k:=7) (o:=⟨some 17,.call { callee:=.value (.func 31),args:=#[.tmp 10,.tmp 15,.tmp 16],argTypes:=#[67,60,76] },0, "join.go:160",#[⟨0,.data⟩,⟨5,.data⟩,⟨6,.data⟩],none⟩) rfl (fun K hK=>?_);go_simp;rw[bm.out,bk.out];refine CE.out.mono ?_;rintro e wE ⟨rfl,T,sE,mE,t1,t2,t3,t4,t5⟩;have bn:=zA t5.fr;obtain⟨lv,u1,u2,u3⟩:=t5.ex;have hF:=ai.out wE T sE mE t1 t2 t3 t4 t5 lv u1;have HF:=zA hF;have am:wE.ownsRow 0 3 1 lv M.length (M.flatMap csI):=by
  rcases u3 with⟨x,_⟩|⟨_,x⟩
  . simp at x
  . exact x
 obtain⟨la,lc,aN⟩:=jab am;obtain⟨nM,aS⟩:=eX M.length;rw[<- aS]at aN bg;subst aN;rw[<- aS]at HF;obtain⟨k1,k2,k3,k4,k5,k6⟩:=KC.out wE bn.out;have k7:wE.cell? ⟨w.heap.size+3,0,none⟩=some (.slice la nM lc):=by simp[World.cell?,u1]
 have a1:wE.cell? ⟨w.heap.size,0,none⟩=some (.slice (some ⟨hb,0,none⟩) nr ag)/\wE.cell? ⟨w.heap.size+1,0,none⟩=some (.pointer (some ⟨sb,0,none⟩))/\wE.cell? ⟨hb,a,none⟩=some (.slice aa na ac):=⟨k1,k2,k4⟩
 refine hK.out _ _ a1 (fun hHeld=>?_);clear hK K t1 t2 t3 t4 t5 u1 u2 u3 hF am aS a1;refine wpAnyH_done (by kernel_rfl) ?_ _;by_cases aw:nM=nb
 . have HX:=zA (HF.out.1 aw);subst aw;clear HF;go_wp2_with fail;go_region;go_wp2;exact HX.out
 . have HX:=zA (HF.out.2 aw);have hne1:¬(nM:Int)=(nb:Int):=by omega
   have hne2:((nM:Int)==(nb:Int))=false:=by simp;omega
   clear HF;go_wp2_with fail;go_region;go_wp2;exact HX.out
end Go.Proofs.YtkbgmcmcpbegjaaGreatDoor
