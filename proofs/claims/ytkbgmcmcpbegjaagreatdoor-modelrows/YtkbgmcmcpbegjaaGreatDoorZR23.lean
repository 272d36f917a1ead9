/- BAddA, MSame, MMay. -/
import Derived.Test.YtkbgmcmcpbegjaaGreatDoorZR22
import Derived.Test.YtkbgmcmcpbegjaaGreatDoorZR14
import Derived.Test.YtkbgmcmcpbegjaaGreatDoorZR17
import Derived.Test.YtkbgmcmcpbegjaaGreatDoorZR12
set_option maxRecDepth 100000
set_option maxHeartbeats 40000000
namespace Go.Proofs.YtkbgmcmcpbegjaaGreatDoor
open Go.RowKit
def jaM(c:Prt->Prt->Prt)(e:Bool)(l:List Vt):Prt:=(l.map fun x=>jay x.pt).foldl c (prt0 e)
theorem jfA{c:Prt->Prt->Prt}{e:Bool}{l:List Vt}{i:Nat}{x:Vt}(h:l[i]?=some x):jaM c e (l.take (i+1))=c (jaM c e (l.take i)) (jay x.pt):=by
 unfold jaM;rw[zS,h,yG,List.foldl_append];rfl
theorem jex{c:Prt->Prt->Prt}(hc:∀x y,(c x y).words=x.words++y.words){e:Bool}(l:List Vt):(jaM c e l).words.length=(l.map fun x=>jap x.pt).sum:=by
 unfold jaM;rw[jcF hc];simp only[prt0,List.nil_append,List.length_flatten,List.map_map];congr 1;apply yR;intro x _;exact jci x.pt
theorem jez{l:List Vt}{i:Nat}{x:Vt}(h:l[i]?=some x):((l.take i).map fun x=>jap x.pt).sum+jap x.pt<=(l.map fun x=>jap x.pt).sum:=by
 have:l.take i++(x::l.drop (i+1))=l:=by
  have h2:l.drop i=x::l.drop (i+1):=by
   rw[List.drop_eq_getElem_cons (zE.1 h).1];rw[(zE.1 h).2]
  rw[<- h2,List.take_append_drop]
 conv=>rhs;rw[<- this]
 rw[yG,List.sum_append,List.map_cons,List.sum_cons];omega
theorem jjk{S:Nat->Prop}{w W1 wr w1:World}{mb kb b hi:Nat}{ws:List Wd}{F:Nat->Nat}{wv c0 c1 c2:Value}(o ok:Obj)(hS:Low S w)(hsz:W1.heap.size=hi)(hb:b+1=hi)(hwb:w.heap.size<=b)(hFW:Fr S w W1)
 (hfr:Fr (Plus S w.heap.size b) W1 wr) (hfr1:Fr (Plus S w.heap.size hi) (wr.alloc ok) w1) (hm:MkAt (Plus S w.heap.size hi) w1 mb kb ws F wv) (hkb:S kb):
 MkAt (Plus S w.heap.size hi) ((set3P w1 b c0 c1 c2).alloc o) mb kb ws F wv/\Fr (Plus S w.heap.size b) W1 ((set3P w1 b c0 c1 c2).alloc o):=by
 have hk:=hS kb hkb;have aa:Low (Plus S w.heap.size b) W1:=fun k hk=>by
  rcases hk with hk|hk
  . have:=hS k hk;have:=hFW.size;omega
  . omega
 have ab:Low (Plus S w.heap.size hi) w1:=fun k hk=>by
  have h1:=hfr1.size;have h2:=hfr.size;simp at h1;rcases hk with hk|hk
  . have:=hS k hk;have:=hFW.size;omega
  . omega
 have ac:=hm.set3P (b:=b) (.inr ⟨hwb,by omega⟩) (by omega) c0 c1 c2;have hz:(set3P w1 b c0 c1 c2).heap.size=w1.heap.size:=by simp[Go.Proofs.YtkbgmcmcpbegjaaGreatDoor.set3P]
 refine⟨ac.below (fun k hk=>by rw[hz];exact ab k hk) ((zF _ _).alloc (zD _) o),?_⟩;refine Fr.alloc (Fr.set3P ((hfr.alloc aa ok).trans (hfr1.sub (fun k hk=>?_))) (fun h=>?_) c0 c1 c2) aa o
 . rcases hk with hk|hk
   . exact .inl hk
   . exact .inr ⟨hk.1,by omega⟩
 . rcases h with h|h
   . have:=hS _ h;omega
   . omega
theorem jit{k:Int}{wd:Wd}{v:Value}{kids:List Vt}(hx:∀x∈kids,AddF 53 x):AddG 83 ⟨k,wd,v,kids⟩ (jaM altC false kids) ((kids.map fun x=>jap x.pt).sum):=by
 intro S w mb kb ws ps F wv hS hm hf hv hl;obtain⟨ao,aq,a2⟩:=hv.parts.1.slice;have ba:=hv.parts.2.2.1;dsimp only at a2 ba;subst a2;have HX:=zA hx;have aa:=zA hv.parts.1;have aZ:=zA hv.parts.2.2.2;dsimp only at aa aZ;obtain⟨n,hn⟩:=eX kids.length;rw[<- hn]at aa ba ⊢;have HN:=zA hn;obtain⟨W1,ag⟩:=eX (((w.alloc (.cells #[.int .i64 k,.string ⟨wd.toArray⟩,.slice ao n aq] 25)).alloc (.cells #[.int .u32 0,.int .u32 0,.bool false] 103)).alloc (.cells #[.int .u32 0,.int .u32 0,.bool false] 103));have aA:Below w.heap.size w W1:=by rw[ag];exact(((zF _ _).alloc (zD _) _).alloc (by simp) _).alloc (by simp;omega) _
 have a6:W1.heap.size=w.heap.size+2+1:=by rw[ag];simp
 have al:W1.heap[w.heap.size+1]?=some (.cells #[.int .u32 0,.int .u32 0,.bool false] 103 (0,0)):=by
  rw[ag,heap_alloc_old _ _ (by simp)];exact(by simpa using heap_alloc_new (w.alloc (.cells #[.int .i64 k,.string ⟨wd.toArray⟩,.slice ao n aq] 25)) _)
 have aj:W1.heap[w.heap.size+2]?=some (.cells #[.int .u32 0,.int .u32 0,.bool false] 103 (0,0)):=by
  rw[ag];exact(by simpa using heap_alloc_new ((w.alloc (.cells #[.int .i64 k,.string ⟨wd.toArray⟩,.slice ao n aq] 25)).alloc (.cells #[.int .u32 0,.int .u32 0,.bool false] 103)) _)
 have bh:=zA (hm.plus hS aA (w.heap.size+2+1));have ah:Fr S w W1:=jaK hS aA;have aV:Hid (ws.length+(kids.map fun x=>jap x.pt).sum<=24):=zA hl;have aU:=zA hm.sk;have bc:=zA ag;have aJ:=zA ah;have aE:=zA al;have aS:=zA aj;have bk:=zA a6;have af:=zA hS;have HF:=zA hf;obtain⟨R,hR⟩:=eX (jaM altC false kids);rw[<- hR];have HR:=zA hR;clear hv hm hf hl hx aA a6 al aj ah ag hS hn hR;show Calls Tryz.prog _ #[_,.agg #[.int .i64 k,.string ⟨wd.toArray⟩,.slice ao n aq]] w _;go_enter Tryz.func83,Tryz.ntmps83;go_wp2_with fail;rw[<- bc.out];go_loopw [12] (fun c wr=>∃(i f l:Nat) (G:Nat->Nat) (wu:Value),i<=n/\c=.int .i64 i/\jaA f (up ws.length (jaM altC false (kids.take i)).first)/\jaA l (up ws.length (jaM altC false (kids.take i)).last)/\MkAt (Plus S w.heap.size (w.heap.size+2+1)) wr mb kb (ws++(jaM altC false (kids.take i)).words) G wu/\jda G (ps++upP ws.length (jaM altC false (kids.take i)).pairs)/\
  wr.heap[w.heap.size+2]?=some (.cells #[.int .u32 (f:Int),.int .u32 (l:Int),.bool (jaM altC false (kids.take i)).empty] 103 (0,0))/\Fr (Plus S w.heap.size (w.heap.size+2)) W1 wr) (fun c _=>n-(intOf c).toNat)
 case atStart=>
  refine⟨0,0,0,F,wv,zO _,rfl,?_,?_,?_,?_,?_,Fr.refl _ _⟩
  . exact jaA.none.congr (fun k=>by simp[jaM,prt0,up])
  . exact jaA.none.congr (fun k=>by simp[jaM,prt0,up])
  . simpa[jaM,prt0]using bh.out
  . exact HF.out.congr (fun p=>by simp[jaM,prt0,upP])
  . exact aS.out
 case round=>
  obtain⟨i,f,l,G,wu,hi,rfl,aC,aF,av,aB,ap,aP⟩:=hrel;obtain⟨X,hX⟩:=eX (jaM altC false (kids.take i));rw[<- hX]at aC aF av aB ap;have a1:X.words.length=((kids.take i).map fun x=>jap x.pt).sum:=by rw[hX];exact jex (fun _ _=>rfl) _
  obtain⟨em,aD⟩:=eX X.empty;rw[<- aD]at ap;have a5:=zA aD;have aY:=zA hX;have ay:=zA aC;have aT:=zA aF;have a4:=zA av;have a0:=zA aB;have az:=zA ap;have aR:=zA aP;have bd:=zA a1;have a7:Hid (Fr S w wr):=zA (aJ.out.trans (aP.sub (fun k hk=>.inl hk)));clear hX aC aF av aB ap aP a1 aD;by_cases hlt:i<n
  . have aw:(i:Int)<(n:Int):=by omega
    obtain⟨x,hx⟩:∃x,kids[i]?=some x:=⟨_,zB (by rw[<- HN.out];exact hlt)⟩
    have aL:=zC hx;obtain⟨g,off,rfl,hgS,hgl,ac⟩:=(aa.out.fr a7.out).get hx;obtain⟨q0,q1,q2⟩:=getN ac;have an:=(aZ.out x aL).fr a7.out;obtain⟨xa,xc,a9⟩:=an.parts.1.slice;have aI:=jez hx;have ab:=jfA (c:=altC) (e:=false) hx;have ai:=HX.out x aL;obtain⟨Y,hY⟩:=eX (jay x.pt);have bm:Y.words.length=jap x.pt:=by rw[hY];exact jci _
    have aN:=an.parts.2.2.1;have ax:w.heap.size+2<wr.heap.size:=lt_of_block az.out;have ar:Low (Plus S w.heap.size (w.heap.size+2+1)) wr:=fun k hk=>by
     rcases hk with hk|hk
     . have:=af.out k hk;omega
     . omega
    obtain⟨ok,au⟩:=eX (Obj.cells #[.int .i64 x.kind,.string ⟨x.word.toArray⟩,x.val] 25);have hC:=ai (Plus S w.heap.size (w.heap.size+2+1)) (wr.alloc ok) mb kb (ws++X.words) (ps++upP ws.length X.pairs) G wu (fun k hk=>by have:=ar k hk;simp;omega) (a4.out.below ar ((zF _ _).alloc (zD _) ok)) a0.out ((an.below ((zF _ _).alloc (zD _) ok)).sub (fun b hb _=>.inl hb)) (by
     have h1:=bd.out;have h2:=aV.out;rw[zG];omega)
    rw[<- hY]at hC ab;obtain⟨kk,kw,kv,kks⟩:=x;dsimp only at a9 q0 q1 q2 au aN;subst a9;have C:=zA hC;rw[au]at C;have HOK:=zA au;have ak:=zA ab;have HLR:=zA ar;clear hx aL ac an aI ab ai hY bm hC au ar;go_wp2_with fail;refine C.out.mono ?_;rintro e w1 ⟨f2,l2,F2,bg,rfl,aG,aQ,a8,a3,ae⟩;have e2:=(ae.block (w.heap.size+2) (.inr ⟨by omega,by omega⟩)).trans ((heap_alloc_old _ _ ax).trans az.out);have aK:w.heap.size+2<w1.heap.size:=lt_of_block e2;obtain⟨⟨r0,r1,r2⟩,⟨p0,p1,p2⟩⟩:=jag e2;have bb:bits .or .u32 (f:Int) (f2:Int)=((f ||| f2:Nat):Int):=u32_or_nat f f2 (by have:=ay.out.1;omega) (by have:=aG.1;omega);have bl:bits .or .u32 (l:Int) (l2:Int)=((l ||| l2:Nat):Int):=u32_or_nat l l2 (by have:=aT.out.1;omega) (by have:=aQ.1;omega);obtain⟨f3,aH⟩:=eX (f ||| f2);obtain⟨l3,aO⟩:=eX (l ||| l2);rw[<- aH]at bb;rw[<- aO]at bl;obtain⟨ey,aM⟩:=eX Y.empty;rw[<- aM];have am:∀b,b=(em||ey)->(∃(f l:Nat) (G:Nat->Nat) (wu:Value),Value.int .u32 (f3:Int)=.int .u32 (f:Int)/\jaA f (up ws.length (jaM altC false (kids.take (i+1))).first)/\jaA l (up ws.length (jaM altC false (kids.take (i+1))).last)/\MkAt (Plus S w.heap.size (w.heap.size+2+1)) ((set3P w1 (w.heap.size+2) (.int .u32 (f3:Int)) (.int .u32 (l3:Int)) (.bool b)).alloc (.cells #[.int .u32 (f2:Int),.int .u32 (l2:Int),.bool ey] 103)) mb kb (ws++(jaM altC false (kids.take (i+1))).words) G wu/\jda G (ps++upP ws.length (jaM altC false (kids.take (i+1))).pairs)/\
     ((set3P w1 (w.heap.size+2) (.int .u32 (f3:Int)) (.int .u32 (l3:Int)) (.bool b)).alloc (.cells #[.int .u32 (f2:Int),.int .u32 (l2:Int),.bool ey] 103)).heap[w.heap.size+2]?=some (.cells #[.int .u32 (f:Int),.int .u32 (l:Int),.bool (jaM altC false (kids.take (i+1))).empty] 103 (0,0))/\Fr (Plus S w.heap.size (w.heap.size+2)) W1 ((set3P w1 (w.heap.size+2) (.int .u32 (f3:Int)) (.int .u32 (l3:Int)) (.bool b)).alloc (.cells #[.int .u32 (f2:Int),.int .u32 (l2:Int),.bool ey] 103))):=fun b hbe=>by
     obtain⟨bi,bf⟩:=jjk (c0:=.int .u32 (f3:Int)) (c1:=.int .u32 (l3:Int)) (c2:=.bool b) (.cells #[.int .u32 (f2:Int),.int .u32 (l2:Int),.bool ey] 103) _ af.out bk.out rfl (by omega) aJ.out aR.out ae a8 aU.out;rw[ak.out,<- aY.out];refine⟨f3,l3,F2,bg,rfl,?_,?_,?_,?_,?_,bf⟩
     . rw[aH];exact(ay.out.or aG).congr (fun k=>by rw[altC,jdl,jiR,zG])
     . rw[aO];exact(aT.out.or aQ).congr (fun k=>by rw[altC,jdl,jiR,zG])
     . rw[show (altC X Y).words=X.words++Y.words from rfl,<- List.append_assoc];exact bi
     . exact a3.congr (fun p=>by rw[altC,jcy,jjp,zG,List.append_assoc])
     . have hz:(set3P w1 (w.heap.size+2) (.int .u32 (f3:Int)) (.int .u32 (l3:Int)) (.bool b)).heap.size=w1.heap.size:=by simp[set3P]
       rw[heap_alloc_old _ _ (by rw[hz];exact aK),hbe,a5.out,aM];exact ja8 e2
    have ad:=zA am;clear am aG aQ a8 a3 ae e2 aH aO aM C;unfold set3P at ad;cases em with
    |true=>
     go_wp2;go_roundw
     case rel=>
      obtain⟨f,l,G,wu,_,h1,h2,h3,h4,h5,h6⟩:=ad.out true rfl;exact⟨i+1,f,l,G,wu,by omega,by go_num,h1,h2,h3,h4,h5,h6⟩
     case measure=>simp[intOf];omega
    |false=>
     go_wp2;go_roundw
     case rel=>
      obtain⟨f,l,G,wu,_,h1,h2,h3,h4,h5,h6⟩:=ad.out ey (by simp);exact⟨i+1,f,l,G,wu,by omega,by go_num,h1,h2,h3,h4,h5,h6⟩
     case measure=>simp[intOf];omega
  . have aw:¬(i:Int)<(n:Int):=by omega
    have bj:Hid (X=R):=zA (by rw[aY.out,HR.out,zJ (by rw[<- HN.out];omega)]);have e1:=(aR.out.block (w.heap.size+1) (.inr ⟨by omega,by omega⟩)).trans aE.out;obtain⟨⟨r0,r1,r2⟩,⟨p0,p1,p2⟩⟩:=jag e1;obtain⟨⟨s0,s1,s2⟩,_⟩:=jag az.out;obtain⟨aW,aX⟩:=jbp (b:=w.heap.size+1) (hi:=w.heap.size+2) (c0:=.int .u32 (f:Int)) (c1:=.int .u32 (l:Int)) (c2:=.bool em) af.out aJ.out aR.out (a4.out.sub (fun k hk=>by
     rcases hk with hk|hk
     . exact .inl hk
     . exact .inr ⟨hk.1,by omega⟩) (.inl aU.out)) aU.out (by omega) (by omega)
    have hE:AddE S w mb kb ws ps R (.returned (ptV f l em)) (set3P wr (w.heap.size+1) (.int .u32 (f:Int)) (.int .u32 (l:Int)) (.bool em)):=by
     rw[<- bj.out];exact⟨f,l,G,wu,by rw[a5.out],ay.out,aT.out,aW,a0.out,aX⟩
    obtain⟨⟨z0,z1,z2⟩,_⟩:=jag (ja8 (c0:=.int .u32 (f:Int)) (c1:=.int .u32 (l:Int)) (c2:=.bool em) e1);have HE:=zA hE;have Z0:=zA z0;have Z1:=zA z1;have Z2:=zA z2;clear hE z0 z1 z2 aW aX e1;unfold set3P at HE Z0 Z1 Z2;go_wp2;refine bodyPost_ret (v:=ptV f l em) ?_ rfl HE.out;simp[results,Tryz.results83,go_sem,Z0.out,Z1.out,Z2.out]
end Go.Proofs.YtkbgmcmcpbegjaaGreatDoor
namespace Go.Proofs.YtkbgmcmcpbegjaaGreatDoor
open Go.RowKit Go.Shelf
theorem je9{S T:Nat->Prop}{w:World}{v1 v2:Value}{L1 L2:List Wd}(h1:TxtS S w v1 L1)(h2:TxtS T w v2 L2)(hl1:L1.length<=100000000):
 Calls Tryz.prog 14 #[v1,v2] w fun e w'=>e=.returned (.bool (decide (L1=L2)))/\Below w.heap.size w w':=by
 obtain⟨a1,c1,rfl⟩:=h1.slice;obtain⟨a2,c2,rfl⟩:=h2.slice;have H1:=zA h1;have H2:=zA h2;obtain⟨n1,af⟩:=eX L1.length;obtain⟨n2,ad⟩:=eX L2.length;rw[<- af]at H1 hl1 ⊢;rw[<- ad]at H2 ⊢;have ag:=zA af;have ab:=zA ad;obtain⟨r,hr⟩:=eX (decide (L1=L2));rw[<- hr];have HR:=zA hr;clear h1 h2 af ad hr;by_cases hnn:(n1:Int)=(n2:Int)
 . obtain rfl:n1=n2:=by omega
   clear hnn;go_enter Tryz.func14,Tryz.ntmps14;go_wp2_with fail;go_loopw [5] (fun c wr=>∃i:Nat,i<=n1/\c=.int .i64 i/\L1.take i=L2.take i/\Below w.heap.size w wr) (fun c _=>n1-(intOf c).toNat)
   case atStart=>exact⟨0,zO _,rfl,rfl,zF _ _⟩
   case round=>
    obtain⟨i,hi,rfl,ai,al⟩:=hrel;have aa:=zA al;have ah:=zA ai;clear al ai;by_cases hlt:i<n1
    . have ac:(i:Int)<(n1:Int):=by omega
      obtain⟨x,hx⟩:∃x,L1[i]?=some x:=⟨_,zB (by rw[<- ag.out];exact hlt)⟩
      obtain⟨y,hy⟩:∃y,L2[i]?=some y:=⟨_,zB (by rw[<- ab.out];exact hlt)⟩
      obtain⟨g1,o1,e1,_,_,aj⟩:=(H1.out.below aa.out).get hx;obtain⟨g2,o2,e2,_,_,ak⟩:=(H2.out.below aa.out).get hy;subst e1 e2;have q1:=aj 0 _ rfl;have q2:=ak 0 _ rfl;rw[yC,yA]at q1 q2;have HX:=zA (And.intro hx hy);clear hx hy aj ak;by_cases exy:x=y
      . have am:Hid (L1.take (i+1)=L2.take (i+1)):=zA (by rw[zS,zS,HX.out.1,HX.out.2,ah.out,exy]);subst exy;go_wp2_with fail;go_quiet (fail);have ae:=zA (jau aa.out nq);go_wp2;go_roundw
        case rel=>exact⟨i+1,by omega,by go_num,am.out,ae.out⟩
        case measure=>simp[intOf];omega
      . obtain⟨e1,e2⟩:=jbW exy;have HT:Hid (r=false):=zA (by
         rw[HR.out];refine decide_eq_false (fun h=>exy ?_);have:=HX.out;rw[h]at this;rw[this.1]at this;injection this.2)
        clear exy;go_wp2_with fail;go_quiet (fail);have ae:=zA (jau aa.out nq);go_wp2;go_ret;exact⟨by rw[HT.out];rfl,ae.out⟩
    . have ac:¬(i:Int)<(n1:Int):=by omega
      have HT:Hid (r=true):=zA (by
       rw[HR.out];refine zU ?_;have h:=ah.out;rw[zJ (by rw[<- ag.out];omega),zJ (by rw[<- ab.out];omega)]at h;exact h)
      go_wp2;go_ret;exact⟨by rw[HT.out];rfl,aa.out⟩
 . obtain⟨e1,e2⟩:=jaj hnn;have HT:Hid (r=false):=zA (by
    rw[HR.out];refine decide_eq_false (fun h=>hnn ?_);rw[ag.out,ab.out,h])
   clear hnn;go_enter Tryz.func14,Tryz.ntmps14;go_wp2;go_ret;exact⟨by rw[HT.out];rfl,zF _ _⟩
theorem jb8{w:World}{v1 v2:Value}{L1 L2:List Rw}(h1:jbq w v1 L1)(h2:jbq w v2 L2)(hl1:L1.length<=1000000000):
 Calls Tryz.prog 13 #[v1,v2] w fun e w'=>e=.returned (.bool (decide (L1=L2)))/\Below w.heap.size w w':=by
 obtain⟨r1,ag,m1⟩:=h1;obtain⟨r2,aj,m2⟩:=h2;obtain⟨a1,c1,e1,_⟩:=ag.cap;obtain⟨a2,c2,e2,_⟩:=aj.cap;subst e1 e2;have H1:=zA ag;have H2:=zA aj;obtain⟨n1,ac⟩:=eX r1.length;obtain⟨n2,ad⟩:=eX r2.length;have ah:Hid (n1=L1.length):=zA (by rw[ac,<- m1,zH]);have am:Hid (n2=L2.length):=zA (by rw[ad,<- m2,zH]);have hnb:n1<=1000000000:=by rw[ah.out];exact hl1
 rw[<- ac]at H1 ⊢;rw[<- ad]at H2 ⊢;have ax:=zA ac;have av:=zA ad;have aw:=zA m1;have az:=zA m2;obtain⟨r,hr⟩:=eX (decide (L1=L2));rw[<- hr];have HR:=zA hr;clear ag aj ac ad hr m1 m2 hl1;by_cases hnn:(n1:Int)=(n2:Int)
 . obtain rfl:n1=n2:=by omega
   clear hnn;go_enter Tryz.func13,Tryz.ntmps13;go_wp2_with fail;go_loopw [5] (fun c wr=>∃i:Nat,i<=n1/\c=.int .i64 i/\L1.take i=L2.take i/\Below w.heap.size w wr) (fun c _=>n1-(intOf c).toNat)
   case atStart=>exact⟨0,zO _,rfl,rfl,zF _ _⟩
   case round=>
    obtain⟨i,hi,rfl,an,au⟩:=hrel;have af:=zA au;have al:=zA an;clear au an;by_cases hlt:i<n1
    . have ae:(i:Int)<(n1:Int):=by omega
      obtain⟨⟨xv,x⟩,hx⟩:∃x,r1[i]?=some x:=⟨_,zB (by rw[<- ax.out];exact hlt)⟩
      obtain⟨⟨yv,y⟩,hy⟩:∃y,r2[i]?=some y:=⟨_,zB (by rw[<- av.out];exact hlt)⟩
      have aq:L1[i]?=some x:=by rw[<- aw.out,zI,hx];rfl
      have ap:L2[i]?=some y:=by rw[<- az.out,zI,hy];rfl
      have k1:=H1.out.rows _ (zC hx);have k2:=H2.out.rows _ (zC hy);obtain⟨g1,o1,e1,_,l1,ao⟩:=H1.out.src.sl.get hx;obtain⟨g2,o2,e2,_,l2,ar⟩:=H2.out.src.sl.get hy;subst e1 e2;have q1:=ao 0 _ rfl;have q2:=ar 0 _ rfl;rw[yC,yA]at q1 q2;obtain⟨z,hz⟩:=eX (decide (x=y));have KC:Hid (∀u,Below w.heap.size w u->u.cell? ⟨g1,o1+i,none⟩=some xv/\u.cell? ⟨g2,o2+i,none⟩=some yv):=zA (fun u hu=>⟨(hu.cell (p:=⟨g1,o1+i,none⟩) l1).trans q1,(hu.cell (p:=⟨g2,o2+i,none⟩) l2).trans q2⟩);have C:Hid (∀u,Below w.heap.size w u->Calls Tryz.prog 14 #[xv,yv] u fun e w'=>e=.returned (.bool z)/\Below u.heap.size u w'):=zA (fun u hu=>by rw[hz];exact je9 (k1.1.below hu) (k2.1.below hu) (by have:=k1.2;dsimp only at this ⊢;omega));have ai:=zA (And.intro aq ap);have HZ:=zA hz;have aa:Hid (Below w.heap.size w wr.drew):=zA af.out.drew;clear hx hy aq ap k1 k2 ao ar q1 q2 hz;obtain⟨q1,q2⟩:=KC.out _ af.out;cases z with
      |true=>
       have ay:Hid (L1.take (i+1)=L2.take (i+1)):=zA (by rw[zS,zS,ai.out.1,ai.out.2,al.out,of_decide_eq_true HZ.out.symm]);go_wp2_with fail;go_region_held3 (fun u=>u.cell? ⟨g1,o1+i,none⟩=some xv/\u.cell? ⟨g2,o2+i,none⟩=some yv)
        (first|with_reducible exact KC.out _ aa.out|with_reducible exact KC.out _ h4)
        (first|(go_at_call 14;with_reducible refine (C.out _ aa.out).mono ?_;rintro e w4 ⟨rfl,ab⟩;have h4:=aa.out.trans (ab.mono aa.out.size)))
       all_goals (
        have ak:=zA h4;clear h4 ab;go_wp2;go_roundw
        case rel=>exact⟨i+1,by omega,by go_num,ay.out,ak.out⟩
        case measure=>simp[intOf];omega)
      |false=>
       have HT:Hid (r=false):=zA (by
        rw[HR.out];refine decide_eq_false (fun h=>of_decide_eq_false HZ.out.symm ?_);have:=ai.out;rw[h]at this;rw[this.1]at this;injection this.2)
       go_wp2_with fail;go_region_held3 (fun u=>u.cell? ⟨g1,o1+i,none⟩=some xv/\u.cell? ⟨g2,o2+i,none⟩=some yv)
        (first|with_reducible exact KC.out _ aa.out|with_reducible exact KC.out _ h4)
        (first|(go_at_call 14;with_reducible refine (C.out _ aa.out).mono ?_;rintro e w4 ⟨rfl,ab⟩;have h4:=aa.out.trans (ab.mono aa.out.size)))
       all_goals (
        have ak:=zA h4;clear h4 ab;go_wp2;go_ret;exact⟨by rw[HT.out];rfl,ak.out⟩)
    . have ae:¬(i:Int)<(n1:Int):=by omega
      have HT:Hid (r=true):=zA (by
       rw[HR.out];refine zU ?_;have h:=al.out;rw[zJ (by rw[<- ah.out];omega),zJ (by rw[<- am.out];omega)]at h;exact h)
      go_wp2;go_ret;exact⟨by rw[HT.out];rfl,af.out⟩
 . obtain⟨e1,e2⟩:=jaj hnn;have HT:Hid (r=false):=zA (by
    rw[HR.out];refine decide_eq_false (fun h=>hnn ?_);rw[ah.out,am.out,h])
   clear hnn;go_enter Tryz.func13,Tryz.ntmps13;go_wp2;go_ret;exact⟨by rw[HT.out];rfl,zF _ _⟩
theorem jdJ{t:Pt}(h:mayP t=true):jap t<=24/\high t<=12:=by
 simp only[mayP,Bool.and_eq_true,decide_eq_true_eq]at h;exact⟨h.2,jeb 12 t h.1⟩
theorem jhT{l:List Wd}{t:Tm}{s:Wd}(h:s∈addN l t):s∈l\/s=t.2:=by
 unfold addN at h;split at h
 . rcases zL.1 h with h|h
   . exact .inl h
   . simp at h;exact .inr h
 . exact .inl h
theorem jiv{l:List Pa}{s:Wd}(h:s∈jai l):∃a∈l,s=a.1.2\/s=a.2.2.2:=by
 have aa:∀(l:List Pa) (n:List Wd),s∈l.foldl (fun n a=>addN (addN n a.1) a.2.2) n->s∈n\/∃a∈l,s=a.1.2\/s=a.2.2.2:=by
  intro l;induction l with
  |nil=>intro n h;exact .inl h
  |cons a l ih=>
   intro n h;rw[yN]at h;rcases ih _ h with h|⟨b,hb,h⟩
   . rcases jhT h with h|h
     . rcases jhT h with h|h
       . exact .inl h
       . exact .inr ⟨a,zN ..,.inl h⟩
     . exact .inr ⟨a,zN ..,.inr h⟩
   . exact .inr ⟨b,zR _ hb,h⟩
 rcases aa l [] h with h|h
 . simp at h
 . exact h
theorem jig{S:Nat->Prop}{w:World}{v:Value}{L:List Wd}(h:TxtS S w v L)(hc:CapS v L.length)(hl:L.length<=1000000):
 Calls Tryz.prog 80 #[v] w fun e w'=>e=.returned (.bool (decide (¬L.Nodup)))/\Below w.heap.size w w':=by
 obtain⟨la,lc,rfl,ah⟩:=hc;have H:=zA h;obtain⟨n,hn⟩:=eX L.length;rw[<- hn]at H hl ah ⊢;have HN:=zA hn;obtain⟨r,hr⟩:=eX (decide (¬L.Nodup));rw[<- hr];have HR:=zA hr;clear h hn hr;go_enter Tryz.func80,Tryz.ntmps80;go_wp2_with fail;go_loopw [3] (fun c wr=>∃i:Nat,i<=n/\c=.int .i64 i/\(L.take i).Nodup/\Below w.heap.size w wr) (fun c _=>n-(intOf c).toNat)
 case atStart=>exact⟨0,zO _,rfl,by simp,zF _ _⟩
 case round=>
  obtain⟨i,hi,rfl,af,ag⟩:=hrel;have ae:=zA af;have ab:=zA ag;clear af ag;by_cases hlt:i<n
  . have ac:(i:Int)<(n:Int):=by omega
    obtain⟨x,hx⟩:∃x,L[i]?=some x:=⟨_,zB (by rw[<- HN.out];exact hlt)⟩
    obtain⟨g,aj,ai,_,_,aa⟩:=(H.out.below ab.out).get hx;subst ai;have q0:=aa 0 _ rfl;rw[yC,yA]at q0;have hilc:(i:Int)<=(lc:Int):=by omega
    obtain⟨z,hz⟩:=eX (decide (x∈L.take i));have C:Hid (∀u,Below w.heap.size w u->Calls Tryz.prog 69 #[.slice (some ⟨g,aj,none⟩) i lc,.string ⟨x.toArray⟩] u fun e w'=>e=.returned (.bool z)/\w'=u):=zA (fun u hu=>by rw[hz];exact jcO (jjw (H.out.below hu) (by rw[<- HN.out];omega)) (by rw[zX];omega) x);have HX:=zA hx;have HZ:=zA hz;clear hx aa hz;cases z with
    |true=>
     have HT:Hid (r=true):=zA (by rw[HR.out];exact zU (jgB HX.out (of_decide_eq_true HZ.out.symm)));go_wp2_with fail;go_quiet (first|(go_at_call 69;exact Calls.quiet_of_same (C.out _ (jau ab.out _))));have ad:=zA (jau ab.out nq);go_wp2;go_ret;exact⟨by rw[HT.out];rfl,ad.out⟩
    |false=>
     have HT:Hid ((L.take (i+1)).Nodup):=zA (jfn HX.out ae.out (of_decide_eq_false HZ.out.symm));go_wp2_with fail;go_quiet (first|(go_at_call 69;exact Calls.quiet_of_same (C.out _ (jau ab.out _))));have ad:=zA (jau ab.out nq);go_wp2;go_roundw
     case rel=>exact⟨i+1,by omega,by go_num,HT.out,ad.out⟩
     case measure=>simp[intOf];omega
  . have ac:¬(i:Int)<(n:Int):=by omega
    have HT:Hid (r=false):=zA (by
     rw[HR.out];refine decide_eq_false (fun h=>h ?_);have:=ae.out;rw[zJ (by rw[<- HN.out];omega)]at this;exact this)
    go_wp2;go_ret;exact⟨by rw[HT.out];rfl,ab.out⟩
theorem jjt{vars:List Wd}{l:List Pa}(hm:∀a∈l,mayP a.2.1=true)(hv:vars.length<=6)(hl:l.length<=6):whyQ vars l=if 6<(jai l).length then 2 else if ¬vars.Nodup then 1 else if ∃v∈vars,v∉jai l then 91 else 0:=by
 have h1:¬ ∃a∈l,mayP a.2.1=false:=by
  rintro⟨a,ha,h⟩;rw[hm a ha]at h;cases h
 unfold whyQ;rw[if_neg h1];by_cases h2:6<(jai l).length
 . rw[if_pos (.inr (.inr h2)),if_pos h2]
 . rw[if_neg (by omega),if_neg h2]
theorem jkH{S:Nat->Prop}{w:World}{q:Qm}(h:QOk S w q)(hm:∀a∈q.atoms,mayP a.2.1.pt=true)(hv6:q.vars.length<=6)(ha6:q.atoms.length<=6):
 Calls Tryz.prog 50 #[.agg #[.int .i64 1,q.vv,q.av,.slice none 0 0]] w fun e w'=>e=.returned (.int .i64 (whyQ q.vars (q.atoms.map Am.pa):Nat))/\Below w.heap.size w w':=by
 obtain⟨r,hr⟩:=eX (whyQ q.vars (q.atoms.map Am.pa));rw[<- hr];obtain⟨NM,aB⟩:=eX (jai (q.atoms.map Am.pa));have HR:Hid (r=if 6<NM.length then 2 else if ¬q.vars.Nodup then 1 else if ∃v∈q.vars,v∉NM then 91 else 0):=zA (by
  rw[hr,aB];refine jjt (fun a ha=>?_) hv6 (by rw[zH];exact ha6);obtain⟨b,hb,rfl⟩:=zV.1 ha;exact hm b hb)
 have aX:NM.length<=12:=by rw[aB];have:=je4 (q.atoms.map Am.pa);rw[zH]at this;omega
 have CN:Hid (∀u,Below w.heap.size w u->Calls Tryz.prog 38 #[.agg #[q.vv,q.av]] u fun e w'=>∃v,e=.returned v/\w'.ownsRow u.heap.size 9 1 v NM.length (NM.flatMap csT)/\Below u.heap.size u w'):=zA (fun u hu=>by rw[aB];exact jdA (h.below hu) (by omega));have CP:Hid (∀a∈q.atoms,∀u,Below w.heap.size w u->Calls Tryz.prog 22 #[encN a.2.1] u fun e w'=>e=.returned (.int .i64 (jap a.2.1.pt:Int))/\Below u.heap.size u w'):=zA (fun a ha u hu=>jeE a.2.1 u (by have:=(jdJ (hm a ha)).1;omega) ((h.ok a ha).below hu));have CD:Hid (∀a∈q.atoms,∀u,Below w.heap.size w u->Calls Tryz.prog 23 #[encN a.2.1] u fun e w'=>e=.returned (.int .i64 (high a.2.1.pt:Int))/\Below u.heap.size u w'):=zA (fun a ha u hu=>jjC a.2.1 u (by have:=(jdJ (hm a ha)).2;omega) ((h.ok a ha).below hu));have aV:Hid (∀a∈q.atoms,jap a.2.1.pt<=24/\high a.2.1.pt<=12):=zA (fun a ha=>jdJ (hm a ha));obtain⟨va,vc,aj,a4⟩:=h.vcap;obtain⟨aa,ac,ar⟩:=h.ats.slice;have CA:Hid (∀u,Below w.heap.size w u->Calls Tryz.prog 80 #[q.vv] u fun e w'=>e=.returned (.bool (decide (¬q.vars.Nodup)))/\Below u.heap.size u w'):=zA (fun u hu=>jig (h.vs.below hu) h.vcap (by omega));have HV:=zA h.vs;have HA:=zA h.ats;have a8:=zA h.ok;obtain⟨na,aC⟩:=eX q.atoms.length;obtain⟨nv,aD⟩:=eX q.vars.length;rw[<- aC]at ar ha6;rw[<- aD]at aj hv6 a4;rw[ar]at HA;rw[aj]at HV;rw[aj,ar]at CN;rw[aj]at CA;rw[aj,ar];have a5:=zA aC;have aP:=zA aD;obtain⟨nd,aM⟩:=eX (decide (¬q.vars.Nodup));rw[<- aM]at CA;have aN:=zA aM;clear h hm hr aB aj ar aC aD aM;obtain⟨o1,aG⟩:=eX (Obj.cells #[.int .i64 1,.slice va nv vc,.slice aa na ac,.slice none 0 0] 43);obtain⟨o2,aL⟩:=eX (Obj.cells #[.slice va nv vc,.slice aa na ac] 38);obtain⟨W1,ao⟩:=eX ((w.alloc o1).alloc o2);have ay:Below w.heap.size w W1:=by rw[ao];exact((zF _ _).alloc (zD _) _).alloc (by simp) _
 have aA:W1.heap[w.heap.size]?=some o1:=by rw[ao,heap_alloc_old _ _ (by simp),heap_alloc_new]
 have ax:W1.heap[w.heap.size+1]?=some o2:=by
  rw[ao];have h:=heap_alloc_new (w.alloc o1) o2;have e:(w.alloc o1).heap.size=w.heap.size+1:=by simp
  rw[e]at h;exact h
 rw[aG]at aA;rw[aL]at ax;have HC:Hid (∀u,Below W1.heap.size W1 u->(u.cell? ⟨w.heap.size,1,none⟩=some (.slice va nv vc)/\u.cell? ⟨w.heap.size,2,none⟩=some (.slice aa na ac)/\u.cell? ⟨w.heap.size,3,none⟩=some (.slice none 0 0))/\(u.cell? ⟨w.heap.size+1,0,none⟩=some (.slice va nv vc)/\u.cell? ⟨w.heap.size+1,1,none⟩=some (.slice aa na ac))):=zA (fun u hu=>by
  have h1:=(hu.block _ (lt_of_block aA)).trans aA;have h2:=(hu.block _ (lt_of_block ax)).trans ax;refine⟨?_,?_⟩
  . simp[World.cell?,h1]
  . simp[World.cell?,h2])
 have aW:Hid (W1=(w.alloc (.cells #[.int .i64 1,.slice va nv vc,.slice aa na ac,.slice none 0 0] 43)).alloc (.cells #[.slice va nv vc,.slice aa na ac] 38)):=zA (by rw[ao,aG,aL]);have HBW:=zA ay;have ae:Hid (∀u,Below W1.heap.size W1 u->Below w.heap.size w u):=zA (fun u hu=>ay.trans (hu.mono ay.size));clear aG aL ao ay aA ax;go_enter Tryz.func50,Tryz.ntmps50;go_wp2_with fail;rw[<- aW.out];go_loopw [4] (fun c wr=>∃i:Nat,i<=na/\c=.int .i64 i/\Below W1.heap.size W1 wr) (fun c _=>na-(intOf c).toNat)
 case atStart=>exact⟨0,zO _,rfl,zF _ _⟩
 case round=>
  obtain⟨i,hi,rfl,aO⟩:=hrel;have ag:=zA aO;clear aO;obtain⟨⟨c1,c2,c3⟩,⟨d0,d1⟩⟩:=HC.out _ ag.out;by_cases hlt:i<na
  . have aH:(i:Int)<(na:Int):=by omega
    obtain⟨a,ha⟩:∃x,q.atoms[i]?=some x:=⟨_,zB (by rw[<- a5.out];exact hlt)⟩
    have al:=zC ha;obtain⟨g,ai,a0,_,aJ,ab⟩:=HA.out.get ha;subst a0;obtain⟨q0,q1,q2,q3,q4,q5,q6⟩:=getA ab;have C1:=zA (CP.out a al);have C2:=zA (CD.out a al);obtain⟨lp,aE⟩:=eX (jap a.2.1.pt);obtain⟨hp,aK⟩:=eX (high a.2.1.pt);have aQ:=aV.out a al;rw[<- aE,<- aK]at aQ;rw[<- aE]at C1;rw[<- aK]at C2;obtain⟨pa,pc,aF⟩:=(a8.out a al).parts.1.slice;obtain⟨pn,aR⟩:=eX a.2.1.kids.length;rw[<- aR]at aF;obtain⟨⟨av,an⟩,⟨pk,pw,pv,pl⟩,⟨bv,bn⟩⟩:=a;dsimp only at q2 q3 q4 aF;subst aF;have KA:Hid (∀u,Below w.heap.size w u->u.cell? ⟨g,ai+i*7+2,none⟩=some (.int .i64 pk)/\u.cell? ⟨g,ai+i*7+3,none⟩=some (.string ⟨pw.toArray⟩)/\u.cell? ⟨g,ai+i*7+4,none⟩=some (.slice pa pn pc)):=zA (fun u hu=>⟨(hu.cell (p:=⟨g,ai+i*7+2,none⟩) aJ).trans q2,(hu.cell (p:=⟨g,ai+i*7+3,none⟩) aJ).trans q3,(hu.cell (p:=⟨g,ai+i*7+4,none⟩) aJ).trans q4⟩);have t1:¬(24:Int)<(lp:Int):=by omega
    have a9:decide ((24:Int)<(lp:Int))=false:=decide_eq_false t1;have t2:¬(12:Int)<(hp:Int):=by omega
    have aU:decide ((12:Int)<(hp:Int))=false:=decide_eq_false t2;clear ha al ab aE aK aR aQ q0 q1 q2 q3 q4 q5 q6;obtain⟨r0,r1,r2⟩:=KA.out _ (ae.out _ ag.out);go_wp2_with fail;refine(C1.out _ (ae.out _ ag.out)).mono ?_;rintro e w3 ⟨rfl,aq⟩;have ad:=zA (ag.out.trans (aq.mono ag.out.size));clear aq r0 r1 r2 c1 c2 c3 d0 d1;obtain⟨⟨c1,c2,c3⟩,⟨d0,d1⟩⟩:=HC.out _ ad.out;obtain⟨r0,r1,r2⟩:=KA.out _ (ae.out _ ad.out);go_wp2_with fail;refine(C2.out _ (ae.out _ ad.out)).mono ?_;rintro e w4 ⟨rfl,af⟩;have ah:=zA (ad.out.trans (af.mono ad.out.size));clear af r0 r1 r2 c1 c2 c3 d0 d1;go_wp2;go_roundw
    case rel=>exact⟨i+1,by omega,by go_num,ah.out⟩
    case measure=>simp[intOf];omega
  . have aH:¬(i:Int)<(na:Int):=by omega
    go_wp2_with fail;refine(CN.out _ (ae.out _ ag.out)).mono ?_;rintro e w3 ⟨v3,rfl,aw,aq⟩;obtain⟨n3,az⟩:=eX NM.length;rw[<- az]at aw aX HR;obtain⟨a3,k3,aT⟩:=jab aw;subst aT;have ad:=zA (ag.out.trans (aq.mono ag.out.size));have aY:=zA (Src.own jat aw az).sl;have aZ:=zA az;clear aw aq az c1 c2 c3 d0 d1;obtain⟨⟨c1,c2,c3⟩,⟨d0,d1⟩⟩:=HC.out _ ad.out;have t1:¬(6:Int)<(nv:Int):=by omega
    have a9:decide ((6:Int)<(nv:Int))=false:=decide_eq_false t1;have t2:¬(6:Int)<(na:Int):=by omega
    have aU:decide ((6:Int)<(na:Int))=false:=decide_eq_false t2;by_cases t3:(6:Int)<(n3:Int)
    . have a1:decide ((6:Int)<(n3:Int))=true:=zU t3;have HT:Hid (r=2):=zA (by rw[HR.out,if_pos (by omega)]);go_wp2;go_ret;exact⟨by rw[HT.out];rfl,ae.out _ ad.out⟩
    . have a1:decide ((6:Int)<(n3:Int))=false:=decide_eq_false t3;rw[if_neg (by omega)]at HR;cases nd with
      |true=>
       have HT:Hid (r=1):=zA (by rw[HR.out,if_pos (of_decide_eq_true aN.out.symm)]);go_wp2_with fail;refine(CA.out _ (ae.out _ ad.out)).mono ?_;rintro e w4 ⟨rfl,af⟩;have ah:=zA (ad.out.trans (af.mono ad.out.size));clear af c1 c2 c3 d0 d1;go_wp2;go_ret;exact⟨by rw[HT.out];rfl,ae.out _ ah.out⟩
      |false=>
       rw[if_neg (of_decide_eq_false aN.out.symm)]at HR;go_wp2_with fail;refine(CA.out _ (ae.out _ ad.out)).mono ?_;rintro e w4 ⟨rfl,af⟩;have a7:=zA (aY.out.below af);have ah:=zA (ad.out.trans (af.mono ad.out.size));clear af c1 c2 c3 d0 d1;obtain⟨⟨c1,c2,c3⟩,⟨d0,d1⟩⟩:=HC.out _ ah.out;obtain⟨wx,aI⟩:=eX w4;subst aI;go_wp2_with fail;go_loopw [6] (fun c wr=>∃j:Nat,j<=nv/\c=.int .i64 j/\(∀x∈q.vars.take j,x∈NM)/\wr=wx) (fun c _=>nv-(intOf c).toNat)
       case atStart=>exact⟨0,zO _,rfl,by simp,rfl⟩
       case round=>
        obtain⟨j,hj,rfl,am,a2⟩:=hrel;subst a2;obtain⟨wx,aI⟩:=eX wr;subst aI;have ap:=zA am;clear am;by_cases hltj:j<nv
        . have au:(j:Int)<(nv:Int):=by omega
          obtain⟨x,hx⟩:∃x,q.vars[j]?=some x:=⟨_,zB (by rw[<- aP.out];exact hltj)⟩
          obtain⟨g,ai,aS,_,_,ab⟩:=(HV.out.below (ae.out _ ah.out)).get hx;subst aS;have q0:=ab 0 _ rfl;rw[yC,yA]at q0;have CI:=zA (jcO a7.out (by rw[<- aZ.out];omega) x);have HX:=zA hx;clear hx ab;by_cases hin:x∈NM
          . rw[zU hin]at CI;have a6:Hid (∀y∈q.vars.take (j+1),y∈NM):=zA (fun y hy=>by
             rw[zS,HX.out]at hy;rcases zL.1 hy with hy|hy
             . exact ap.out y hy
             . simp at hy;rw[hy];exact hin)
            clear hin;go_wp2_with fail;refine CI.out.mono ?_;rintro e w5 ⟨rfl,ak⟩;rw[ak];clear ak;go_wp2;go_roundw
            case rel=>exact⟨j+1,by omega,by go_num,a6.out,by trivial⟩
            case measure=>simp[intOf];omega
          . rw[decide_eq_false hin]at CI;have HT:Hid (r=91):=zA (by rw[HR.out,if_pos ⟨x,zC HX.out,hin⟩]);clear hin;go_wp2_with fail;refine CI.out.mono ?_;rintro e w5 ⟨rfl,ak⟩;rw[ak];clear ak;go_wp2;go_ret;exact⟨by rw[HT.out];rfl,ae.out _ ah.out⟩
        . have au:¬(j:Int)<(nv:Int):=by omega
          have HT:Hid (r=0):=zA (by
           rw[HR.out,if_neg];rintro⟨v,hv,hn⟩;have h2:=ap.out;rw[zJ (by rw[<- aP.out];omega)]at h2;exact hn (h2 v hv))
          go_wp2;go_ret;exact⟨by rw[HT.out];rfl,ae.out _ ah.out⟩
end Go.Proofs.YtkbgmcmcpbegjaaGreatDoor
