/- GCome, GTake, GSort. -/
import Derived.Test.YtkbgmcmcpbegjaaGreatDoorZR9
import Derived.Lib.OwnBridge
set_option maxRecDepth 100000
set_option maxHeartbeats 8000000
namespace Go.Proofs.YtkbgmcmcpbegjaaGreatDoor
open Go.RowKit
theorem jcY:(Tryz.prog.info? 3).map (fun i=>(i.zero,i.size,i.bytes))=some (some (.int .i64 0),1,8):=by kernel_rfl
theorem jal{t:TypeId}{z:Value}{k b:Nat}(h:(Tryz.prog.info? t).map (fun i=>(i.zero,i.size,i.bytes))=some (some z,k,b)):∃i,Tryz.prog.info? t=some i/\i.zero=some z/\i.size=k/\i.bytes=b:=by
 obtain⟨i,hi,he⟩:=Option.map_eq_some_iff.1 h;simp only[Prod.mk.injEq]at he;exact⟨i,hi,he.1,he.2.1,he.2.2⟩
theorem jlc(a c:Nat)(ha:a<33554432)(hc:c<33554432):bits .andNot .u32 (a:Int) (c:Int)=((jbt a c:Nat):Int):=u32_andNot_nat a c (by omega) (by omega)
structure Fit (d:Sd) (s:Ss):Prop where
 cl:s.came.length=d.n
 fl:s.fresh.length=d.n
 cb:∀x∈s.came,x<33554432
 fb:∀x∈s.fresh,x<33554432
 sl:s.seen.length<=1000000000000
 tl:s.todo.length<=1000000000000
 dn:d.n<=10000
theorem Run.fit{d:Sd}{st:List Nat}{s:Ss}{ex:Nat->Nat->Nat->Prop}(h:Run d st s ex)(hn:d.n<=10000):Fit d s:=by
 have h1:=h.sz;have h2:=jh6 s.came h.cb;rw[h.cl]at h2;exact⟨h.cl,h.fl,h.cb,h.fb,by omega,by omega,hn⟩
theorem Rest.fit{d:Sd}{s:Ss}(h:Rest d s)(hn:d.n<=10000):Fit d s:=by
 have h1:=h.sz;exact⟨h.cl,h.fl,h.cb,fun x hx=>by rw[jcr h.fz x hx];omega,by omega,by rw[h.td];simp,hn⟩
def jlP(S:Nat->Prop)(w:World)(sb:Nat)(d:Sd)(s':Ss)(e:Ending)(w':World):Prop:=e=.returned (.tuple #[])/\(∃m',SrS S w' sb d s' m')/\Fr S w w'
theorem jbb{w:World}{w9:World}{o:Obj}{row:Option Nat}(hg:(w.alloc o).grownBy w9 row):∀k,k<w.heap.size->row≠some k->w9.heap[k]?=w.heap[k]?:=fun k hk hne=>by
 rw[hg.block k (by simp;omega) (fun e=>hne e.symm),heap_alloc_old _ _ hk]
theorem jic{S:Nat->Prop}{w:World}{sb:Nat}{d:Sd}{s:Ss}{m:Sp}(h:SrS S w sb d s m)(hS:Low S w)(hf:Fit d s){v a:Nat}(hv:v<d.n)(ha:a<33554432):
 Calls Tryz.prog 91 #[.pointer (some ⟨sb,0,none⟩),.int .i64 (v:Int),.int .u32 (a:Int)] w (jlP S w sb d (s.come v a)):=by
 obtain⟨i0,bi,bg,bk,bj⟩:=jal jcY;obtain⟨R,hR⟩:=eX (s.come v a);rw[<- hR];have HR:=zA hR;obtain⟨c,hc⟩:=eX (s.came.getD v 0);obtain⟨f,bh⟩:=eX (s.fresh.getD v 0);have bS:c<33554432:=by rw[hc];exact jb5 hf.cb v
 have hfl:f<33554432:=by rw[bh];exact jb5 hf.fb v
 obtain⟨q,hq⟩:=eX (jbt a c);have hql:q<33554432:=by rw[hq];exact jhY a c ha
 have b1:bits .andNot .u32 (a:Int) (c:Int)=(q:Int):=by rw[hq];exact jlc a c ha bS
 have HC:=zA hc;have HF:=zA bh;have HQ:=zA hq;have aC:=zA hf;have HS:=zA hS;have H:=zA h;obtain⟨⟨k1,_⟩,⟨k2,_⟩⟩:(w.cell? ⟨m.cb,v,none⟩=some (.int .u32 (c:Int))/\True)/\(w.cell? ⟨m.fb,v,none⟩=some (.int .u32 (f:Int))/\True):=by
  rw[hc,bh];exact⟨⟨(h.came.cell (by rw[hf.cl];exact hv)).1,trivial⟩,⟨(h.fresh.cell (by rw[hf.fl];exact hv)).1,trivial⟩⟩
 obtain⟨bG,bF,bK,bD,bf,bp,bH,bE⟩:=h.cells;have hvI:(v:Int)<(d.n:Int):=by omega
 have hdn:=hf.dn;clear hR hc bh hq h hf hS;by_cases hq0:q=0
 . have HX:Hid (R=s):=zA (by rw[HR.out,Ss.come,if_pos (by rw[<- HC.out,<- HQ.out];exact hq0)]);subst hq0;go_enter Tryz.func91,Tryz.ntmps91;go_wp2;go_end0;exact⟨rfl,⟨m,by rw[HX.out];exact H.out⟩,Fr.refl _ _⟩
 . have hqI:¬(q:Int)=0:=by omega
   have hqB:((q:Int)==0)=false:=by simp;omega
   have b2:bits .or .u32 (c:Int) (q:Int)=((c ||| q:Nat):Int):=u32_or_nat c q (by omega) (by omega);have b3:bits .or .u32 (f:Int) (q:Int)=((f ||| q:Nat):Int):=u32_or_nat f q (by omega) (by omega);have HX:Hid (R=⟨s.came.set v (c ||| q),s.fresh.set v (f ||| q),if c=0 then s.seen++[v]else s.seen,if f=0 then s.todo++[v]else s.todo⟩):=zA (by
    rw[HR.out,Ss.come,if_neg (by rw[<- HC.out,<- HQ.out];exact hq0),<- HC.out,<- HQ.out,<- HF.out])
   obtain⟨cq,bL⟩:=eX (c ||| q);obtain⟨fq,bC⟩:=eX (f ||| q);rw[<- bL]at b2 HX;rw[<- bC]at b3 HX;clear HR HQ bL bC hq0;obtain⟨n1,n2,n3,n4,n5,n6,n7,n8⟩:=H.out.sne;have n9:¬m.cb=sb:=fun e=>n7 e.symm
   have n10:¬m.fb=sb:=fun e=>n8 e.symm
   have n11:=H.out.cf;have n12:¬m.fb=m.cb:=fun e=>H.out.cf e.symm
   have j1:=(H.out.came.cell (i:=v) (by rw[aC.out.cl];exact hv)).2;have j2:=(H.out.fresh.cell (i:=v) (by rw[aC.out.fl];exact hv)).2;clear n1 n2 n3 n4 n5 n6;have bI:=aC.out.sl;have bJ:=aC.out.tl;by_cases hc0:c=0
   . by_cases hf0:f=0
     . have bA:((c:Int)==0)=true:=by simp;omega
       have bq:((f:Int)==0)=true:=by simp;omega
       have a5:Hid (R=⟨s.came.set v cq,s.fresh.set v fq,s.seen++[v],s.todo++[v]⟩):=zA (by rw[HX.out,if_pos hc0,if_pos hf0]);clear HX;have bt:=zA hc0;have br:=zA hf0;clear hc0 hf0;go_enter Tryz.func91,Tryz.ntmps91;obtain⟨aZ,ba,aG⟩:=jab H.out.seen;obtain⟨an,ao⟩:=eX s.seen.length;have au:m.sv=.slice aZ an ba:=by rw[ao];exact aG
       rw[<- ao]at bI;have aJ:=zA ao;have ae:=zA au;rw[au]at bf;have a7:Hid ((w).ownsRow 0 3 1 (.slice aZ an ba) an (s.seen.flatMap csI)):=zA (by have:=H.out.seen;(try dsimp only at this);rw[<- aJ.out,ae.out]at this;exact this);clear ao au aG;go_wp2_with (at_builtin;refine wpList_append_lies _ rfl _ _ _ rfl 0 3 i0 _ 1 8 Tryz.underlying59 bi bg bk bj rfl (by decide) (.slice aZ an ba) _ _ (by rfl) (a7.out.alloc _) ⟨w.heap.size,0,none⟩ 1 1 (csI v) (by rfl) (by rfl) ?a1 ?b1 (by decide) ?c1 ?d1 ?e1 (w.heap.size+1) (by simp) ?_)
       case a1=>
        have ak:=heap_alloc_new (w) (.cells #[.int .i64 (v:Int)] 3 (0,0));try simp only[World.size_setCell]at ak
        exact World.news_of_block (cs:=#[.int .i64 (v:Int)]) (t:=3) (fr:=(0,0)) ak
       case b1=>simp[Value.oneCell']
       case c1=>unfold maxLen;omega
       case d1=>omega
       case e1=>simp
       intro aw aj w1 aq aa aD a0;have ad:=jbb aa;have bc:(w).heap.size<=w1.heap.size:=by have:=aa.size;simp at this ⊢;omega
       have ai:w1.heap[sb]?=(w).heap[sb]?:=ad sb (lt_of_block H.out.blk) (by rw[<- ae.out];exact H.out.sne.1);have al:w1.ownsRow 0 3 1 (.slice (some ⟨aw,0,none⟩) (an+1) aj) (s.seen++[v]).length ((s.seen++[v]).flatMap csI):=by rw[zG,<- aJ.out,zP];exact aq
       have ah:=zA (H.out.setSeen (HS.out) bc (fun k hk hne=>ad k hk (by rw[<- ae.out];exact hne)) al (fun g hg=>by
        have hg:aw=g:=by simpa[Value.ownBlock]using hg
        subst hg;rcases aD with h1|h1
        . left;(try dsimp only);rw[ae.out];exact h1
        . right;(try simp only[World.size_setCell]);omega))
       have aF:=zA (Fr.setCell (b:=sb) (i:=29) (Fr.trans (Fr.refl S w) ⟨aa.os,aa.tape,aa.output,bc,fun k hk=>ad k (HS.out k hk) (fun e=>H.out.sno k (by(try dsimp only);rw[ae.out];exact e) hk)⟩) H.out.no (.slice (some ⟨aw,0,none⟩) (an+1) aj));obtain⟨aX,aV,aS,aO,aH,aT,a6,aK⟩:=H.out.cells;have bs:w1.cell? ⟨sb,29,none⟩=some m.sv:=by simpa only[World.cell?,ai]using aH
       obtain⟨z1,z2,z3,z4,z5,z6,z7,z8⟩:=H.out.sne;have bz:w1.cell? ⟨sb,27,none⟩=some (.slice (some ⟨m.cb,0,none⟩) d.n d.n):=by simpa only[World.cell?,ai]using aS
       have bn:w1.cell? ⟨sb,28,none⟩=some (.slice (some ⟨m.fb,0,none⟩) d.n d.n):=by simpa only[World.cell?,ai]using aO
       have bd:w1.cell? ⟨sb,30,none⟩=some m.tv:=by simpa only[World.cell?,ai]using aT
       have bo:w1.frozen? ⟨sb,30,none⟩=false:=by simpa only[World.frozen?,ai]using aK
       have bm:w1.frozen? ⟨sb,29,none⟩=false:=by have:=H.out.cells.2.2.2.2.2.2.1;simpa only[World.frozen?,ai]using this
       have aR:w1.heap[m.cb]?=(w).heap[m.cb]?:=ad m.cb (lt_of_block H.out.came) (by rw[<- ae.out];exact z3);have aE:w1.heap[m.fb]?=(w).heap[m.fb]?:=ad m.fb (lt_of_block H.out.fresh) (by rw[<- ae.out];exact z5);have aB:=H.out.came.cell (i:=v) (by rw[aC.out.cl];exact hv);have aA:=H.out.fresh.cell (i:=v) (by rw[aC.out.fl];exact hv)
       (try dsimp only at aB)
       (try dsimp only at aA)
       rw[<- HC.out]at aB;rw[<- HF.out]at aA;simp only[World.cell?,World.frozen?]at aB aA;rw[<- aR]at aB;rw[<- aE]at aA;obtain⟨aB,bN⟩:w1.cell? ⟨m.cb,v,none⟩=some (.int .u32 (c:Int))/\w1.frozen? ⟨m.cb,v,none⟩=false:=aB;obtain⟨aA,bR⟩:w1.cell? ⟨m.fb,v,none⟩=some (.int .u32 (f:Int))/\w1.frozen? ⟨m.fb,v,none⟩=false:=aA;clear aX aV aS aO aH aT a6 aK z1 z2 z3 z4 z5 z6 z7 z8 aR aE;clear aq aa aD a0 al ad ai;clear bG bF bK bD bf bp bH bE k1 k2 j1 j2;obtain⟨a8,a3,aN⟩:=jab ah.out.todo;obtain⟨ax,ap⟩:=eX s.todo.length;have av:m.tv=.slice a8 ax a3:=by rw[ap];exact aN
       rw[<- ap]at bJ;have aI:=zA ap;have ag:=zA av;rw[av]at bd;have a4:Hid ((w1.setCell ⟨sb,29,none⟩ (.slice (some ⟨aw,0,none⟩) (an+1) aj)).ownsRow 0 3 1 (.slice a8 ax a3) ax (s.todo.flatMap csI)):=zA (by have:=ah.out.todo;(try dsimp only at this);rw[<- aI.out,ag.out]at this;exact this);clear ap av aN;go_wp2_with (at_builtin;refine wpList_append_lies _ rfl _ _ _ rfl 0 3 i0 _ 1 8 Tryz.underlying59 bi bg bk bj rfl (by decide) (.slice a8 ax a3) _ _ (by rfl) (a4.out.alloc _) ⟨w1.heap.size,0,none⟩ 1 1 (csI v) (by rfl) (by rfl) ?a2 ?b2 (by decide) ?c2 ?d2 ?e2 (w1.heap.size+1) (by simp) ?_)
       case a2=>
        have ak:=heap_alloc_new (w1.setCell ⟨sb,29,none⟩ (.slice (some ⟨aw,0,none⟩) (an+1) aj)) (.cells #[.int .i64 (v:Int)] 3 (0,0));try simp only[World.size_setCell]at ak
        exact World.news_of_block (cs:=#[.int .i64 (v:Int)]) (t:=3) (fr:=(0,0)) ak
       case b2=>simp[Value.oneCell']
       case c2=>unfold maxLen;omega
       case d2=>omega
       case e2=>simp
       intro aU aQ w2 ar ac aM a9;have ab:=jbb ac;have bb:(w1.setCell ⟨sb,29,none⟩ (.slice (some ⟨aw,0,none⟩) (an+1) aj)).heap.size<=w2.heap.size:=by have:=ac.size;simp at this ⊢;omega
       have af:w2.heap[sb]?=(w1.setCell ⟨sb,29,none⟩ (.slice (some ⟨aw,0,none⟩) (an+1) aj)).heap[sb]?:=ab sb (lt_of_block ah.out.blk) (by rw[<- ag.out];exact ah.out.sne.2.1);have am:w2.ownsRow 0 3 1 (.slice (some ⟨aU,0,none⟩) (ax+1) aQ) (s.todo++[v]).length ((s.todo++[v]).flatMap csI):=by rw[zG,<- aI.out,zP];exact ar
       have aW:=zA (ah.out.setTodo ((HS.out.fr aF.out)) bb (fun k hk hne=>ab k hk (by rw[<- ag.out];exact hne)) am (fun g hg=>by
        have hg:aU=g:=by simpa[Value.ownBlock]using hg
        subst hg;rcases aM with h1|h1
        . left;(try dsimp only);rw[ag.out];exact h1
        . right;(try simp only[World.size_setCell]);omega))
       have aY:=zA (Fr.setCell (b:=sb) (i:=30) (Fr.trans aF.out ⟨ac.os,ac.tape,ac.output,bb,fun k hk=>ab k ((HS.out.fr aF.out) k hk) (fun e=>ah.out.tno k (by(try dsimp only);rw[ag.out];exact e) hk)⟩) H.out.no (.slice (some ⟨aU,0,none⟩) (ax+1) aQ));obtain⟨aX,aV,aS,aO,aH,aT,a6,aK⟩:=ah.out.cells;have bx:w2.cell? ⟨sb,29,none⟩=some (.slice (some ⟨aw,0,none⟩) (an+1) aj):=by simpa only[World.cell?,af]using aH
       obtain⟨z1,z2,z3,z4,z5,z6,z7,z8⟩:=ah.out.sne;have bv:w2.cell? ⟨sb,27,none⟩=some (.slice (some ⟨m.cb,0,none⟩) d.n d.n):=by simpa only[World.cell?,af]using aS
       have bu:w2.cell? ⟨sb,28,none⟩=some (.slice (some ⟨m.fb,0,none⟩) d.n d.n):=by simpa only[World.cell?,af]using aO
       have bB:w2.cell? ⟨sb,30,none⟩=some m.tv:=by simpa only[World.cell?,af]using aT
       have bw:w2.frozen? ⟨sb,30,none⟩=false:=by simpa only[World.frozen?,af]using aK
       have bl:w2.frozen? ⟨sb,30,none⟩=false:=by have:=ah.out.cells.2.2.2.2.2.2.2;simpa only[World.frozen?,af]using this
       have aL:w2.heap[m.cb]?=(w1.setCell ⟨sb,29,none⟩ (.slice (some ⟨aw,0,none⟩) (an+1) aj)).heap[m.cb]?:=ab m.cb (lt_of_block ah.out.came) (by rw[<- ag.out];exact z4);have aP:w2.heap[m.fb]?=(w1.setCell ⟨sb,29,none⟩ (.slice (some ⟨aw,0,none⟩) (an+1) aj)).heap[m.fb]?:=ab m.fb (lt_of_block ah.out.fresh) (by rw[<- ag.out];exact z6);have ay:=ah.out.came.cell (i:=v) (by rw[aC.out.cl];exact hv);have az:=ah.out.fresh.cell (i:=v) (by rw[aC.out.fl];exact hv)
       (try dsimp only at ay)
       (try dsimp only at az)
       rw[<- HC.out]at ay;rw[<- HF.out]at az;simp only[World.cell?,World.frozen?]at ay az;rw[<- aL]at ay;rw[<- aP]at az;obtain⟨ay,bM⟩:w2.cell? ⟨m.cb,v,none⟩=some (.int .u32 (c:Int))/\w2.frozen? ⟨m.cb,v,none⟩=false:=ay;obtain⟨az,bP⟩:w2.cell? ⟨m.fb,v,none⟩=some (.int .u32 (f:Int))/\w2.frozen? ⟨m.fb,v,none⟩=false:=az;clear aX aV aS aO aH aT a6 aK z1 z2 z3 z4 z5 z6 z7 z8 aL aP;clear ar ac aM a9 am ab af;go_wp2;go_end0;exact⟨rfl,⟨_,by rw[a5.out];exact(aW.out.setCame v cq).setFresh v fq⟩,Fr.setCell (Fr.setCell aY.out H.out.cno _) H.out.fno _⟩
     . have bA:((c:Int)==0)=true:=by simp;omega
       have bq:((f:Int)==0)=false:=by simp;omega
       have a5:Hid (R=⟨s.came.set v cq,s.fresh.set v fq,s.seen++[v],s.todo⟩):=zA (by rw[HX.out,if_pos hc0,if_neg hf0]);clear HX;have bt:=zA hc0;have br:=zA hf0;have bQ:¬(f:Int)=0:=by omega
       clear hc0 hf0;go_enter Tryz.func91,Tryz.ntmps91;obtain⟨aZ,ba,aG⟩:=jab H.out.seen;obtain⟨an,ao⟩:=eX s.seen.length;have au:m.sv=.slice aZ an ba:=by rw[ao];exact aG
       rw[<- ao]at bI;have aJ:=zA ao;have ae:=zA au;rw[au]at bf;have a7:Hid ((w).ownsRow 0 3 1 (.slice aZ an ba) an (s.seen.flatMap csI)):=zA (by have:=H.out.seen;(try dsimp only at this);rw[<- aJ.out,ae.out]at this;exact this);clear ao au aG;go_wp2_with (at_builtin;refine wpList_append_lies _ rfl _ _ _ rfl 0 3 i0 _ 1 8 Tryz.underlying59 bi bg bk bj rfl (by decide) (.slice aZ an ba) _ _ (by rfl) (a7.out.alloc _) ⟨w.heap.size,0,none⟩ 1 1 (csI v) (by rfl) (by rfl) ?a1 ?b1 (by decide) ?c1 ?d1 ?e1 (w.heap.size+1) (by simp) ?_)
       case a1=>
        have ak:=heap_alloc_new (w) (.cells #[.int .i64 (v:Int)] 3 (0,0));try simp only[World.size_setCell]at ak
        exact World.news_of_block (cs:=#[.int .i64 (v:Int)]) (t:=3) (fr:=(0,0)) ak
       case b1=>simp[Value.oneCell']
       case c1=>unfold maxLen;omega
       case d1=>omega
       case e1=>simp
       intro aw aj w1 aq aa aD a0;have ad:=jbb aa;have bc:(w).heap.size<=w1.heap.size:=by have:=aa.size;simp at this ⊢;omega
       have ai:w1.heap[sb]?=(w).heap[sb]?:=ad sb (lt_of_block H.out.blk) (by rw[<- ae.out];exact H.out.sne.1);have al:w1.ownsRow 0 3 1 (.slice (some ⟨aw,0,none⟩) (an+1) aj) (s.seen++[v]).length ((s.seen++[v]).flatMap csI):=by rw[zG,<- aJ.out,zP];exact aq
       have ah:=zA (H.out.setSeen (HS.out) bc (fun k hk hne=>ad k hk (by rw[<- ae.out];exact hne)) al (fun g hg=>by
        have hg:aw=g:=by simpa[Value.ownBlock]using hg
        subst hg;rcases aD with h1|h1
        . left;(try dsimp only);rw[ae.out];exact h1
        . right;(try simp only[World.size_setCell]);omega))
       have aF:=zA (Fr.setCell (b:=sb) (i:=29) (Fr.trans (Fr.refl S w) ⟨aa.os,aa.tape,aa.output,bc,fun k hk=>ad k (HS.out k hk) (fun e=>H.out.sno k (by(try dsimp only);rw[ae.out];exact e) hk)⟩) H.out.no (.slice (some ⟨aw,0,none⟩) (an+1) aj));obtain⟨aX,aV,aS,aO,aH,aT,a6,aK⟩:=H.out.cells;have bs:w1.cell? ⟨sb,29,none⟩=some m.sv:=by simpa only[World.cell?,ai]using aH
       obtain⟨z1,z2,z3,z4,z5,z6,z7,z8⟩:=H.out.sne;have bz:w1.cell? ⟨sb,27,none⟩=some (.slice (some ⟨m.cb,0,none⟩) d.n d.n):=by simpa only[World.cell?,ai]using aS
       have bn:w1.cell? ⟨sb,28,none⟩=some (.slice (some ⟨m.fb,0,none⟩) d.n d.n):=by simpa only[World.cell?,ai]using aO
       have bd:w1.cell? ⟨sb,30,none⟩=some m.tv:=by simpa only[World.cell?,ai]using aT
       have bo:w1.frozen? ⟨sb,30,none⟩=false:=by simpa only[World.frozen?,ai]using aK
       have bm:w1.frozen? ⟨sb,29,none⟩=false:=by have:=H.out.cells.2.2.2.2.2.2.1;simpa only[World.frozen?,ai]using this
       have aR:w1.heap[m.cb]?=(w).heap[m.cb]?:=ad m.cb (lt_of_block H.out.came) (by rw[<- ae.out];exact z3);have aE:w1.heap[m.fb]?=(w).heap[m.fb]?:=ad m.fb (lt_of_block H.out.fresh) (by rw[<- ae.out];exact z5);have aB:=H.out.came.cell (i:=v) (by rw[aC.out.cl];exact hv);have aA:=H.out.fresh.cell (i:=v) (by rw[aC.out.fl];exact hv)
       (try dsimp only at aB)
       (try dsimp only at aA)
       rw[<- HC.out]at aB;rw[<- HF.out]at aA;simp only[World.cell?,World.frozen?]at aB aA;rw[<- aR]at aB;rw[<- aE]at aA;obtain⟨aB,bN⟩:w1.cell? ⟨m.cb,v,none⟩=some (.int .u32 (c:Int))/\w1.frozen? ⟨m.cb,v,none⟩=false:=aB;obtain⟨aA,bR⟩:w1.cell? ⟨m.fb,v,none⟩=some (.int .u32 (f:Int))/\w1.frozen? ⟨m.fb,v,none⟩=false:=aA;clear aX aV aS aO aH aT a6 aK z1 z2 z3 z4 z5 z6 z7 z8 aR aE;clear aq aa aD a0 al ad ai;clear bG bF bK bD bf bp bH bE k1 k2 j1 j2;go_wp2;go_end0;exact⟨rfl,⟨_,by rw[a5.out];exact(ah.out.setCame v cq).setFresh v fq⟩,Fr.setCell (Fr.setCell aF.out H.out.cno _) H.out.fno _⟩
   . by_cases hf0:f=0
     . have bA:((c:Int)==0)=false:=by simp;omega
       have bq:((f:Int)==0)=true:=by simp;omega
       have a5:Hid (R=⟨s.came.set v cq,s.fresh.set v fq,s.seen,s.todo++[v]⟩):=zA (by rw[HX.out,if_neg hc0,if_pos hf0]);clear HX;have bt:=zA hc0;have br:=zA hf0;have bO:¬(c:Int)=0:=by omega
       clear hc0 hf0;go_enter Tryz.func91,Tryz.ntmps91;obtain⟨a8,a3,aN⟩:=jab H.out.todo;obtain⟨ax,ap⟩:=eX s.todo.length;have av:m.tv=.slice a8 ax a3:=by rw[ap];exact aN
       rw[<- ap]at bJ;have aI:=zA ap;have ag:=zA av;rw[av]at bp;have a4:Hid ((w).ownsRow 0 3 1 (.slice a8 ax a3) ax (s.todo.flatMap csI)):=zA (by have:=H.out.todo;(try dsimp only at this);rw[<- aI.out,ag.out]at this;exact this);clear ap av aN;go_wp2_with (at_builtin;refine wpList_append_lies _ rfl _ _ _ rfl 0 3 i0 _ 1 8 Tryz.underlying59 bi bg bk bj rfl (by decide) (.slice a8 ax a3) _ _ (by rfl) (a4.out.alloc _) ⟨w.heap.size,0,none⟩ 1 1 (csI v) (by rfl) (by rfl) ?a2 ?b2 (by decide) ?c2 ?d2 ?e2 (w.heap.size+1) (by simp) ?_)
       case a2=>
        have ak:=heap_alloc_new (w) (.cells #[.int .i64 (v:Int)] 3 (0,0));try simp only[World.size_setCell]at ak
        exact World.news_of_block (cs:=#[.int .i64 (v:Int)]) (t:=3) (fr:=(0,0)) ak
       case b2=>simp[Value.oneCell']
       case c2=>unfold maxLen;omega
       case d2=>omega
       case e2=>simp
       intro aU aQ w2 ar ac aM a9;have ab:=jbb ac;have bb:(w).heap.size<=w2.heap.size:=by have:=ac.size;simp at this ⊢;omega
       have af:w2.heap[sb]?=(w).heap[sb]?:=ab sb (lt_of_block H.out.blk) (by rw[<- ag.out];exact H.out.sne.2.1);have am:w2.ownsRow 0 3 1 (.slice (some ⟨aU,0,none⟩) (ax+1) aQ) (s.todo++[v]).length ((s.todo++[v]).flatMap csI):=by rw[zG,<- aI.out,zP];exact ar
       have aW:=zA (H.out.setTodo (HS.out) bb (fun k hk hne=>ab k hk (by rw[<- ag.out];exact hne)) am (fun g hg=>by
        have hg:aU=g:=by simpa[Value.ownBlock]using hg
        subst hg;rcases aM with h1|h1
        . left;(try dsimp only);rw[ag.out];exact h1
        . right;(try simp only[World.size_setCell]);omega))
       have aY:=zA (Fr.setCell (b:=sb) (i:=30) (Fr.trans (Fr.refl S w) ⟨ac.os,ac.tape,ac.output,bb,fun k hk=>ab k (HS.out k hk) (fun e=>H.out.tno k (by(try dsimp only);rw[ag.out];exact e) hk)⟩) H.out.no (.slice (some ⟨aU,0,none⟩) (ax+1) aQ));obtain⟨aX,aV,aS,aO,aH,aT,a6,aK⟩:=H.out.cells;have bx:w2.cell? ⟨sb,29,none⟩=some m.sv:=by simpa only[World.cell?,af]using aH
       obtain⟨z1,z2,z3,z4,z5,z6,z7,z8⟩:=H.out.sne;have bv:w2.cell? ⟨sb,27,none⟩=some (.slice (some ⟨m.cb,0,none⟩) d.n d.n):=by simpa only[World.cell?,af]using aS
       have bu:w2.cell? ⟨sb,28,none⟩=some (.slice (some ⟨m.fb,0,none⟩) d.n d.n):=by simpa only[World.cell?,af]using aO
       have bB:w2.cell? ⟨sb,30,none⟩=some m.tv:=by simpa only[World.cell?,af]using aT
       have bw:w2.frozen? ⟨sb,30,none⟩=false:=by simpa only[World.frozen?,af]using aK
       have bl:w2.frozen? ⟨sb,30,none⟩=false:=by have:=H.out.cells.2.2.2.2.2.2.2;simpa only[World.frozen?,af]using this
       have aL:w2.heap[m.cb]?=(w).heap[m.cb]?:=ab m.cb (lt_of_block H.out.came) (by rw[<- ag.out];exact z4);have aP:w2.heap[m.fb]?=(w).heap[m.fb]?:=ab m.fb (lt_of_block H.out.fresh) (by rw[<- ag.out];exact z6);have ay:=H.out.came.cell (i:=v) (by rw[aC.out.cl];exact hv);have az:=H.out.fresh.cell (i:=v) (by rw[aC.out.fl];exact hv)
       (try dsimp only at ay)
       (try dsimp only at az)
       rw[<- HC.out]at ay;rw[<- HF.out]at az;simp only[World.cell?,World.frozen?]at ay az;rw[<- aL]at ay;rw[<- aP]at az;obtain⟨ay,bM⟩:w2.cell? ⟨m.cb,v,none⟩=some (.int .u32 (c:Int))/\w2.frozen? ⟨m.cb,v,none⟩=false:=ay;obtain⟨az,bP⟩:w2.cell? ⟨m.fb,v,none⟩=some (.int .u32 (f:Int))/\w2.frozen? ⟨m.fb,v,none⟩=false:=az;clear aX aV aS aO aH aT a6 aK z1 z2 z3 z4 z5 z6 z7 z8 aL aP;clear ar ac aM a9 am ab af;go_wp2;go_end0;exact⟨rfl,⟨_,by rw[a5.out];exact(aW.out.setCame v cq).setFresh v fq⟩,Fr.setCell (Fr.setCell aY.out H.out.cno _) H.out.fno _⟩
     . have bA:((c:Int)==0)=false:=by simp;omega
       have bq:((f:Int)==0)=false:=by simp;omega
       have a5:Hid (R=⟨s.came.set v cq,s.fresh.set v fq,s.seen,s.todo⟩):=zA (by rw[HX.out,if_neg hc0,if_neg hf0]);clear HX;have bt:=zA hc0;have br:=zA hf0;have bO:¬(c:Int)=0:=by omega
       have bQ:¬(f:Int)=0:=by omega
       clear hc0 hf0;go_enter Tryz.func91,Tryz.ntmps91;go_wp2;go_end0;exact⟨rfl,⟨_,by rw[a5.out];exact(H.out.setCame v cq).setFresh v fq⟩,Fr.setCell (Fr.setCell (Fr.refl S w) H.out.cno _) H.out.fno _⟩
theorem jfh{w:World}{B n m:Nat}{e:TypeId}{ao:Option Addr}{cap:Nat}{xs:List Value}(h:w.ownsRow B e 1 (.slice ao n cap) n xs)(hm:m<=n):w.ownsRow B e 1 (.slice ao m cap) m (xs.take m):=by
 have hl:=h.1;refine⟨by rw[zX];omega,?_⟩;rcases h.2 with⟨e1,e2⟩|⟨g,cap',aa,e1,e2,e3,e4,e5,e6,e7⟩
 . simp only[Value.slice.injEq]at e1;obtain⟨rfl,rfl,rfl⟩:=e1;left;have:m=0:=by omega
   subst this;exact⟨rfl,rfl⟩
 . simp only[Value.slice.injEq]at e1;obtain⟨rfl,_,rfl⟩:=e1;refine .inr ⟨g,cap,aa,rfl,e2,e3,by omega,e5,e6,?_⟩;rw[<- e7,List.take_take];congr 1;omega
theorem jgr(l:List Nat):(l.flatMap csI).length=l.length:=by
 have:=jaz jhF l;omega
theorem jiT(l:List Nat)(k:Nat):(l.flatMap csI).take k=(l.take k).flatMap csI:=by
 induction l generalizing k with
 |nil=>simp
 |cons a l ih=>
  cases k with
  |zero=>simp
  |succ k=>simp[ih k]
theorem jjY{w:World}{B n:Nat}{e:TypeId}{ao:Option Addr}{cap:Nat}{xs:List Value}(h:w.ownsRow B e 1 (.slice ao n cap) n xs):n<=cap:=by
 rcases h.2 with⟨e1,e2⟩|⟨g,cap',cur,e1,e2,e3,e4,_⟩
 . injection e1;omega
 . injection e1 with _ _ e1;omega
theorem jew{w:World}{B:Nat}{v:Value}{l:List Nat}(h:w.ownsRow B 3 1 v l.length (l.flatMap csI)):NatS (fun g=>v.ownBlock=some g) w v l:=jaD jhF h rfl
theorem getI{w:World}{g o:Nat}{i:Nat}(h:∀(c:Nat) u,(csI i)[c]?=some u->w.cell? ⟨g,o+c,none⟩=some u):w.cell? ⟨g,o,none⟩=some (.int .i64 (i:Int)):=h 0 _ rfl
theorem jj5{S:Nat->Prop}{w:World}{sb:Nat}{d:Sd}{s:Ss}{m:Sp}(h:SrS S w sb d s m)(ht:s.todo=[]):
 Calls Tryz.prog 60 #[.pointer (some ⟨sb,0,none⟩)] w fun e w'=>e=.returned (.tuple #[.int .i64 0,.bool false])/\w'=w:=by
 obtain⟨g25,g26,g27,g28,g29,aa,f29,f30⟩:=h.cells;obtain⟨ta,tc,hv⟩:=jab h.todo;rw[ht]at hv;rw[hv]at aa;clear h hv;go_enter Tryz.func60,Tryz.ntmps60;go_wp2;go_ret2;exact⟨rfl,rfl⟩
theorem jj6{S:Nat->Prop}{w:World}{sb:Nat}{d:Sd}{s:Ss}{m:Sp}(h:SrS S w sb d s m)(hS:Low S w){l:List Nat}{u:Nat}(ht:s.todo=l++[u])(hl:s.todo.length<=1000000000000):
 Calls Tryz.prog 60 #[.pointer (some ⟨sb,0,none⟩)] w fun e w'=>e=.returned (.tuple #[.int .i64 (u:Int),.bool true])/\(∃m',SrS S w' sb d ⟨s.came,s.fresh,s.seen,l⟩ m')/\Fr S w w':=by
 obtain⟨ae,al,ag,ac,af,ai,ah,f30⟩:=h.cells;have H:=zA h;have HT:=zA ht;have HS:=zA hS;obtain⟨ta,tc,hv⟩:=jab h.todo;obtain⟨k,hk⟩:=eX l.length;have ab:s.todo.length=k+1:=by rw[ht,hk];simp
 rw[ab]at hv hl;have HO:Hid (w.ownsRow 0 3 1 (.slice ta (k+1) tc) (k+1) (s.todo.flatMap csI)):=zA (by have:=h.todo;rw[ab,hv]at this;exact this);have hcap:=jjY HO.out;have HV:=zA hv;have aj:Hid (w.ownsRow 0 3 1 (.slice ta k tc) l.length (l.flatMap csI)):=zA (by
  have:=jfh HO.out (show k<=k+1 by omega);rw[jiT,HT.out,List.take_left' hk.symm,hk]at this;rw[hk];exact this)
 obtain⟨g,aa,ak,_,hgl,hc⟩:∃g aa,ta=some ⟨g,aa,none⟩/\True/\g<w.heap.size/\w.cell? ⟨g,aa+k,none⟩=some (.int .i64 (u:Int)):=by
  have h1:=jew h.todo;rw[hv]at h1;obtain⟨g,aa,e1,_,e3,e4⟩:=h1.get (j:=k) (x:=u) (by rw[ht,hk];simp);have e5:=getI e4;rw[yC]at e5;exact⟨g,aa,e1,trivial,e3,e5⟩
 subst ak;rw[hv]at ai;have ad:Hid (SrS S (w.setCell ⟨sb,30,none⟩ (.slice (some ⟨g,aa,none⟩) k tc)) sb d ⟨s.came,s.fresh,s.seen,l⟩ ⟨m.cb,m.fb,m.sv,.slice (some ⟨g,aa,none⟩) k tc,m.stv,m.rs⟩):=zA (h.setTodo hS (zD _) (fun _ _ _=>rfl) aj.out (fun g hg=>.inl (by rw[hv];exact hg)));have HF:Hid (Fr S w (w.setCell ⟨sb,30,none⟩ (.slice (some ⟨g,aa,none⟩) k tc))):=zA ((Fr.refl _ _).setCell h.no _);have hkI:¬((k:Int)<0):=by omega
 have e1:((k:Int)+1-1)=(k:Int):=by omega
 have hkk:(k:Int)<=(tc:Int):=by omega
 clear h hS ht hv hk ab ae al ag ac af ah;go_enter Tryz.func60,Tryz.ntmps60;go_wp2;go_ret2;exact⟨rfl,⟨_,ad.out⟩,HF.out⟩
theorem jdt{S:Nat->Prop}{w:World}{sb:Nat}{d:Sd}{s:Ss}{m:Sp}(h:SrS S w sb d s m)(hcl:s.came.length=d.n)(hcb:∀x∈s.came,x<33554432){v:Nat}(hv:v<d.n):
 Calls Tryz.prog 62 #[.pointer (some ⟨sb,0,none⟩),.int .i64 (v:Int)] w fun e w'=>e=.returned (.bool (decide (s.came.getD v 0 &&& d.last≠0)))/\w'=w.drew:=by
 obtain⟨g25,ah,g27,ab,ag,af,ac,ad⟩:=h.cells;have k1:=(h.came.cell (i:=v) (by rw[hcl];exact hv)).1;have hc:=jb5 hcb v;have hl:=h.ok.last;obtain⟨c,aa⟩:=eX (s.came.getD v 0);rw[<- aa]at k1 hc ⊢;have b1:bits .and .u32 (c:Int) (d.last:Int)=((c &&& d.last:Nat):Int):=u32_and_nat c d.last (by omega) (by omega);obtain⟨x,hx⟩:=eX (c &&& d.last);rw[<- hx]at b1 ⊢;have hvI:(v:Int)<(d.n:Int):=by omega
 clear h aa hx hcl hcb ah ab ag af ac ad;by_cases h0:x=0
 . subst h0;go_enter Tryz.func62,Tryz.ntmps62;go_wp2_with fail;go_region;go_wp2;go_ret;exact⟨by simp,rfl⟩
 . have hx0:((x:Int)!=0)=true:=by simp;omega
   have ae:decide (x≠0)=true:=zU h0;rw[ae];go_enter Tryz.func62,Tryz.ntmps62;go_wp2_with fail;go_region;go_wp2;go_ret;exact⟨by simp,rfl⟩
theorem jdj(p:Nat)(w:World)(hp:p<25):
 Calls Tryz.prog 58 #[.int .i64 (p:Int)] w fun e w'=>e=.returned (.int .u32 ((2^p:Nat):Int))/\w'=w:=by
 have hq:(2:Int)^p%4294967296=(2:Int)^p:=by
  have h1:2^p<2^25:=Nat.pow_lt_pow_right (by omega) hp;have h2:((2:Int)^p)=((2^p:Nat):Int):=by rw[Int.natCast_pow];rfl
  rw[h2];generalize 2^p=q at h1 ⊢;omega
 have HQ:=zA hq;clear hq;go_enter Tryz.func58,Tryz.ntmps58;go_wp2;go_ret;exact⟨by simp[HQ.out],rfl⟩
def Ss.begin(s:Ss)(st:List Nat):Ss:=st.foldl (fun s v=>s.come v 16777216) ⟨ja5 s.came s.seen,s.fresh,[],[]⟩
theorem jgF{d:Sd}{s:Ss}(h:Rest d s){st:List Nat}(hst:∀v∈st,v<d.n)(i:Nat):Run d st ((st.take i).foldl (fun s v=>s.come v 16777216) ⟨ja5 s.came s.seen,s.fresh,[],[]⟩) exN/\∀v∈st.take i,((((st.take i).foldl (fun s v=>s.come v 16777216) ⟨ja5 s.came s.seen,s.fresh,[],[]⟩:Ss)).came.getD v 0).testBit 24=true:=by
 induction i with
 |zero=>exact⟨h.clear st,by simp⟩
 |succ i ih=>
  cases hg:st[i]? with
  |none=>
   have hlen:st.length<=i:=List.getElem?_eq_none_iff.1 hg;rw[zJ (by omega)]at ih ⊢;exact ih
  |some v=>
   have hv:=zC hg;rw[zS,hg,yQ,List.foldl_append,yN,List.foldl_nil];obtain⟨h1,h2⟩:=ih;refine⟨h1.start hv (hst v hv),fun u hu=>?_⟩;rw[jdd _ h1.cl h1.cb (hst v hv) (by omega)];rcases zL.1 hu with hu|hu
   . exact .inl (h2 u hu)
   . exact .inr ⟨zK.1 hu,jmi⟩
theorem jho{l c:List Nat}{i v:Nat}(h:l[i]?=some v):ja5 c (l.take (i+1))=(ja5 c (l.take i)).set v 0:=by
 unfold ja5;rw[zS,h];simp[List.foldl_append]
theorem jiU{S:Nat->Prop}{w:World}{sb:Nat}{d:Sd}{s:Ss}{m:Sp}{v:Value}{st:List Nat}(h:SrS S w sb d s m)(hS:Low S w)(hr:Rest d s)(hn:d.n<=10000)(hv:NatS S w v st)(hst:∀v∈st,v<d.n)(hsl:st.length<=10000):
 Calls Tryz.prog 59 #[.pointer (some ⟨sb,0,none⟩),v] w (jlP S w sb d (s.begin st)):=by
 obtain⟨ao,cap,rfl⟩:=hv.slice;have HV:=zA hv;obtain⟨n,am⟩:=eX st.length;rw[<- am]at HV hsl ⊢;have HN:=zA am;obtain⟨R,hR⟩:=eX (s.begin st);rw[<- hR];have HR:=zA hR;have HS:=zA hS;have ai:=zA hr;have H:=zA h;have ax:=zA hst;have ay:=zA hn;obtain⟨sa,sc,ak⟩:=jab h.seen;obtain⟨ns,ah⟩:=eX s.seen.length;rw[<- ah]at ak;have av:=zA ah;have aj:=zA ak;have hsb:ns<=1000000000000:=by have:=hr.sz;rw[<- ah]at this;omega
 have aG:=zA (fun wr=>jdj 24 wr (by omega));have aH:=h.cells.2.2.2.2.1;rw[ak]at aH;clear hv am hR hS hr h ah ak hst hn;go_enter Tryz.func59,Tryz.ntmps59;go_wp2_with fail;go_loopw [13] (fun c wr=>∃i:Nat,i<=ns/\c=.int .i64 i/\SrS S wr sb d ⟨ja5 s.came (s.seen.take i),s.fresh,s.seen,s.todo⟩ m/\Fr S w wr) (fun c _=>ns-(intOf c).toNat)
 case atStart=>exact⟨0,zO _,rfl,H.out,Fr.refl _ _⟩
 case round=>
  obtain⟨i,hi,rfl,af,ag⟩:=hrel;obtain⟨wx,aD⟩:=eX wr;subst aD;have ab:=zA af;have ar:=zA ag;clear af ag;by_cases hlt:i<ns
  . have an:(i:Int)<(ns:Int):=by omega
    obtain⟨u,hu⟩:∃u,s.seen[i]?=some u:=⟨_,zB (by rw[<- av.out];exact hlt)⟩
    have aA:u<d.n:=ai.out.slt u (zC hu);obtain⟨g,ad,aE,q0⟩:∃g ad,sa=some ⟨g,ad,none⟩/\wx.cell? ⟨g,ad+i,none⟩=some (.int .i64 (u:Int)):=by
     have h1:=jew ab.out.seen;dsimp only at h1;rw[aj.out]at h1;obtain⟨g,ad,e1,_,_,e4⟩:=h1.get hu;have e5:=getI e4;rw[yC]at e5;exact⟨g,ad,e1,e5⟩
    subst aE;have g27:=ab.out.cells.2.2.1;have k1:=ab.out.came.cell (i:=u) (by dsimp only;rw[jdq,ai.out.cl];exact aA);obtain⟨k1,k2⟩:=k1;have hudI:(u:Int)<(d.n:Int):=by omega
    have hdn:=ay.out;have au:Hid (SrS S (wx.setCell ⟨m.cb,u,none⟩ (.int .u32 0)) sb d ⟨ja5 s.came (s.seen.take (i+1)),s.fresh,s.seen,s.todo⟩ m):=zA (by
     rw[jho hu];exact ab.out.setCame u 0)
    have ap:=zA (ar.out.setCell (i:=u) H.out.cno (.int .u32 0));clear hu;go_wp2;go_roundw
    case rel=>exact⟨i+1,by omega,by go_num,au.out,ap.out⟩
    case measure=>simp[intOf];omega
  . have an:¬(i:Int)<(ns:Int):=by omega
    have aa:Hid (SrS S wx sb d ⟨ja5 s.came s.seen,s.fresh,s.seen,s.todo⟩ m):=zA (by
     have:=ab.out;rw[zJ (by rw[<- av.out];omega)]at this;exact this)
    clear ab;have aq:=aa.out.cells.2.2.2.2.1;have f29x:=aa.out.cells.2.2.2.2.2.2.1;rw[aj.out]at aq;have aF:Hid (SrS S (wx.setCell ⟨sb,29,none⟩ (.slice sa 0 sc)) sb d ⟨ja5 s.came s.seen,s.fresh,[],[]⟩ ⟨m.cb,m.fb,.slice sa 0 sc,m.tv,m.stv,m.rs⟩):=zA (by
     have h1:=aa.out.seen;dsimp only at h1;rw[<- av.out,aj.out]at h1;have h2:=aa.out.setSeen (l:=[]) (v:=.slice sa 0 sc) (HS.out.fr ar.out) (zD _) (fun _ _ _=>rfl) (by simpa using jfh h1 (zO _)) (fun g hg=>.inl (by rw[aj.out];cases sa<;>exact hg));dsimp only at h2;rw[ai.out.td]at h2;exact h2)
    have aI:=zA (ar.out.setCell (i:=29) H.out.no (.slice sa 0 sc));have hscI:(0:Int)<=(sc:Int):=by omega
    go_wp2_with fail;go_loopw [34] (fun c wr=>∃(i:Nat) (m':Sp),i<=n/\c=.int .i64 i/\SrS S wr sb d ((st.take i).foldl (fun s v=>s.come v 16777216) ⟨ja5 s.came s.seen,s.fresh,[],[]⟩) m'/\Fr S w wr) (fun c _=>n-(intOf c).toNat)
    case atStart=>exact⟨0,_,zO _,rfl,aF.out,aI.out⟩
    case round=>
     obtain⟨j,m',hj,rfl,af,ag⟩:=hrel;obtain⟨wy,aB⟩:=eX wr;subst aB;have ab:=zA af;have al:=zA ag;clear af ag;by_cases hlt2:j<n
     . have ae:(j:Int)<(n:Int):=by omega
       obtain⟨u,hu⟩:∃u,st[j]?=some u:=⟨_,zB (by rw[<- HN.out];exact hlt2)⟩
       obtain⟨g,ad,aC,_,_,ac⟩:=(HV.out.fr al.out).get hu;subst aC;have q0:=getI ac;rw[yC]at q0;have HX:Hid ((st.take (j+1)).foldl (fun s v=>s.come v 16777216) ⟨ja5 s.came s.seen,s.fresh,[],[]⟩=((st.take j).foldl (fun s v=>s.come v 16777216) (⟨ja5 s.came s.seen,s.fresh,[],[]⟩:Ss)).come u 16777216):=zA (by
        rw[zS,hu,yQ,List.foldl_append,yN,List.foldl_nil])
       have C:=zA (jic ab.out (HS.out.fr al.out) ((jgF ai.out ax.out j).1.fit ay.out) (ax.out u (zC hu)) (show 16777216<33554432 by omega));clear hu ac;go_wp2_with fail;refine(aG.out _).mono ?_;rintro e w1 ⟨rfl,rfl⟩;go_wp2_with fail;refine C.out.mono ?_;rintro e w1 ⟨rfl,⟨m2,az⟩,aw⟩;have au:=zA az;have ap:=zA (al.out.trans aw);clear az aw;go_wp2;go_roundw
       case rel=>exact⟨j+1,m2,by omega,by go_num,by rw[HX.out];exact au.out,ap.out⟩
       case measure=>simp[intOf];omega
     . have ae:¬(j:Int)<(n:Int):=by omega
       have HX:Hid ((st.take j).foldl (fun s v=>s.come v 16777216) ⟨ja5 s.came s.seen,s.fresh,[],[]⟩=R):=zA (by rw[HR.out,Ss.begin,zJ (by rw[<- HN.out];omega)]);go_wp2;go_end0;exact⟨rfl,⟨m',by rw[<- HX.out];exact ab.out⟩,al.out⟩
end Go.Proofs.YtkbgmcmcpbegjaaGreatDoor
namespace Go.Proofs.YtkbgmcmcpbegjaaGreatDoor
open Go.RowKit Go.Sort Go.Lib Go.Shelf
theorem jhn:∀(a b:List UInt8),less a b=true↔a<b
 |[],[]=>by simp[less,Op.bytesLess]
 |[],b::bs=>by simp[less,Op.bytesLess]
 |a::xs,[]=>by simp[less,Op.bytesLess]
 |a::xs,b::bs=>by
  have ih:=jhn xs bs;simp only[less]at ih;simp only[less,Op.bytesLess,Bool.or_eq_true,decide_eq_true_eq,Bool.and_eq_true,beq_iff_eq,List.cons_lt_cons_iff,ih]
theorem jfM(a b:List UInt8):decide (a<=b)= !less b a:=by
 cases h:less b a with
 |true=>
  have:=(jhn b a).1 h;simp only[Bool.not_true,decide_eq_false_iff_not];exact fun h2=>h2 this
 |false=>
  simp only[Bool.not_false,decide_eq_true_eq];intro h2;rw[(jhn b a).2 h2]at h;cases h
def jfO(N:List Wd):List Wd:=N.mergeSort fun x y=>decide (x<=y)
theorem jbn(N:List Wd):(jfO N).Perm N:=List.mergeSort_perm _ _
theorem jis{N:List Wd}(hd:N.Nodup):ja2 less (jfO N):=by
 have hs:(jfO N).Pairwise (fun x y=>decide (x<=y)=true):=by
  unfold jfO;apply List.pairwise_mergeSort
  . intro a b c h1 h2;rw[jfM,Bool.not_eq_true']at*;cases h3:less c a with
    |false=>rfl
    |true=>
     cases h4:less a b with
     |true=>rw[ordW.tr _ _ _ h3 h4]at h2;cases h2
     |false=>
      have:=ordW.tot _ _ h1 h4;subst this;rw[h3]at h2;cases h2
  . intro a b;rw[jfM,jfM];cases h1:less b a with
    |false=>simp
    |true=>rw[ordW.asymm h1];rfl
 have hn:(jfO N).Nodup:=(jbn N).nodup_iff.2 hd;refine(hs.and hn).imp ?_;rintro a b ⟨h1,h2⟩;rw[jfM,Bool.not_eq_true']at h1;cases h:less a b with
 |true=>rfl
 |false=>exact absurd (ordW.tot a b h h1) h2
theorem jgP(l:List Wd):l.flatMap csT=l.map encStr:=by
 induction l with
 |nil=>rfl
 |cons a l ih=>rw[yT,ih];rfl
theorem ja1(l:List Nat):l.flatMap csI=(l.map fun (i:Nat)=>(i:Int)).map (Value.int .i64):=by
 induction l with
 |nil=>rfl
 |cons a l ih=>rw[yT,ih];rfl
theorem jcI{α:Type}[Inhabited α]{enc:α->Value}{w:World}{g q:Nat}{d:Array α}{os:Array Obj}:w.grownBy (grow (putRow enc (Sort.ahead w q) g 0 d) os) (some g):=by
 refine⟨rfl,rfl,rfl,by simp[Sort.ahead],fun k hk hne=>?_⟩;rw[heap_grow_old _ _ (by simpa[Sort.ahead]using hk)];have:g≠k:=fun e=>hne (by rw[e])
 simp[putRow,mapBlock,Sort.ahead,Array.getElem?_modify,this]
theorem jeu{α:Type}[Inhabited α]{enc:α->Value}{w:World}{B n g cap:Nat}{e:TypeId}{zs:List α}(h:w.ownsRow B e 1 (.slice (some ⟨g,0,none⟩) n cap) n (zs.map enc))(hn:n=zs.length):Holds enc w g 0 zs.toArray:=fun j hj=>by
 have hj:j<zs.length:=by simpa using hj
 have h1:=h.cellAt j (by omega);refine⟨?_,by rw[Nat.zero_add];exact h.frozenAt j⟩;rw[Nat.zero_add,h1,zI,zB hj];simp[getElem!_pos,hj]
theorem jh7{w:World}{B n:Nat}{e:TypeId}{v:Value}{xs:List Value}(h:w.ownsRow B e 1 v n xs)(os:Array Obj):(grow w os).ownsRow B e 1 v n xs:=
 jae h (fun g o hg ho=>by rw[heap_grow_old _ _ (lt_of_block ho)];exact ho)
theorem jjf{w:World}{B:Nat}{v:Value}{N:List Wd}(h:w.ownsRow B 9 1 v N.length (N.flatMap csT))(hl:N.length<=1000000):
 Calls Tryz.prog 56 #[v] w fun e w'=>e=.returned (.tuple #[])/\w'.ownsRow B 9 1 v N.length ((jfO N).flatMap csT)/\w.grownBy w' v.ownBlock:=by
 have h0:=h;rcases h.2 with⟨rfl,h1⟩|⟨g,aa,cur,rfl,_⟩
 . have hN:N=[]:=yP.1 h1;subst hN;refine(Tryz.slices_Sort_string_none _ _ _).mono ?_;rintro e w' ⟨rfl,rfl⟩;exact⟨rfl,by simpa[jfO]using h0,⟨rfl,rfl,rfl,zD _,fun _ _ _=>rfl⟩⟩
 . rw[jgP]at h0;refine(Tryz.slices_Sort_string g 0 aa N w (jeu h0 rfl) (h0.lt g rfl).2 (by omega)).mono ?_;rintro e w' ⟨rfl,q,os,rfl⟩;refine⟨rfl,?_,jcI⟩;rw[jgP];have h2:=ownsRow_putRow (q:=q) (k:=N.length) (ys:=jfO N) h0 (by rw[(jbn N).length_eq]) (zD _);rw[zJ (by rw[(jbn N).length_eq];exact zD _)]at h2;exact jh7 h2 os
def jdY(l:List Nat):List Nat:=l.mergeSort fun x y=>decide (x<=y)
theorem jbY(N:List Nat):(jdY N).Perm N:=List.mergeSort_perm _ _
theorem jiI{N:List Nat}(hd:N.Nodup):(jdY N).Pairwise (·<·):=by
 have hs:(jdY N).Pairwise (fun x y=>decide (x<=y)=true):=by
  unfold jdY;apply List.pairwise_mergeSort
  . intro a b c h1 h2;simp only[decide_eq_true_eq]at*;omega
  . intro a b;simp only[Bool.or_eq_true,decide_eq_true_eq];omega
 have hn:(jdY N).Nodup:=(jbY N).nodup_iff.2 hd;refine(hs.and hn).imp ?_;rintro a b ⟨h1,h2⟩;have h1:=of_decide_eq_true h1;have h2:a≠b:=h2;omega
theorem ji2(l:List Nat):(l.map fun (i:Nat)=>(i:Int)).mergeSort (fun x y=>decide (x<=y))=(jdY l).map fun (i:Nat)=>(i:Int):=by
 unfold jdY;rw[List.map_mergeSort];intro a _ b _;simp
theorem jjH{w:World}{B:Nat}{v:Value}{N:List Nat}(h:w.ownsRow B 3 1 v N.length (N.flatMap csI))(hl:N.length<=1000000):
 Calls Tryz.prog 63 #[v] w fun e w'=>e=.returned (.tuple #[])/\w'.ownsRow B 3 1 v N.length ((jdY N).flatMap csI)/\w.grownBy w' v.ownBlock:=by
 have h0:=h;rcases h.2 with⟨rfl,h1⟩|⟨g,aa,cur,rfl,_⟩
 . have hN:N=[]:=yP.1 h1;subst hN;refine(Tryz.slices_Sort_int_none _ _ _).mono ?_;rintro e w' ⟨rfl,rfl⟩;exact⟨rfl,by simpa[jdY]using h0,⟨rfl,rfl,rfl,zD _,fun _ _ _=>rfl⟩⟩
 . rw[ja1]at h0;have hc:=Tryz.slices_Sort_int g 0 aa (N.map fun (i:Nat)=>(i:Int)) w (jeu h0 (by simp)) (h0.lt g rfl).2 (by simp;omega);rw[zH]at hc;refine hc.mono ?_;rintro e w' ⟨rfl,q,os,rfl⟩;refine⟨rfl,?_,jcI⟩;rw[ja1,ji2];have h2:=ownsRow_putRow (q:=q) (k:=N.length) (ys:=(jdY N).map fun (i:Nat)=>(i:Int)) h0 (by rw[zH,(jbY N).length_eq]) (zD _);rw[zJ (by rw[zH,(jbY N).length_eq];exact zD _)]at h2;exact jh7 h2 os
end Go.Proofs.YtkbgmcmcpbegjaaGreatDoor
