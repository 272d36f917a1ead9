/- ERTakM, ERPlM, EOpen, ELit. -/
import Derived.Test.YtjoddkeamboeoaaMG36
set_option maxRecDepth 100000
namespace Go.Proofs.Ytjoddkeamboeoaa
open Go.RowKit Go.Shelf
def NtR(w:World)(B:Nat)(v:Value)(ns:List NoteD):Prop:=
 (ns=[]/\v=.slice none 0 0)\/∃g cap n a0 l0 c0 a1 l1 c1 a2 l2 c2,ns=[n]/\v=.slice (some ⟨g,0,none⟩) 1 cap/\w.ownsRow B 36 4 v 1 [.int .i64 n.kind,.slice a0 l0 c0,.slice a1 l1 c1,.slice a2 l2 c2]/\NoteOwn w B (.agg #[.int .i64 n.kind,.slice a0 l0 c0,.slice a1 l1 c1,.slice a2 l2 c2]) n
theorem NtR.keep{w w':World}{B:Nat}{v:Value}{ns:List NoteD}(h:NtR w B v ns)(hk:∀k o,B<=k->w.heap[k]?=some o->w'.heap[k]?=some o):NtR w' B v ns:=by
 rcases h with h|⟨g,cap,n,a0,l0,c0,a1,l1,c1,a2,l2,c2,h1,h2,h3,h4⟩
 . exact .inl h
 . refine .inr ⟨g,cap,n,a0,l0,c0,a1,l1,c1,a2,l2,c2,h1,h2,⟨h3.1,?_⟩,h4.keep hk⟩;rcases h3.2 with h0|⟨g,cap,cur,e1,e2,e3,e4⟩
   . exact .inl h0
   . exact .inr ⟨g,cap,cur,e1,e2,hk g _ e2 e3,e4⟩
theorem NtR.base{w:World}{B B':Nat}{v:Value}{ns:List NoteD}(h:NtR w B v ns)(hB:B'<=B):NtR w B' v ns:=by
 rcases h with h|⟨g,cap,n,a0,l0,c0,a1,l1,c1,a2,l2,c2,h1,h2,h3,h4⟩
 . exact .inl h
 . refine .inr ⟨g,cap,n,a0,l0,c0,a1,l1,c1,a2,l2,c2,h1,h2,⟨h3.1,?_⟩,h4.base hB⟩;rcases h3.2 with h0|⟨g,cap,cur,e1,e2,e3,e4⟩
   . exact .inl h0
   . exact .inr ⟨g,cap,cur,e1,zS hB e2,e3,e4⟩
def RTakE(T:Nat->Prop)(w:World)(e:En)(l:List UInt8)(x:Ending)(w':World):Prop:=
 ∃vq' a0 l0 c0 a1 l1 c1,x=.returned (.tuple #[rvE (takeE e l).1 vq',.slice a0 l0 c0,.slice a1 l1 c1,.bool (takeE e l).2.2.2])/\TxR (Nw T w w') w' vq' (takeE e l).1.q/\NtR w' w.heap.size (.slice a0 l0 c0) (takeE e l).2.1/\OneT w' w.heap.size (.slice a1 l1 c1) (takeE e l).2.2.1/\Below w.heap.size w w'
abbrev takW(w:World)(e:En)(vq:Value):World:=(w.alloc (.cells #[.int .i64 e.ep,.int .i64 e.ot,.int .i64 e.fs,.int .i64 e.wt,vq] 29)).alloc (.cells #[.int .i64 0,.int .i64 0,.int .i64 0,.int .i64 0,.slice none 0 0] 29)
abbrev notC(k:Int)(a0:Option Addr)(l0 c0:Nat)(a1:Option Addr)(l1 c1:Nat)(a2:Option Addr)(l2 c2:Nat):Obj:=.cells #[.int .i64 k,.slice a0 l0 c0,.slice a1 l1 c1,.slice a2 l2 c2] 36
structure TkR (T:Nat->Prop) (w:World) (e:En) (ao:Option Addr) (m cap b nb:Nat) (n:NoteD) (a0:Option Addr) (l0 c0:Nat) (a1:Option Addr) (l1 c1:Nat) (a2:Option Addr) (l2 c2:Nat) (W:World):Prop where
 hb:w.heap.size=b
 lk:W.heap[b]?=some (.cells #[.int .i64 e.ep,.int .i64 e.ot,.int .i64 e.fs,.int .i64 e.wt,.slice ao m cap] 29 (0,0))
 rs:W.heap[b+1]?=some (.cells #[.int .i64 0,.int .i64 0,.int .i64 0,.int .i64 0,.slice none 0 0] 29 (0,0))
 nt:W.heap[nb]?=some (.cells #[.int .i64 n.kind,.slice a0 l0 c0,.slice a1 l1 c1,.slice a2 l2 c2] 36 (0,0))
 own:NoteOwn W (b+1+1) (.agg #[.int .i64 n.kind,.slice a0 l0 c0,.slice a1 l1 c1,.slice a2 l2 c2]) n
 bel:Below w.heap.size w W
 tx:TxR T W (.slice ao m cap) e.q
 low:Low T w
 nbb:b+1+1<=nb
section
variable {T:Nat->Prop} {w:World} {e:En} {ao:Option Addr} {m cap b nb:Nat} {n:NoteD} {a0:Option Addr} {l0 c0:Nat} {a1:Option Addr} {l1 c1:Nat} {a2:Option Addr} {l2 c2:Nat} {W:World}
theorem TkR.of{w1:World}(hb:w.heap.size=b)(htx:TxR T w (.slice ao m cap) e.q)(hlow:Low T w)(hown:NoteOwn w1 (b+1+1) (.agg #[.int .i64 n.kind,.slice a0 l0 c0,.slice a1 l1 c1,.slice a2 l2 c2]) n)(h1:Below (takW w e (.slice ao m cap)).heap.size (takW w e (.slice ao m cap)) w1):
 TkR T w e ao m cap b w1.heap.size n a0 l0 c0 a1 l1 c1 a2 l2 c2 (w1.alloc (notC n.kind a0 l0 c0 a1 l1 c1 a2 l2 c2)):=by
 have hs:(takW w e (.slice ao m cap)).heap.size=b+1+1:=by simp;omega
 have hbW:Below w.heap.size w (takW w e (.slice ao m cap)):=((zB _ _).alloc (zC _) _).alloc (by simp) _;have hsz:b+1+1<=w1.heap.size:=by rw[<- hs];exact h1.size
 have h2:Below (takW w e (.slice ao m cap)).heap.size (takW w e (.slice ao m cap)) (w1.alloc (notC n.kind a0 l0 c0 a1 l1 c1 a2 l2 c2)):=h1.alloc (by omega) _;have hbel:=hbW.trans (h2.mono hbW.size);refine { hb:=hb,lk:=?_,rs:=?_,nt:=box_at w1 _,own:=hown.below ((zB _ _).alloc (zC _) _),bel:=hbel,tx:=htx.below hbel,low:=hlow,nbb:=hsz }
 . refine(h2.block b (by omega)).trans ?_;rw[<- hb];exact(Below.heap_alloc _ _ _ (by simp)).trans (box_at w _)
 . refine(h2.block (b+1) (by omega)).trans ?_;have h:=box_at (w.alloc (.cells #[.int .i64 e.ep,.int .i64 e.ot,.int .i64 e.fs,.int .i64 e.wt,.slice ao m cap] 29)) (.cells #[.int .i64 0,.int .i64 0,.int .i64 0,.int .i64 0,.slice none 0 0] 29);have hs2:(w.alloc (.cells #[.int .i64 e.ep,.int .i64 e.ot,.int .i64 e.fs,.int .i64 e.wt,.slice ao m cap] 29)).heap.size=b+1:=by simp;omega
   rw[hs2]at h;exact h
theorem TkR.keep{W':World}(h:TkR T w e ao m cap b nb n a0 l0 c0 a1 l1 c1 a2 l2 c2 W)(hb:Below W.heap.size W W'):TkR T w e ao m cap b nb n a0 l0 c0 a1 l1 c1 a2 l2 c2 W':=
 { h with lk:=(hb.block _ (lt_of_block h.lk)).trans h.lk,rs:=(hb.block _ (lt_of_block h.rs)).trans h.rs,nt:=(hb.block _ (lt_of_block h.nt)).trans h.nt,own:=h.own.below hb,bel:=h.bel.trans (hb.mono h.bel.size),tx:=h.tx.below hb }
theorem TkR.same{l:List UInt8}(h:TkR T w e ao m cap b nb n a0 l0 c0 a1 l1 c1 a2 l2 c2 W)(ht:takeE e l=(e,[],[],false)):
 RTakE T w e l (.returned (.tuple #[rvE e (.slice ao m cap),.slice none 0 0,.slice none 0 0,.bool false])) (set5 W (b+1) (.int .i64 e.ep) (.int .i64 e.ot) (.int .i64 e.fs) (.int .i64 e.wt) (.slice ao m cap)):=by
 unfold RTakE;rw[ht];refine⟨_,_,_,_,_,_,_,rfl,h.tx.keep (fun g cur hg ho=>⟨.inl hg,?_⟩),.inl ⟨rfl,rfl⟩,.inl ⟨rfl,rfl⟩,set5_below h.bel (by have:=h.hb;omega) _ _ _ _ _⟩;exact(set5_other (fun e=>by
  have hlt:=h.low g hg;have:=h.hb;omega) _ _ _ _ _).trans ho
theorem TkR.cells(h:TkR T w e ao m cap b nb n a0 l0 c0 a1 l1 c1 a2 l2 c2 W):(W.cell? ⟨nb,0,none⟩=some (.int .i64 n.kind)/\W.cell? ⟨nb,1,none⟩=some (.slice a0 l0 c0)/\W.cell? ⟨nb,2,none⟩=some (.slice a1 l1 c1)/\W.cell? ⟨nb,3,none⟩=some (.slice a2 l2 c2))/\W.cell? ⟨b,1,none⟩=some (.int .i64 e.ot):=⟨(four_cells h.nt).1,(five_cells h.lk).1.2.1⟩
end
structure PM (w0:World) (S:Nat->Prop) (W:World) (b rb:Nat) (e1 e2:En) (lq:Value):Prop where
 lb:∃vq,LB S W b vq e1
 q:W.heap[rb]?=some (.cells #[.int .i64 e2.ep,.int .i64 e2.ot,.int .i64 e2.fs,.int .i64 e2.wt,lq] 29 (0,0))
 rS:S rb
 tx:TxR S W lq e2.q
 low:Low S W
 sub:∀k,k<w0.heap.size->S k
 bel:Below w0.heap.size w0 W
 r0:w0.heap.size<=rb
section
variable {w0:World} {S:Nat->Prop} {W W':World} {b rb:Nat} {e1 e2 e1' e2':En} {lq lq':Value}
theorem PM.below(h:PM w0 S W b rb e1 e2 lq)(hb:Below W.heap.size W W'):PM w0 S W' b rb e1 e2 lq:=by
 obtain⟨vq,hl⟩:=h.lb;exact { h with lb:=⟨vq,hl.below hb⟩,q:=(hb.block _ (lt_of_block h.q)).trans h.q,tx:=h.tx.below hb,low:=h.low.below hb,bel:=h.bel.trans (hb.mono h.bel.size) }
theorem nw_low(h:Low S W)(hb:Below W.heap.size W W'):Low (Nw S W W') W':=fun k hk=>hk.elim (fun h1=>zF (h k h1) hb.size) (fun h1=>h1.2)
theorem PM.nw(h:PM w0 S W b rb e1 e2 lq)(hb:Below W.heap.size W W'):PM w0 (Nw S W W') W' b rb e1 e2 lq:=by
 obtain⟨vq,hl⟩:=h.lb;exact { lb:=⟨vq,hl.nw hb⟩,q:=(hb.block _ (lt_of_block h.q)).trans h.q,rS:=.inl h.rS,tx:=h.tx.keep (fun _ _ hg ho=>⟨.inl hg,(hb.block _ (lt_of_block ho)).trans ho⟩),low:=nw_low h.low hb,sub:=fun k hk=>.inl (h.sub k hk),bel:=h.bel.trans (hb.mono h.bel.size),r0:=h.r0 }
theorem PM.prog(h:PM w0 S W b rb e1 e2 lq){vq:Value}(hl:LB S W' b vq e1')(hf:Fr S W W'):PM w0 S W' b rb e1' e2 lq:=
 {lb:=⟨vq,hl⟩,q:=(hf.block _ h.rS).trans h.q,rS:=h.rS,tx:=h.tx.keep (fun _ _ hg ho=>⟨hg,(hf.block _ hg).trans ho⟩),low:=h.low.fr hf,sub:=h.sub,bel:=h.bel.trans (hf.below h.sub),r0:=h.r0 }
theorem PM.store(h:PM w0 S W b rb e1 e2 lq)(ht:TxR S W lq' e2'.q):PM w0 S (set5 W rb (.int .i64 e2'.ep) (.int .i64 e2'.ot) (.int .i64 e2'.fs) (.int .i64 e2'.wt) lq') b rb e1 e2' lq':=by
 obtain⟨vq,hl⟩:=h.lb;have ho:∀k,k≠rb->(set5 W rb (.int .i64 e2'.ep) (.int .i64 e2'.ot) (.int .i64 e2'.fs) (.int .i64 e2'.wt) lq').heap[k]?=W.heap[k]?:=fun k hk=>set5_other hk _ _ _ _ _
 have hb5:=set5_below (zB rb W) (zC rb) (.int .i64 e2'.ep) (.int .i64 e2'.ot) (.int .i64 e2'.fs) (.int .i64 e2'.wt) lq';have hf:Fr (fun k=>k≠rb) W (set5 W rb (.int .i64 e2'.ep) (.int .i64 e2'.ot) (.int .i64 e2'.fs) (.int .i64 e2'.wt) lq'):=⟨hb5.os,hb5.tape,hb5.output,hb5.size,ho⟩
 refine { lb:=⟨vq,hl.other hf (fun e=>hl.out (e▸h.rS)) (fun g hg e=>hl.outq g hg (e▸h.rS))⟩,q:=set5_block h.q _ _ _ _ _,rS:=h.rS,tx:=ht.keep (fun _ _ hg hgo=>⟨hg,(ho _ (fun e=>?_)).trans hgo⟩),low:=h.low.fr hf,sub:=h.sub,bel:=h.bel.trans (hb5.mono h.r0),r0:=h.r0 };rw[e,h.q]at hgo;simp only[Option.some.injEq,Obj.cells.injEq]at hgo;exact absurd hgo.2.1 (by decide)
theorem PM.slice(h:PM w0 S W b rb e1 e2 lq):∃ao cap,lq=.slice ao e2.q.length cap:=by
 obtain⟨ao,cap,e,-⟩:=h.tx;exact⟨ao,cap,e⟩
end
end Go.Proofs.Ytjoddkeamboeoaa
namespace Go.Proofs.Ytjoddkeamboeoaa
open Go.RowKit Go.Joins
structure OpL where
 kind:Int
 n:NoteD
 text:List UInt8
 nums:List Int
 number:Int
def OpLAt(w:World)(v:Value)(o:OpL):Prop:=
 ∃x1 x2 x3 vi,v=.agg #[.int .i64 o.kind,.int .i64 o.n.kind,x1,x2,x3,.string ⟨o.text.toArray⟩,vi,.int .i64 o.number]/\NoteAt w (.agg #[.int .i64 o.n.kind,x1,x2,x3]) o.n/\o.n.sane/\IntsAt w vi o.nums/\o.text.length<=140737488351232
def OpLsAt(w:World)(v:Value)(os:List OpL):Prop:=
 os.length<=9223372036854775807/\∃ao cap,v=.slice ao os.length cap/\(os=[]\/∃b o,ao=some ⟨b,o,none⟩/\b<w.heap.size/\∀(j:Nat) p,os[j]?=some p->∃c2 c3 c4 c6,
  w.cell? ⟨b,o+j*8,none⟩=some (.int .i64 p.kind)/\w.cell? ⟨b,o+j*8+1,none⟩=some (.int .i64 p.n.kind)/\w.cell? ⟨b,o+j*8+2,none⟩=some c2/\w.cell? ⟨b,o+j*8+3,none⟩=some c3/\w.cell? ⟨b,o+j*8+4,none⟩=some c4/\w.cell? ⟨b,o+j*8+5,none⟩=some (.string ⟨p.text.toArray⟩)/\w.cell? ⟨b,o+j*8+6,none⟩=some c6/\w.cell? ⟨b,o+j*8+7,none⟩=some (.int .i64 p.number)/\
  OpLAt w (.agg #[.int .i64 p.kind,.int .i64 p.n.kind,c2,c3,c4,.string ⟨p.text.toArray⟩,c6,.int .i64 p.number]) p)
theorem trod_struct5L{P:Program}{H:Type}{enc:TypeId×Value->H}{w:World}{base:Nat}{spare:TypeId->Bool}{held:Bool}{t:TypeId}{f0 f1 f2 f3 f4:Field}{fuel:Nat}{cs:List Value}{x:DataW H×List MemPlace}(ht:P.underlying t=some (.struct #[f0,f1,f2,f3,f4]))(h:DataW.trod enc P w base spare held fuel t cs=some x):
 ∃y0 y1 y2 y3 y4 n,x=(.agg [y0.1,y1.1,y2.1,y3.1,y4.1],y0.2++(y1.2++(y2.2++(y3.2++y4.2))))/\cs.length=P.cellsOf t/\DataW.trod enc P w base spare held n f0.type ((cs.drop f0.offset).take (P.cellsOf f0.type))=some y0/\
  DataW.trod enc P w base spare held n f1.type ((cs.drop f1.offset).take (P.cellsOf f1.type))=some y1/\DataW.trod enc P w base spare held n f2.type ((cs.drop f2.offset).take (P.cellsOf f2.type))=some y2/\DataW.trod enc P w base spare held n f3.type ((cs.drop f3.offset).take (P.cellsOf f3.type))=some y3/\DataW.trod enc P w base spare held n f4.type ((cs.drop f4.offset).take (P.cellsOf f4.type))=some y4:=by
 obtain⟨xs,n,_,rfl,hl,hlen,hf⟩:=DataW.trod_struct ht h
 match xs,hlen with
 |[y0,y1,y2,y3,y4],_=>exact⟨y0,y1,y2,y3,y4,n,by simp,hl,by simpa using hf 0 f0 rfl,by simpa using hf 1 f1 rfl,by simpa using hf 2 f2 rfl,by simpa using hf 3 f3 rfl,by simpa using hf 4 f4 rfl⟩
theorem open_opL{H:Type}{enc:TypeId×Value->H}{W:World}{fuel:Nat}{cs:List Value}{x:DataW H×List MemPlace}
 (hf:DataW.trod enc Try.prog W 0 (fun _=>true) true fuel 38 cs=some x) (hw:∀m∈x.1.weights Try.prog 38,m<=reachBytes):
 ∃p c2 c3 c4 c6,cs=[.int .i64 p.kind,.int .i64 p.n.kind,c2,c3,c4,.string ⟨p.text.toArray⟩,c6,.int .i64 p.number]/\OpLAt W (.agg #[.int .i64 p.kind,.int .i64 p.n.kind,c2,c3,c4,.string ⟨p.text.toArray⟩,c6,.int .i64 p.number]) p:=by
 obtain⟨y0,y1,y2,y3,y4,n,hx,hlen,h0,h1,h2,h3,h4⟩:=trod_struct5L Try.underlying38 hf;have e8:Try.prog.cellsOf 38=8:=by kernel_rfl
 have e0:Try.prog.cellsOf 3=1:=by kernel_rfl
 have e1:Try.prog.cellsOf 36=4:=by kernel_rfl
 have e2:Try.prog.cellsOf 9=1:=by kernel_rfl
 have e3:Try.prog.cellsOf 33=1:=by kernel_rfl
 rw[e8]at hlen;obtain⟨c0,c1,c2,c3,c4,c5,c6,c7,rfl⟩:∃c0 c1 c2 c3 c4 c5 c6 c7,cs=[c0,c1,c2,c3,c4,c5,c6,c7]:=by
  match cs,hlen with
  |[c0,c1,c2,c3,c4,c5,c6,c7],_=>exact⟨c0,c1,c2,c3,c4,c5,c6,c7,rfl⟩
 simp only[e0,e1,e2,e3,List.drop_zero,List.drop_succ_cons,List.take_succ_cons,List.take_zero]at h0 h1 h2 h3 h4;rw[hx]at hw;simp only[DataW.weights,Try.underlying38,List.map_cons,List.map_nil,DataW.weightsEach,List.append_nil]at hw;obtain⟨k0,hk0,_,_⟩:=DataW.trod_int Try.underlying3 h0;obtain⟨k1,hk1,_,_⟩:=DataW.trod_int Try.underlying3 h4;simp only[List.cons.injEq,and_true]at hk0 hk1;subst hk0 hk1;obtain⟨nd,d1,d2,d3,hcs,hnd,hns⟩:=open_note h1 (fun m hm=>hw m (by simp[hm]));simp only[List.cons.injEq,and_true]at hcs;obtain⟨rfl,rfl,rfl,rfl⟩:=hcs;obtain⟨s,hs,hsy,hsl⟩:=DataW.trod_string Try.underlying9 h2;simp only[List.cons.injEq,and_true]at hs;subst hs;obtain⟨l,hl⟩:=open_nums2 h3;have hsz:s.data.toList.length<=140737488351232:=hw _ (by rw[hsy];simp[DataW.weights]);obtain⟨t,rfl⟩:∃t:List UInt8,s=⟨t.toArray⟩:=⟨s.data.toList,by simp⟩
 exact⟨⟨k0,nd,t,l,k1⟩,_,_,_,c6,rfl,_,_,_,c6,rfl,hnd,hns,hl,hsz⟩
theorem open_opLs{H:Type}{enc:TypeId×Value->H}{W:World}{fuel:Nat}{v:Value}{x:DataW H×List MemPlace}
 (hf:DataW.trod enc Try.prog W 0 (fun _=>true) true fuel 22 [v]=some x) (hw:∀m∈x.1.weights Try.prog 22,m<=reachBytes):
 ∃os,OpLsAt W v os:=by
 have e8:Try.prog.cellsOf 38=8:=by kernel_rfl
 rcases Go.Deep.open_slice Try.underlying22 hf with⟨hcs,_⟩|⟨a,len,cap,m,n,D,Pl,hcs,_,hl,hm,hmm,hx,hcell⟩
 . simp only[List.cons.injEq,and_true]at hcs;subst hcs;exact⟨[],by simp,none,0,rfl,.inl rfl⟩
 . simp only[List.cons.injEq,and_true]at hcs;subst hcs;simp only[if_true]at hmm;rw[e8]at hcell;have key:∀i,i<len->∃p c2 c3 c4 c6,W.cells? 0 (a.add (i*8)) 8=some [.int .i64 p.kind,.int .i64 p.n.kind,c2,c3,c4,.string ⟨p.text.toArray⟩,c6,.int .i64 p.number]/\OpLAt W (.agg #[.int .i64 p.kind,.int .i64 p.n.kind,c2,c3,c4,.string ⟨p.text.toArray⟩,c6,.int .i64 p.number]) p:=by
    intro i hi;obtain⟨cs,h1,h2⟩:=hcell i (by omega);obtain⟨p,c2,c3,c4,c6,rfl,h3⟩:=open_opL h2 (fun q hq=>hw q (by
     rw[hx];simp only[DataW.weights,Try.underlying22];exact List.mem_cons_of_mem _ (List.mem_append_left _ (weights_mem_all (List.mem_map.2 ⟨i,List.mem_range.2 hi,rfl⟩) q hq))))
    exact⟨p,c2,c3,c4,c6,h1,h3⟩
   obtain⟨F,hF⟩:∃F:Nat->OpL,∀i,i<len->∃c2 c3 c4 c6,W.cells? 0 (a.add (i*8)) 8=some [.int .i64 (F i).kind,.int .i64 (F i).n.kind,c2,c3,c4,.string ⟨(F i).text.toArray⟩,c6,.int .i64 (F i).number]/\OpLAt W (.agg #[.int .i64 (F i).kind,.int .i64 (F i).n.kind,c2,c3,c4,.string ⟨(F i).text.toArray⟩,c6,.int .i64 (F i).number]) (F i):=
    ⟨fun i=>if h:i<len then Classical.choose (key i h)else⟨0,.none,[],[],0⟩,fun i hi=>by simp only[hi,dif_pos];exact Classical.choose_spec (key i hi)⟩
   have hvl:((List.range len).map F).length=len:=by simp
   refine⟨(List.range len).map F,by rw[hvl];unfold maxLen at hm;omega,some a,cap,by rw[hvl],?_⟩;by_cases h0:len=0
   . left;rw[h0];rfl
   . right;obtain⟨b,off,spot⟩:=a;obtain⟨d1,d2,d3,d4,g1,_⟩:=hF 0 (by omega);have g2:=(World.cells?_some g1).2.2 0 (by omega);have hspot:spot=none:=by simpa[Addr.add]using World.cell?_spot g2
     subst hspot;have hlt:=World.block_lt_of_cell? W _ g2;simp only[Go.WideShapes.add_plain]at hlt;refine⟨b,off,rfl,hlt,fun j p hj=>?_⟩;have hj1:j<len:=by have:=(zG.1 hj).1;rwa[hvl]at this
     rw[zP,List.getElem?_range hj1]at hj;simp only[Option.map_some,Option.some.injEq]at hj;subst hj;obtain⟨c2,c3,c4,c6,k1,k2⟩:=hF j hj1;have k4:=(World.cells?_some k1).2.2;have q0:=k4 0 (by omega);have q1:=k4 1 (by omega);have q2:=k4 2 (by omega);have q3:=k4 3 (by omega);have q4:=k4 4 (by omega);have q5:=k4 5 (by omega);have q6:=k4 6 (by omega);have q7:=k4 7 (by omega);simp only[Go.WideShapes.add_plain,yA]at q0 q1 q2 q3 q4 q5 q6 q7;exact⟨c2,c3,c4,c6,q0,q1,q2,q3,q4,q5,q6,q7,k2⟩
end Go.Proofs.Ytjoddkeamboeoaa
namespace Go.Proofs.Ytjoddkeamboeoaa
open Go.RowKit
set_option maxHeartbeats 1000000 in
theorem lightL_any(v:Value)(n:NoteD)(w:World)(h:NoteAt w v n):
 Calls Try.prog 12 #[v] w fun e w'=>IsBool e/\Below w.heap.size w w':=by
 obtain⟨vn,vt,vr,rfl,_,ht,hr⟩:=h;obtain⟨hl1,a1,c1,rfl,hc1⟩:=ht;obtain⟨hl2,a2,c2,vs,rfl,hvl,hc2,hrs⟩:=hr.parts;have H1:=zA hc1;have H2:=zA hc2;have HV:=zA hvl;have HR:=zA hrs;clear hc1 hc2 hvl hrs hr;go_enter Try.func12,Try.ntmps12;go_wp2;go_loop [3,4] (fun k c=>∃(i:Nat) (K:Int),i<=n.texts.length/\k=.int .i64 K/\c=.int .i64 i) (fun _ c=>n.texts.length-(intOf c).toNat)
 case atStart=>exact⟨0,0,zO _,rfl,rfl⟩
 case round=>
  obtain⟨i,K,hi,rfl,rfl⟩:=hrel;by_cases hlt:i<n.texts.length
  . obtain⟨t,hx⟩:∃t,n.texts[i]?=some t:=⟨_,zD hlt⟩
    rcases H1.out with hnil|⟨b,o,rfl,hl,hc⟩
    . rw[hnil]at hx;simp at hx
    . have hcx:=hc i t hx;have hltI:(i:Int)<(n.texts.length:Int):=by omega
      clear hc hx;go_wp2;go_round
      case rel=>exact⟨i+1,_,by omega,rfl,by go_num⟩
      case measure=>simp[intOf];omega
  . go_wp2;go_loop [3,5] (fun k c=>∃(j:Nat) (K:Int),j<=n.rows.length/\k=.int .i64 K/\c=.int .i64 j) (fun _ c=>n.rows.length-(intOf c).toNat)
    case atStart=>exact⟨0,K,zO _,rfl,rfl⟩
    case round=>
     obtain⟨j,K2,hj,rfl,rfl⟩:=hrel;by_cases hlt2:j<n.rows.length
     . obtain⟨r,hx⟩:∃t,n.rows[j]?=some t:=⟨_,zD hlt2⟩
       obtain⟨x,hvx⟩:∃x,vs[j]?=some x:=⟨_,zD (by rw[HV.out];exact hlt2)⟩
       rcases H2.out with hnil|⟨b,o,rfl,hl,hc⟩
       . rw[hnil]at hvx;simp at hvx
       . have hcx:=hc j x hvx;have hltI:(j:Int)<(n.rows.length:Int):=by omega
         obtain⟨hl3,a3,c3,rfl,hc3⟩:=HR.out j x r hvx hx;have H3:=zA hc3;clear hc hx hvx hc3;go_wp2;go_loop [3,6] (fun k c=>∃(m:Nat) (K:Int),m<=r.length/\k=.int .i64 K/\c=.int .i64 m) (fun _ c=>r.length-(intOf c).toNat)
         case atStart=>exact⟨0,K2,zO _,rfl,rfl⟩
         case round=>
          obtain⟨m,K3,hm,rfl,rfl⟩:=hrel;by_cases hlt3:m<r.length
          . obtain⟨t,hx⟩:∃t,r[m]?=some t:=⟨_,zD hlt3⟩
            rcases H3.out with hnil|⟨b3,o3,rfl,hl4,hc⟩
            . rw[hnil]at hx;simp at hx
            . have hcy:=hc m t hx;have hltJ:(m:Int)<(r.length:Int):=by omega
              clear hc hx;go_wp2;go_round
              case rel=>exact⟨m+1,_,by omega,rfl,by go_num⟩
              case measure=>simp[intOf];omega
          . go_wp2;go_round
            case rel=>exact⟨j+1,_,by omega,rfl,by go_num⟩
            case measure=>simp[intOf];omega
     . go_wp2;go_ret;exact⟨isBool _,(zB _ _).alloc (zC _) _⟩
end Go.Proofs.Ytjoddkeamboeoaa
