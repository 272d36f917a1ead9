/- ELine, ELSend, ERef, ELOrdM, ELComM. -/
import Derived.Test.YtjoddkeamboeoaaMG33
import Derived.Test.YtjoddkeamboeoaaMG22
set_option maxRecDepth 100000
namespace Go.Proofs.Ytjoddkeamboeoaa
open Go.RowKit Go.Shelf
def upd{α:Type}(f:Nat->α)(k:Nat)(v:α):Nat->α:=fun j=>if j=k then v else f j
theorem upd_same{α:Type}(f:Nat->α)(k:Nat)(v:α):upd f k v k=v:=by simp[upd]
theorem upd_ne{α:Type}{f:Nat->α}{k j:Nat}{v:α}(h:j≠k):upd f k v j=f j:=by simp[upd,h]
structure LV where
 b:Nat->Nat
 u:Nat->Value
 p:Nat->Value
 c:Nat->Value
def lnC(V:LV):Array Value:=#[.pointer (some ⟨V.b 0,0,none⟩),.pointer (some ⟨V.b 1,0,none⟩),V.u 0,V.u 1,V.p 0,V.p 1,V.c 0,V.c 1,.bool true]
def TxR(T:Nat->Prop)(w:World)(v:Value)(l:List (List UInt8)):Prop:=
 ∃ao cap,v=.slice ao l.length cap/\(ao=none->l.length=0/\cap=0)/\l.length<=cap/\(l=[]\/∃g o cur,ao=some ⟨g,o,none⟩/\T g/\w.heap[g]?=some (.cells cur 9 (0,0))/\∀(j:Nat) t,l[j]?=some t->cur[o+j]?=some (.string ⟨t.toArray⟩))
theorem TxR.keep{T U:Nat->Prop}{w w':World}{v:Value}{l:List (List UInt8)}(h:TxR T w v l)(hk:∀g cur,T g->w.heap[g]?=some (.cells cur 9 (0,0))->U g/\w'.heap[g]?=some (.cells cur 9 (0,0))):TxR U w' v l:=by
 obtain⟨ao,cap,e,h0,h1,h⟩:=h;refine⟨ao,cap,e,h0,h1,?_⟩;rcases h with h|⟨g,o,cur,e1,e2,e3,e4⟩
 . exact .inl h
 . obtain⟨k1,k2⟩:=hk g cur e2 e3;exact .inr ⟨g,o,cur,e1,k1,k2,e4⟩
theorem TxR.get{T:Nat->Prop}{w:World}{ao:Option Addr}{n cap:Nat}{l:List (List UInt8)}(h:TxR T w (.slice ao n cap) l){j:Nat}{t:List UInt8}(hj:l[j]?=some t):∃g o,ao=some ⟨g,o,none⟩/\w.cell? ⟨g,o+j,none⟩=some (.string ⟨t.toArray⟩):=by
 obtain⟨ao',cap',e,_,_,h⟩:=h;injection e with e;subst e;rcases h with rfl|⟨g,o,cur,e1,e2,e3,e4⟩
 . simp at hj
 . exact⟨g,o,e1,by simp only[World.cell?,e3];exact e4 j t hj⟩
theorem TxR.own{T:Nat->Prop}{w:World}{B:Nat}{v:Value}{l:List (List UInt8)}(h:w.ownsRow B 9 1 v l.length (strCs l))(hT:∀g,v.ownBlock=some g->T g):TxR T w v l:=by
 rcases h.2 with⟨rfl,h0⟩|⟨g,cap,cur,e1,e2,e3,e4,e5,e6,e7⟩
 . exact⟨none,0,by rw[h0],fun _=>⟨h0,rfl⟩,by omega,.inl (zU.1 h0)⟩
 . refine⟨_,cap,e1,fun h=>(by cases h),e4,.inr ⟨g,0,cur,rfl,hT g (by rw[e1];rfl),e3,fun j t hj=>?_⟩⟩;rw[Nat.mul_one]at e7;have hx:(strCs l)[j]?=some (.string ⟨t.toArray⟩):=by rw[strCs,zP,hj];rfl
   rw[<- e7,List.getElem?_take]at hx;split at hx
   . rw[Nat.zero_add];simpa using hx
   . simp at hx
def rngC(n:Nat):List Value:=(List.range n).map (fun i:Nat=>Value.int .i64 (i:Int))
structure LnB (w0:World) (T:Nat->Prop) (W:World) (x:Nat) (V:LV) (e:Nat->En) (U:Nat->List (List UInt8)) (n c:Nat->Nat):Prop where
 blk:W.heap[x]?=some (.cells (lnC V) 63 (0,0))
 two:Two T W (V.b 0) (e 0) (V.b 1) (e 1)
 low:Low T W
 sub:∀k,k<w0.heap.size->T k
 bel:Below w0.heap.size w0 W
 xT:T x
 x1:w0.heap.size<=x
 tu:∀k,k<2->TxR T W (V.u k) (U k)
 rp:∀k,k<2->W.ownsRow w0.heap.size 3 1 (V.p k) (n k) (rngC (n k))/\∀g,(V.p k).ownBlock=some g->T g
 rc:∀k,k<2->W.ownsRow w0.heap.size 3 1 (V.c k) (c k) (rngC (c k))/\∀g,(V.c k).ownBlock=some g->T g
 dpp:∀g,(V.p 0).ownBlock=some g->(V.p 1).ownBlock≠some g
 dcc:∀g,(V.c 0).ownBlock=some g->(V.c 1).ownBlock≠some g
 dpc:∀i j,i<2->j<2->∀g,(V.p i).ownBlock=some g->(V.c j).ownBlock≠some g
section
variable {w0:World} {T:Nat->Prop} {W W':World} {x:Nat} {V:LV} {e:Nat->En} {U:Nat->List (List UInt8)} {n c:Nat->Nat}
theorem LnB.cells(h:LnB w0 T W x V e U n c):∀i v,(lnC V)[i]?=some v->W.cell? ⟨x,i,none⟩=some v/\W.frozen? ⟨x,i,none⟩=false:=fun i v hv=>⟨by simp only[World.cell?,h.blk];exact hv,by simp[World.frozen?,h.blk]⟩
theorem LnB.at_k(h:LnB w0 T W x V e U n c){k:Nat}(hk:k<2):Two T W (V.b k) (e k) (V.b (1-k)) (e (1-k)):=by
 match k,hk with
 |0,_=>exact h.two
 |1,_=>exact h.two.swap
theorem own_keep{B m:Nat}{t:TypeId}{v:Value}{xs:List Value}(h:W.ownsRow B t 1 v m xs)(hk:∀g cur,v.ownBlock=some g->W.heap[g]?=some (.cells cur t (0,0))->W'.heap[g]?=some (.cells cur t (0,0))):W'.ownsRow B t 1 v m xs:=by
 refine⟨h.1,?_⟩;rcases h.2 with h0|⟨g,cap,cur,e1,e2,e3,e4⟩
 . exact .inl h0
 . exact .inr ⟨g,cap,cur,e1,e2,hk g cur (by rw[e1];rfl) e3,e4⟩
theorem LnB.fr{T':Nat->Prop}{e':Nat->En}(h:LnB w0 T W x V e U n c)(hf:Fr T W W')(hT:∀k,T k->T' k)(ht:Two T' W' (V.b 0) (e' 0) (V.b 1) (e' 1))(hl:Low T' W'):LnB w0 T' W' x V e' U n c:=
 {blk:=(hf.block x h.xT).trans h.blk,two:=ht,low:=hl,sub:=fun k hk=>hT k (h.sub k hk),bel:=h.bel.trans (hf.below h.sub),xT:=hT x h.xT,x1:=h.x1
  tu:=fun k hk=>(h.tu k hk).keep (fun g _ hg ho=>⟨hT g hg,(hf.block g hg).trans ho⟩)
  rp:=fun k hk=>⟨own_keep (h.rp k hk).1 (fun g _ hg ho=>(hf.block g ((h.rp k hk).2 g hg)).trans ho),fun g hg=>hT g ((h.rp k hk).2 g hg)⟩
  rc:=fun k hk=>⟨own_keep (h.rc k hk).1 (fun g _ hg ho=>(hf.block g ((h.rc k hk).2 g hg)).trans ho),fun g hg=>hT g ((h.rc k hk).2 g hg)⟩
  dpp:=h.dpp,dcc:=h.dcc,dpc:=h.dpc }
theorem LnB.nw(h:LnB w0 T W x V e U n c)(hb:Below W.heap.size W W'):LnB w0 (Nw T W W') W' x V e U n c:=
 h.fr (fr_below h.low hb) (fun _ hk=>.inl hk) (h.two.nw hb) (Nw.low h.low hb.size)
end
def sendU(u l:List (List UInt8)):List (List UInt8):=if u.length<300 then u++l else u
section
variable {w0:World} {T:Nat->Prop} {W W':World} {x:Nat} {V:LV} {e:Nat->En} {U:Nat->List (List UInt8)} {n c:Nat->Nat}
theorem txr_cells{w:World}{v:Value}{l:List (List UInt8)}(h:TxR T w v l):∃ao cap,v=.slice ao l.length cap/\(ao=none->l.length=0/\cap=0)/\l.length<=cap/\∀ad,ao=some ad->∀(j:Nat) u,(strCs l)[j]?=some u->w.cell? (ad.add j)=some u:=by
 obtain⟨ao,cap,e,h0,h1,h⟩:=h;refine⟨ao,cap,e,h0,h1,fun ad had j u hj=>?_⟩;rcases h with rfl|⟨g,o,cur,e1,e2,e3,e4⟩
 . simp[strCs]at hj
 . rw[e1]at had;injection had with had;subst had;rw[strCs,zP]at hj;obtain⟨t,ht,rfl⟩:=Option.map_eq_some_iff.1 hj;have ea:(⟨g,o,none⟩:Addr).add j=⟨g,o+j,none⟩:=by cases j<;>simp[Addr.add]
   rw[ea];simp only[World.cell?,e3];exact e4 j t ht
theorem str_one(l:List (List UInt8)):∀u∈strCs l,u.oneCell'=true:=by
 intro u hu;obtain⟨t,_,rfl⟩:=List.mem_map.1 hu;rfl
theorem str_len(l:List (List UInt8)):(strCs l).length=l.length*1:=by simp[strCs]
theorem LnB.ne(h:LnB w0 T W x V e U n c)(i:Nat)(v:Value):∀ {g:Nat} {cur:Array Value} {t:TypeId},W.heap[g]?=some (.cells cur t (0,0))->t≠63->(W.setCell ⟨x,i,none⟩ v).heap[g]?=some (.cells cur t (0,0)):=fun {g cur t} hg ht=>(set1_other (fun e=>by
 have hb:=h.blk;rw[<- e,hg]at hb;simp only[Option.some.injEq,Obj.cells.injEq]at hb;exact ht hb.2.1) v).trans hg
end
theorem five_cells{w:World}{b:Nat}{c0 c1 c2 c3 c4:Value}{t:TypeId}(h:w.heap[b]?=some (.cells #[c0,c1,c2,c3,c4] t (0,0))):
 (w.cell? ⟨b,0,none⟩=some c0/\w.cell? ⟨b,1,none⟩=some c1/\w.cell? ⟨b,2,none⟩=some c2/\w.cell? ⟨b,3,none⟩=some c3/\w.cell? ⟨b,4,none⟩=some c4)/\
 (w.frozen? ⟨b,0,none⟩=false/\w.frozen? ⟨b,1,none⟩=false/\w.frozen? ⟨b,2,none⟩=false/\w.frozen? ⟨b,3,none⟩=false/\w.frozen? ⟨b,4,none⟩=false):=by
 simp[World.cell?,World.frozen?,h]
abbrev set5(w:World)(b:Nat)(u0 u1 u2 u3 u4:Value):World:=((((w.setCell ⟨b,0,none⟩ u0).setCell ⟨b,1,none⟩ u1).setCell ⟨b,2,none⟩ u2).setCell ⟨b,3,none⟩ u3).setCell ⟨b,4,none⟩ u4
theorem set5_block{w:World}{b:Nat}{c0 c1 c2 c3 c4:Value}{t:TypeId}(h:w.heap[b]?=some (.cells #[c0,c1,c2,c3,c4] t (0,0)))(u0 u1 u2 u3 u4:Value):(set5 w b u0 u1 u2 u3 u4).heap[b]?=some (.cells #[u0,u1,u2,u3,u4] t (0,0)):=by
 simp[set5,World.setCell,Array.getElem?_modify,h]
theorem set5_other{w:World}{b k:Nat}(hk:k≠b)(u0 u1 u2 u3 u4:Value):(set5 w b u0 u1 u2 u3 u4).heap[k]?=w.heap[k]?:=by
 rw[set5,set1_other hk,set1_other hk,set1_other hk,set1_other hk,set1_other hk]
theorem set5_below{a w:World}{B b:Nat}(h:Below B a w)(hb:B<=b)(u0 u1 u2 u3 u4:Value):Below B a (set5 w b u0 u1 u2 u3 u4):=
 ((((h.setCell (p:=⟨b,0,none⟩) hb _).setCell (p:=⟨b,1,none⟩) hb _).setCell (p:=⟨b,2,none⟩) hb _).setCell (p:=⟨b,3,none⟩) hb _).setCell (p:=⟨b,4,none⟩) hb _
abbrev rvV(ep ot fs wt:Int)(vq:Value):Value:=.agg #[.int .i64 ep,.int .i64 ot,.int .i64 fs,.int .i64 wt,vq]
abbrev rvE(e:En)(vq:Value):Value:=rvV e.ep e.ot e.fs e.wt vq
def RNewE(k:Int)(w:World)(r:Ending)(w':World):Prop:=
 Below w.heap.size w w'/\((¬EpOk k/\r=.returned (.tuple #[rvV 0 0 0 0 (.slice none 0 0),.int .i64 1]))\/(EpOk k/\r=.returned (.tuple #[rvV k 0 1 1 (.slice none 0 0),.int .i64 0])))
theorem rNew_any(k:Int)(w:World):Calls Try.prog 10 #[.int .i64 k] w (RNewE k w):=by
 by_cases h:EpOk k
 . obtain⟨⟨z0,z1,z2,z3,z4⟩,-⟩:=five_cells (box_at w (.cells #[.int .i64 k,.int .i64 0,.int .i64 1,.int .i64 1,.slice none 0 0] 29));have Z0:=zA z0;have Z1:=zA z1;have Z2:=zA z2;have Z3:=zA z3;have Z4:=zA z4;have HE:Hid (RNewE k w (.returned (.tuple #[.agg #[.int .i64 k,.int .i64 0,.int .i64 1,.int .i64 1,.slice none 0 0],.int .i64 0])) (w.alloc (.cells #[.int .i64 k,.int .i64 0,.int .i64 1,.int .i64 1,.slice none 0 0] 29))):=zA ⟨(zB _ _).alloc (zC _) _,.inr ⟨h,rfl⟩⟩;clear z0 z1 z2 z3 z4;have h1:=h.1;have h2:=h.2;have h1N:¬k<1:=by omega
   have h2N:¬ 1099511627776<k:=by omega
   clear h;go_enter Try.func10,Try.ntmps10;go_wp2;refine bodyPost_ret (v:=.tuple #[.agg #[.int .i64 k,.int .i64 0,.int .i64 1,.int .i64 1,.slice none 0 0],.int .i64 0]) ?_ rfl HE.out;simp[results,Try.results10,go_sem,Z0.out,Z1.out,Z2.out,Z3.out,Z4.out]
 . obtain⟨⟨z0,z1,z2,z3,z4⟩,-⟩:=five_cells (box_at w (.cells #[.int .i64 0,.int .i64 0,.int .i64 0,.int .i64 0,.slice none 0 0] 29));have Z0:=zA z0;have Z1:=zA z1;have Z2:=zA z2;have Z3:=zA z3;have Z4:=zA z4;have HE:Hid (RNewE k w (.returned (.tuple #[.agg #[.int .i64 0,.int .i64 0,.int .i64 0,.int .i64 0,.slice none 0 0],.int .i64 1])) (w.alloc (.cells #[.int .i64 0,.int .i64 0,.int .i64 0,.int .i64 0,.slice none 0 0] 29))):=zA ⟨(zB _ _).alloc (zC _) _,.inl ⟨h,rfl⟩⟩;clear z0 z1 z2 z3 z4;have hor:k<1\/(¬k<1/\1099511627776<k):=by unfold EpOk at h;omega
   clear h;rcases hor with h1|⟨h1,h2⟩
   all_goals
    go_enter Try.func10,Try.ntmps10;go_wp2;refine bodyPost_ret (v:=.tuple #[.agg #[.int .i64 0,.int .i64 0,.int .i64 0,.int .i64 0,.slice none 0 0],.int .i64 1]) ?_ rfl HE.out;simp[results,Try.results10,go_sem,Z0.out,Z1.out,Z2.out,Z3.out,Z4.out]
set_option maxHeartbeats 1000000 in
theorem rOne_any(l:List UInt8)(w:World)(hl:l.length<=140737488351232):Calls Try.prog 43 #[.string ⟨l.toArray⟩] w (OnE l w):=by
 have C:Hid (Calls Try.prog 55 #[.string ⟨l.toArray⟩] (resW w) (UEnd l (resW w))):=zA (rUnpack_any l (resW w) hl);unfold UEnd at C;obtain⟨n,hn⟩:∃n,(unpackP l).1=n:=⟨_,rfl⟩
 obtain⟨k,hk⟩:∃k,(unpackP l).2.1=k:=⟨_,rfl⟩
 obtain⟨r,hr⟩:∃r,(unpackP l).2.2=r:=⟨_,rfl⟩
 rw[hn,hk,hr]at C;have HN:=zA hn;have HK:=zA hk;have HR:=zA hr;clear hn hk hr;have hsz:(⟨l.toArray⟩:ByteArray).size=l.length:=by rw[size_list]
 have HRN:Hid ((resW w).heap.size=w.heap.size+1):=zA (by simp);go_enter Try.func43,Try.ntmps43;go_wp2_with fail;refine C.out.mono ?_;rintro x w1 ⟨v,rfl,hown,hb⟩;obtain⟨a0,l0,c0,a1,l1,c1,a2,l2,c2,rfl⟩:=own_parts hown;rw[HRN.out]at hown hb;obtain⟨W2,hW2⟩:∃W2,W2=w1.alloc (.cells #[.int .i64 n.kind,.slice a0 l0 c0,.slice a1 l1 c1,.slice a2 l2 c2] 36):=⟨_,rfl⟩
 have hb2:Below (w.heap.size+1) (resW w) W2:=by rw[hW2];exact hb.alloc (zS (by rw[HRN.out];exact zC _) hb.size) _
 have hown2:NoteOwn W2 (w.heap.size+1) (.agg #[.int .i64 n.kind,.slice a0 l0 c0,.slice a1 l1 c1,.slice a2 l2 c2]) n:=by rw[hW2];exact hown.below ((zB _ _).alloc (zC _) _)
 have hsz1:w1.heap.size+1=W2.heap.size:=by rw[hW2];simp
 obtain⟨⟨q0,q1,q2,q3⟩,-⟩:=four_cells (show W2.heap[w1.heap.size]?=some (.cells #[.int .i64 n.kind,.slice a0 l0 c0,.slice a1 l1 c1,.slice a2 l2 c2] 36 (0,0)) by rw[hW2];exact box_at w1 _);obtain⟨⟨r0,r1,r2,r3⟩,⟨f0,f1,f2,f3⟩⟩:=four_cells (res_block hb2);have hblk:=set4_block (res_block hb2) (.int .i64 n.kind) (.slice a0 l0 c0) (.slice a1 l1 c1) (.slice a2 l2 c2);obtain⟨⟨z0,z1,z2,z3⟩,-⟩:=four_cells hblk;have HE:Hid (∀c:Bool,c=(decide (r=0)&&decide (k=l.length))->OnE l w (.returned (.tuple #[.agg #[.int .i64 n.kind,.slice a0 l0 c0,.slice a1 l1 c1,.slice a2 l2 c2],.bool c])) (set4 W2 w.heap.size (.int .i64 n.kind) (.slice a0 l0 c0) (.slice a1 l1 c1) (.slice a2 l2 c2))):=
  zA (fun c hc=>onE_of HN.out HK.out HR.out hc ((set4_own hown2 (by omega) _ _ _ _).base (by omega)) (set4_below (res_below hb2) (zC _) _ _ _ _))
 have Z0:=zA z0;have Z1:=zA z1;have Z2:=zA z2;have Z3:=zA z3;have HSZ1:=zA hsz1;clear z0 z1 z2 z3 hown hown2 hb hb2 hblk hsz1 HSZ1;subst hW2;by_cases h1:r=0
 . subst h1;by_cases h2:k=l.length
   . have h2I:((k:Int)==(l.length:Int))=true:=by simp;omega
     have HE2:=zA (HE.out true (by simp[h2]));clear h2 HE;go_wp2;refine bodyPost_ret (v:=.tuple #[.agg #[.int .i64 n.kind,.slice a0 l0 c0,.slice a1 l1 c1,.slice a2 l2 c2],.bool true]) ?_ rfl HE2.out;simp[results,Try.results43,go_sem,Z0.out,Z1.out,Z2.out,Z3.out]
   . have h2I:((k:Int)==(l.length:Int))=false:=by simp;omega
     have HE2:=zA (HE.out false (by simp[h2]));clear h2 HE;go_wp2;refine bodyPost_ret (v:=.tuple #[.agg #[.int .i64 n.kind,.slice a0 l0 c0,.slice a1 l1 c1,.slice a2 l2 c2],.bool false]) ?_ rfl HE2.out;simp[results,Try.results43,go_sem,Z0.out,Z1.out,Z2.out,Z3.out]
 . have h1I:((r:Int)==0)=false:=by simp;omega
   have h1J:¬(r:Int)=0:=by omega
   have HE2:=zA (HE.out false (by simp[h1]));clear h1 HE;go_wp2;refine bodyPost_ret (v:=.tuple #[.agg #[.int .i64 n.kind,.slice a0 l0 c0,.slice a1 l1 c1,.slice a2 l2 c2],.bool false]) ?_ rfl HE2.out;simp[results,Try.results43,go_sem,Z0.out,Z1.out,Z2.out,Z3.out]
theorem packV_ex(n:NoteD):∃x,packV n=.tuple #[.string ⟨(packN n).toArray⟩,.int .i64 x]:=by
 rw[packV,packN];split
 . exact⟨0,rfl⟩
 . exact⟨1,rfl⟩
abbrev boxR(w:World)(e:En)(vq:Value):World:=w.alloc (.cells #[.int .i64 e.ep,.int .i64 e.ot,.int .i64 e.fs,.int .i64 e.wt,vq] 29)
theorem rBare_any(w:World)(e:En)(vq:Value):
 Calls Try.prog 44 #[rvE e vq] w fun x w'=>x=.returned (.string ⟨(telB e).toArray⟩)/\Below w.heap.size w w':=by
 have hb0:Below w.heap.size w (boxR w e vq):=(zB _ _).alloc (zC _) _;obtain⟨⟨g0,g1,g2,g3,g4⟩,-⟩:=five_cells (box_at w (.cells #[.int .i64 e.ep,.int .i64 e.ot,.int .i64 e.fs,.int .i64 e.wt,vq] 29));have hsz:(boxR w e vq).heap.size=w.heap.size+1:=by simp
 have b1:Below (boxR w e vq).heap.size (boxR w e vq) ((boxR w e vq).alloc (.cells #[.int .i64 e.ep,.int .i64 e.ot,.int .i64 e.wt] 3)):=(zB _ _).alloc (zC _) _;have HB:=zA (hb0.trans (b1.mono (by omega)));have C:=zA (rPack_any (.agg #[.int .i64 2,.slice (some ⟨w.heap.size+1,0,none⟩) 3 3,.slice none 0 0,.slice none 0 0]) (telN e) ((boxR w e vq).alloc (.cells #[.int .i64 e.ep,.int .i64 e.ot,.int .i64 e.wt] 3))
  ⟨_,_,_,rfl,by have:=ints_new (ns:=[(e.ep:Int),(e.ot:Int),(e.wt:Int)]) (box_at (boxR w e vq) (.cells #[.int .i64 e.ep,.int .i64 e.ot,.int .i64 e.wt] 3)) (by simp);rw[hsz]at this;exact this,strs_nil _,rows_nil _⟩)
 obtain⟨y,hy⟩:=packV_ex (telN e);rw[hy]at C;clear hb0 b1 hsz hy;rw[telB];go_enter Try.func44,Try.ntmps44;go_wp2_with fail;refine C.out.mono ?_;rintro x w1 ⟨rfl,hb⟩;have HE:=zA (HB.out.trans (hb.mono HB.out.size));clear hb g0 g1 g2 g3 g4;go_wp2;go_ret;exact⟨rfl,HE.out⟩
end Go.Proofs.Ytjoddkeamboeoaa
namespace Go.Proofs.Ytjoddkeamboeoaa
open Go.RowKit
structure LnI (e:Nat->En) (U:Nat->List (List UInt8)) (n c:Nat->Nat):Prop where
 a:Half (e 0) (e 1) (n 0) (c 1) (U 1)
 b:Half (e 1) (e 0) (n 1) (c 0) (U 0)
section
variable {e:Nat->En} {U:Nat->List (List UInt8)} {n c:Nat->Nat} {k:Nat}
theorem LnI.at_k(h:LnI e U n c)(hk:k<2):Half (e k) (e (1-k)) (n k) (c (1-k)) (U (1-k))/\Half (e (1-k)) (e k) (n (1-k)) (c k) (U k):=by
 match k,hk with
 |0,_=>exact⟨h.a,h.b⟩
 |1,_=>exact⟨h.b,h.a⟩
theorem LnI.of_k(hk:k<2)(h1:Half (e k) (e (1-k)) (n k) (c (1-k)) (U (1-k)))(h2:Half (e (1-k)) (e k) (n (1-k)) (c k) (U k)):LnI e U n c:=by
 match k,hk with
 |0,_=>exact⟨h1,h2⟩
 |1,_=>exact⟨h2,h1⟩
theorem ne_k(hk:k<2):1-k≠k:=by omega
theorem ne_k2(hk:k<2):k≠1-k:=by omega
theorem LnI.wt(h:LnI e U n c)(hk:k<2):(e k).wt<=1001:=by
 have h2:=(h.at_k hk).2;have:=h2.wt;have:=h2.cn;have:=h2.n2;omega
theorem mem_sendU{u l:List (List UInt8)}{p:List UInt8}(h:p∈sendU u l):p∈u++l:=by
 unfold sendU at h;split at h
 . exact h
 . exact zZ.2 (.inl h)
theorem LnI.put(h:LnI e U n c)(hk:k<2)(hn:n k<1000):(putE (e k) (nk 5 (n k))).2.2=0/\LnI (upd e k (putE (e k) (nk 5 (n k))).1) (upd U (1-k) (sendU (U (1-k)) (putE (e k) (nk 5 (n k))).2.1)) (upd n k (n k+1)) c:=by
 obtain⟨h1,h2⟩:=h.at_k hk;obtain⟨ps,e1,h3⟩:=half_put h1 hn (h.wt hk);rw[e1];refine⟨rfl,LnI.of_k hk ?_ ?_⟩
 . rw[upd_same,upd_ne (ne_k hk),upd_same,upd_same];exact h3.sub (fun p hp=>mem_sendU hp)
 . rw[upd_same,upd_ne (ne_k hk),upd_ne (ne_k hk),upd_ne (ne_k2 hk)];exact half_put2 h2 _
end
end Go.Proofs.Ytjoddkeamboeoaa
namespace Go.Proofs.Ytjoddkeamboeoaa
open Go.RowKit Go.Shelf
def PayF(w:World)(gp gi o cap m:Nat):Prop:=
 (∃cur,w.heap[gp]?=some (.cells cur 36 (0,0))/\cur[0]?=some (.int .i64 5)/\cur[1]?=some (.slice (some ⟨gi,o,none⟩) 1 cap))/\∃cur fz,w.heap[gi]?=some (.cells cur 3 fz)/\cur[o]?=some (.int .i64 (m:Int))
theorem PayF.cells{w:World}{gp gi o cap m:Nat}(h:PayF w gp gi o cap m):w.cell? ⟨gp,0,none⟩=some (.int .i64 5)/\w.cell? ⟨gp,1,none⟩=some (.slice (some ⟨gi,o,none⟩) 1 cap)/\w.cell? ⟨gi,o,none⟩=some (.int .i64 (m:Int)):=by
 obtain⟨⟨cur,h1,h2,h3⟩,cur2,fz,h4,h5⟩:=h;exact⟨by simp only[World.cell?,h1];exact h2,by simp only[World.cell?,h1];exact h3,by simp only[World.cell?,h4];exact h5⟩
theorem PayF.keep{w w':World}{gp gi o cap m:Nat}(h:PayF w gp gi o cap m)(hk:∀g ob,g=gp\/g=gi->w.heap[g]?=some ob->w'.heap[g]?=some ob):PayF w' gp gi o cap m:=by
 obtain⟨⟨cur,h1,h2,h3⟩,cur2,fz,h4,h5⟩:=h;exact⟨⟨cur,hk gp _ (.inl rfl) h1,h2,h3⟩,cur2,fz,hk gi _ (.inr rfl) h4,h5⟩
section
variable {w0:World} {T:Nat->Prop} {W:World} {x:Nat} {V:LV} {e:Nat->En} {U:Nat->List (List UInt8)} {n c:Nat->Nat}
end
end Go.Proofs.Ytjoddkeamboeoaa
