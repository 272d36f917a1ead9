/- EState, ENew. -/
import Derived.Test.YtjoddkeamboeoaaMG16
import Derived.Test.YtjoddkeamboeoaaMG9
import Derived.LaidEqlPtr
import Derived.ArgAppend
import Derived.Lib.SliceRun
import Derived.BigFrame
set_option maxRecDepth 100000
namespace Go.Proofs.Ytjoddkeamboeoaa
open Go.RowKit
structure Fr (S:Nat->Prop) (w w':World):Prop where
 os:w'.os=w.os
 tape:w'.tape=w.tape
 output:w'.output=w.output
 size:w.heap.size<=w'.heap.size
 block:∀k,S k->w'.heap[k]?=w.heap[k]?
theorem Fr.refl(S:Nat->Prop)(w:World):Fr S w w:=⟨rfl,rfl,rfl,zC _,fun _ _=>rfl⟩
theorem Fr.trans{S:Nat->Prop}{a b c:World}(h:Fr S a b)(k:Fr S b c):Fr S a c:=
 ⟨k.os.trans h.os,k.tape.trans h.tape,k.output.trans h.output,zS h.size k.size,fun i hi=>(k.block i hi).trans (h.block i hi)⟩
theorem Fr.sub{S T:Nat->Prop}{w w':World}(h:Fr S w w')(hs:∀k,T k->S k):Fr T w w':=⟨h.os,h.tape,h.output,h.size,fun k hk=>h.block k (hs k hk)⟩
theorem Fr.below{S:Nat->Prop}{w w':World}{B:Nat}(h:Fr S w w')(hs:∀k,k<B->S k):Below B w w':=⟨h.os,h.tape,h.output,h.size,fun k hk=>h.block k (hs k hk)⟩
def Low(S:Nat->Prop)(w:World):Prop:=∀k,S k->k<w.heap.size
theorem Low.fr{S T:Nat->Prop}{w w':World}(h:Low S w)(hf:Fr T w w'):Low S w':=fun k hk=>zF (h k hk) hf.size
theorem Low.below{S:Nat->Prop}{w w':World}{B:Nat}(h:Low S w)(hf:Below B w w'):Low S w':=fun k hk=>zF (h k hk) hf.size
theorem fr_below{S:Nat->Prop}{w w':World}(hS:Low S w)(h:Below w.heap.size w w'):Fr S w w':=⟨h.os,h.tape,h.output,h.size,fun k hk=>h.block k (hS k hk)⟩
theorem Fr.next{S:Nat->Prop}{w w1 w2:World}(h:Fr S w w1)(hS:Low S w)(hb:Below w1.heap.size w1 w2):Fr S w w2:=h.trans (fr_below (hS.fr h) hb)
theorem Fr.setCell{S:Nat->Prop}{w w':World}{b i:Nat}(h:Fr S w w')(hb:¬S b)(v:Value):Fr S w (w'.setCell ⟨b,i,none⟩ v):=
 ⟨h.os,h.tape,h.output,by simpa using h.size,fun k hk=>(zK w' ⟨b,i,none⟩ v k (fun e=>hb (by rw[<- show k=b from e];exact hk))).trans (h.block k hk)⟩
theorem six_cells{w:World}{b:Nat}{c0 c1 c2 c3 c4 c5:Value}{t:TypeId}(h:w.heap[b]?=some (.cells #[c0,c1,c2,c3,c4,c5] t (0,0))):
 (w.cell? ⟨b,0,none⟩=some c0/\w.cell? ⟨b,1,none⟩=some c1/\w.cell? ⟨b,2,none⟩=some c2/\w.cell? ⟨b,3,none⟩=some c3/\w.cell? ⟨b,4,none⟩=some c4/\w.cell? ⟨b,5,none⟩=some c5)/\
 (w.frozen? ⟨b,0,none⟩=false/\w.frozen? ⟨b,1,none⟩=false/\w.frozen? ⟨b,2,none⟩=false/\w.frozen? ⟨b,3,none⟩=false/\w.frozen? ⟨b,4,none⟩=false/\w.frozen? ⟨b,5,none⟩=false):=by
 simp[World.cell?,World.frozen?,h]
section
variable {w:World} {b:Nat} {c0 c1 c2 c3 c4 c5 v:Value} {t:TypeId} (h:w.heap[b]?=some (.cells #[c0,c1,c2,c3,c4,c5] t (0,0)))
include h
theorem six_set0:(w.setCell ⟨b,0,none⟩ v).heap[b]?=some (.cells #[v,c1,c2,c3,c4,c5] t (0,0)):=by simp[World.setCell,Array.getElem?_modify,h]
theorem six_set2:(w.setCell ⟨b,2,none⟩ v).heap[b]?=some (.cells #[c0,c1,v,c3,c4,c5] t (0,0)):=by simp[World.setCell,Array.getElem?_modify,h]
theorem six_set3:(w.setCell ⟨b,3,none⟩ v).heap[b]?=some (.cells #[c0,c1,c2,v,c4,c5] t (0,0)):=by simp[World.setCell,Array.getElem?_modify,h]
theorem six_set4:(w.setCell ⟨b,4,none⟩ v).heap[b]?=some (.cells #[c0,c1,c2,c3,v,c5] t (0,0)):=by simp[World.setCell,Array.getElem?_modify,h]
theorem six_set5:(w.setCell ⟨b,5,none⟩ v).heap[b]?=some (.cells #[c0,c1,c2,c3,c4,v] t (0,0)):=by simp[World.setCell,Array.getElem?_modify,h]
end
def QRow(w:World)(v:Value)(q:List (List UInt8)):Prop:=
 (∃ao,v=.slice ao 0 0/\q=[])\/∃g off cap cur,v=.slice (some ⟨g,off,none⟩) q.length cap/\w.heap[g]?=some (.cells cur 9 (0,0))/\off+cap<=cur.size/\q.length<=cap/\∀(j:Nat) t,q[j]?=some t->cur[off+j]?=some (.string ⟨t.toArray⟩)
theorem QRow.nil(w:World):QRow w (.slice none 0 0) []:=.inl ⟨none,rfl,rfl⟩
theorem QRow.slice{w:World}{v:Value}{q:List (List UInt8)}(h:QRow w v q):∃ao cap,v=.slice ao q.length cap/\q.length<=cap:=by
 rcases h with⟨ao,rfl,rfl⟩|⟨g,off,cap,cur,e1,e2,e3,e4,_⟩
 . exact⟨ao,0,rfl,zC _⟩
 . exact⟨_,cap,e1,e4⟩
theorem QRow.keep{w w':World}{v:Value}{q:List (List UInt8)}(h:QRow w v q)(hk:∀g o,v.ownBlock=some g->w.heap[g]?=some o->w'.heap[g]?=some o):QRow w' v q:=by
 rcases h with h|⟨g,off,cap,cur,e1,e2,e3⟩
 . exact .inl h
 . exact .inr ⟨g,off,cap,cur,e1,hk g _ (by rw[e1];rfl) e2,e3⟩
theorem QRow.below{w w':World}{v:Value}{q:List (List UInt8)}(h:QRow w v q)(hb:Below w.heap.size w w'):QRow w' v q:=
 h.keep (fun g _ _ ho=>(hb.block g (lt_of_block ho)).trans ho)
theorem QRow.own{w:World}{B:Nat}{v:Value}{q:List (List UInt8)}(h:w.ownsRow B 9 1 v q.length (strCs q)):QRow w v q:=by
 rcases h.2 with⟨rfl,h0⟩|⟨g,cap,cur,e1,e2,e3,e4,e5,e6,e7⟩
 . exact .inl ⟨none,rfl,zU.1 h0⟩
 . refine .inr ⟨g,0,cap,cur,e1,e3,by omega,e4,fun j t hj=>?_⟩;rw[Nat.mul_one]at e7;have hx:(strCs q)[j]?=some (.string ⟨t.toArray⟩):=by rw[strCs,zP,hj];rfl
   rw[<- e7,List.getElem?_take]at hx;split at hx
   . rw[Nat.zero_add];simpa using hx
   . simp at hx
theorem QRow.get{w:World}{ao:Option Addr}{n cap:Nat}{q:List (List UInt8)}(h:QRow w (.slice ao n cap) q){j:Nat}{t:List UInt8}(hj:q[j]?=some t):∃g off,ao=some ⟨g,off,none⟩/\w.cell? ⟨g,off+j,none⟩=some (.string ⟨t.toArray⟩):=by
 rcases h with⟨ao',e,rfl⟩|⟨g,off,cap',cur,e1,e2,e3,e4,e5⟩
 . simp at hj
 . injection e1 with e1;subst e1;exact⟨g,off,rfl,by simp only[World.cell?,e2];exact e5 j t hj⟩
theorem infoT:(Try.prog.info? 9).map (fun i=>(i.zero,i.size,i.bytes))=some (some (.string ByteArray.empty),1,16):=by kernel_rfl
theorem info_partsE{P:Program}{t:TypeId}{z:Value}{s b:Nat}(h:(P.info? t).map (fun i=>(i.zero,i.size,i.bytes))=some (some z,s,b)):∃i,P.info? t=some i/\i.zero=some z/\i.size=s/\i.bytes=b:=by
 cases hi:P.info? t with
 |none=>rw[hi]at h;cases h
 |some i=>
  rw[hi]at h;simp only[Option.map_some,Option.some.injEq,Prod.mk.injEq]at h;exact⟨i,rfl,h.1,h.2.1,h.2.2⟩
theorem new_cell(w:World)(x:Value)(t:TypeId):(w.alloc (.cells #[x] t)).cell? ⟨w.heap.size,0,none⟩=some x:=by
 have h:=box_at w (.cells #[x] t);simp only[World.cell?,h];rfl
theorem wpList_append_t{ops:Array Oper}{rest:List Oper}{o:Oper}{a:Act}{Qx:Exit->Act->World->Prop}{w:World}(hgd:o.guard=none)(s x:Operand)(ho:o.op=.call { callee:=.builtin .append,args:=#[s,x],argTypes:=#[27,27] })
 {u:Value} {q:List (List UInt8)} (hs:a.eval s=u) (hq:QRow w u q) (hL:q.length<=1000000000) (ad:Addr) (c:Nat) (t:List UInt8) (hx:a.eval x=.slice (some ad) 1 c) (hy:w.cell? ad=some (.string ⟨t.toArray⟩))
 (h:∀u' w',QRow w' u' (q++[t])->w.grownBy w' u.ownBlock->(∀k,u'.ownBlock=some k->u.ownBlock=some k\/(w.heap.size<=k/\k<w'.heap.size))->wpList Try.prog ops Qx rest (a.put o.dst u') w'):wpList Try.prog ops Qx (o::rest) a w:=by
 obtain⟨i0,hi0,hz0,hz1,hz2⟩:=info_partsE infoT;have hnews:∀(j:Nat) v,[Value.string ⟨t.toArray⟩][j]?=some v->w.cell? (ad.add j)=some v:=fun j v hj=>by
  have:j=0:=by have:=(zG.1 hj).1;simp at this;exact this
  subst this;simp at hj;subst hj;exact hy
 have hgrown:∀v' w',w'.ownsRow w.heap.size 9 1 v' (q.length+1) (strCs q++[.string ⟨t.toArray⟩])->w.grownBy w' none->wpList Try.prog ops Qx rest (a.put o.dst v') w':=fun v' w' h1 h2=>by
  have h3:w'.ownsRow w.heap.size 9 1 v' (q++[t]).length (strCs (q++[t])):=by rw[strCs_snoc,zE];exact h1
  exact h v' w' (QRow.own h3) ⟨h2.os,h2.tape,h2.output,h2.size,fun k hk _=>h2.block k hk (by simp)⟩ (fun k hk=>.inr (h3.lt k hk))
 have hq0:=hq;rcases hq0 with⟨ao,e,hL0⟩|⟨g,off,cap,cur,e1,e3,e4,e5,e6⟩
 . subst hL0;exact wpList_append_grows w hgd s x 27 ho 9 i0 _ 1 16 Try.underlying27 hi0 hz0 hz1 hz2 rfl (by decide) ao 0 0 [] (by rw[hs,e]) (fun _=>⟨rfl,rfl⟩) (by simp) (by simp) ad 1 c _ hx rfl hnews (by simp[Value.oneCell']) (by omega) (by unfold maxLen;omega) (by omega) (fun v' w' h1 h2=>hgrown v' w' (by simpa[strCs]using h1) h2)
 . have hcell:∀j v,(strCs q)[j]?=some v->w.cell? ⟨g,off+j,none⟩=some v:=fun j v hj=>by
    rw[strCs,zP]at hj;cases hLj:q[j]? with
    |none=>rw[hLj]at hj;simp at hj
    |some z=>
     rw[hLj]at hj;simp at hj;subst hj;simp only[World.cell?,e3];exact e6 j z hLj
   have hlen:(strCs q).length=q.length*1:=by simp[strCs]
   refine wpList_append_arg w hgd s x 27 ho 9 i0 _ 1 16 Try.underlying27 hi0 hz0 hz1 hz2 rfl (by decide) g off q.length cap (strCs q) (by rw[hs,e1]) hlen hcell ad 1 c _ hx rfl hnews (by simp[Value.oneCell']) (fun hroom j hj=>?_) (by unfold maxLen;omega) (by omega) (fun hroom=>?_) (fun hfull v' w' h1 h2=>hgrown v' w' h1 h2)
   . have hj0:j=0:=by simp at hj;exact hj
     subst hj0;have hb:off+q.length*1+0<cur.size:=by omega
     constructor
     . simp only[World.cell?,e3];rw[Array.getElem?_eq_getElem hb];rfl
     . simp[World.frozen?,e3]
   . have hset:(w.setCells g (off+q.length*1) [.string ⟨t.toArray⟩])=w.setCell ⟨g,off+q.length*1,none⟩ (.string ⟨t.toArray⟩):=rfl;rw[hset];have hhb:(w.setCell ⟨g,off+q.length*1,none⟩ (.string ⟨t.toArray⟩)).heap[g]?=some (.cells (cur.setIfInBounds (off+q.length) (.string ⟨t.toArray⟩)) 9 (0,0)):=by
      simp[World.setCell,Array.getElem?_modify,e3]
     refine h _ _ (.inr ⟨g,off,cap,_,by rw[zE];rfl,hhb,by simpa using e4,by rw[zE];simpa using hroom,fun j z hz=>?_⟩) ⟨rfl,rfl,rfl,by simp,fun k hk hne=>zK w ⟨g,off+q.length*1,none⟩ _ k (fun e=>hne (by rw[e1,show k=g from e];rfl))⟩ (fun k hk=>.inl (by rw[e1];exact hk));rw[Array.getElem?_setIfInBounds];by_cases ej:j=q.length
     . subst ej;rw[zT (zC _)]at hz;simp at hz;subst hz;rw[if_pos rfl,if_pos (by omega)]
     . have hjl:j<q.length:=by
        have:=(zG.1 hz).1;simp at this;omega
       rw[zV hjl]at hz;rw[if_neg (by omega)];exact e6 j z hz
abbrev LBlk(w:World)(b:Nat)(vq:Value)(e:En):Prop:=
 w.heap[b]?=some (.cells #[.pointer (some ⟨b,0,none⟩),.int .i64 e.ep,.int .i64 e.ot,.int .i64 e.wt,.int .i64 e.fs,vq] 75 (0,0))
structure LB (S:Nat->Prop) (w:World) (b:Nat) (vq:Value) (e:En):Prop where
 blk:LBlk w b vq e
 out:¬S b
 row:QRow w vq e.q
 outq:∀g,vq.ownBlock=some g->¬S g
 lowq:∀g,vq.ownBlock=some g->g<w.heap.size
 neb:vq.ownBlock≠some b
 ok:e.ok
theorem LB.below{S:Nat->Prop}{w w':World}{b:Nat}{vq:Value}{e:En}(h:LB S w b vq e)(hb:Below w.heap.size w w'):LB S w' b vq e:=
 { h with blk:=(hb.block b (lt_of_block h.blk)).trans h.blk,row:=h.row.below hb,lowq:=fun g hg=>zF (h.lowq g hg) hb.size }
theorem LB.more{S T:Nat->Prop}{w:World}{b:Nat}{vq:Value}{e:En}(h:LB S w b vq e)(hT:∀k,T k->S k\/(k≠b/\vq.ownBlock≠some k)):LB T w b vq e:=
 { h with out:=fun hk=>(hT b hk).elim h.out (fun h1=>h1.1 rfl),outq:=fun g hg hk=>(hT g hk).elim (h.outq g hg) (fun h1=>h1.2 hg) }
theorem LB.sub{S T:Nat->Prop}{w:World}{b:Nat}{vq:Value}{e:En}(h:LB S w b vq e)(hT:∀k,T k->S k):LB T w b vq e:=h.more (fun k hk=>.inl (hT k hk))
theorem LB.other{S T:Nat->Prop}{w w':World}{b:Nat}{vq:Value}{e:En}(h:LB S w b vq e)(hf:Fr T w w')(hb:T b)(hq:∀g,vq.ownBlock=some g->T g):LB S w' b vq e:=
 { h with blk:=(hf.block b hb).trans h.blk,row:=h.row.keep (fun g _ hg ho=>(hf.block g (hq g hg)).trans ho),lowq:=fun g hg=>zF (h.lowq g hg) hf.size }
theorem QRow.ne{w:World}{v:Value}{q:List (List UInt8)}{g:Nat}{cur:Array Value}{t:TypeId}{fz:Nat×Nat}(h:QRow w v q)(hg:w.heap[g]?=some (.cells cur t fz))(ht:t≠9):q=[]\/v.ownBlock≠some g:=by
 rcases h with h|⟨g',off,cap,cur',e1,e2,_⟩
 . exact .inl (by obtain⟨_,_,h⟩:=h;exact h)
 . right;intro e;rw[e1]at e;simp only[Value.ownBlock,Option.some.injEq]at e;subst e;rw[hg]at e2;simp only[Option.some.injEq,Obj.cells.injEq]at e2;exact ht e2.2.1
theorem QRow.set{w:World}{v:Value}{q:List (List UInt8)}{b i:Nat}{cur:Array Value}{t:TypeId}{fz:Nat×Nat}(h:QRow w v q)(hg:w.heap[b]?=some (.cells cur t fz))(ht:t≠9)(u:Value):QRow (w.setCell ⟨b,i,none⟩ u) v q:=by
 rcases h.ne hg ht with h0|h0
 . rcases h with h|⟨g,off,cap,cur',e1,e2,e3,e4,e5⟩
   . exact .inl h
   . refine .inr ⟨g,off,cap,cur',e1,(zK w ⟨b,i,none⟩ u g (fun e=>?_)).trans e2,e3,e4,e5⟩;have e:g=b:=e;subst e;rw[hg]at e2;simp only[Option.some.injEq,Obj.cells.injEq]at e2;exact ht e2.2.1
 . exact h.keep (fun g o hg2 ho=>(zK w ⟨b,i,none⟩ u g (fun e=>h0 (by rw[<- show g=b from e];exact hg2))).trans ho)
theorem infoL:(Try.prog.info? 75).map (fun i=>i.size)=some 6:=by kernel_rfl
theorem eql_self(a:Addr)(w:World):(binOp .eql 23 (.pointer (some a)) (.pointer (some a))).run Try.prog w=.ok (.bool true) w:=by
 obtain⟨j,hj,_⟩:=Option.map_eq_some_iff.1 infoL;exact run_eql_ptr_same w a Try.underlying23 hj
theorem given_any(b:Nat)(w:World)(h:w.cell? ⟨b,0,none⟩=some (.pointer (some ⟨b,0,none⟩))):
 Calls Try.prog 31 #[.pointer (some ⟨b,0,none⟩)] w fun e w'=>e=.returned (.bool true)/\w'=w:=by
 have he:=eql_self ⟨b,0,none⟩ w;go_enter Try.func31,Try.ntmps31;go_wp2;go_ret;exact⟨rfl,rfl⟩
theorem emptyQ_any(w:World):
 Calls Try.prog 30 #[] w fun e w'=>e=.returned (.agg #[.int .i64 1,.slice none 0 0])/\Below w.heap.size w w':=by
 go_enter Try.func30,Try.ntmps30;go_wp2;refine bodyPost_ret (v:=.agg #[.int .i64 1,.slice none 0 0]) ?_ rfl ⟨rfl,(zB _ _).alloc (zC _) _⟩;simp[results,Try.results30,go_sem]
def EpOk(k:Int):Prop:=1<=k/\k<=1099511627776
def NewE(k:Int)(w:World)(e:Ending)(w':World):Prop:=
 Below w.heap.size w w'/\((¬EpOk k/\e=.returned (.tuple #[.pointer none,.int .i64 1]))\/
  (EpOk k/\∃b,e=.returned (.tuple #[.pointer (some ⟨b,0,none⟩),.int .i64 0])/\w.heap.size<=b/\LBlk w' b (.slice none 0 0) (newE k.toNat)))
theorem new_any(k:Int)(w:World):Calls Try.prog 9 #[.int .i64 k] w (NewE k w):=by
 by_cases h1:k<1
 . have HE:Hid (NewE k w (.returned (.tuple #[.pointer none,.int .i64 1])) w):=zA ⟨zB _ _,.inl ⟨fun h=>by have:=h.1;omega,rfl⟩⟩;go_enter Try.func9,Try.ntmps9;go_wp2;go_ret2;exact HE.out
 . by_cases h2:1099511627776<k
   . have HE:Hid (NewE k w (.returned (.tuple #[.pointer none,.int .i64 1])) w):=zA ⟨zB _ _,.inl ⟨fun h=>by have:=h.2;omega,rfl⟩⟩;go_enter Try.func9,Try.ntmps9;go_wp2;go_ret2;exact HE.out
   . obtain⟨r,rfl⟩:∃r:Nat,k=(r:Int):=⟨k.toNat,by omega⟩
     have C:=zA (emptyQ_any w);go_enter Try.func9,Try.ntmps9;go_wp2_with fail;refine C.out.mono ?_;rintro e w1 ⟨rfl,hb⟩;have hbl:=zA (box_at w1 (.cells #[.pointer none,.int .i64 (r:Int),.int .i64 0,.int .i64 1,.int .i64 1,.slice none 0 0] 75));go_wp2;go_ret2;refine⟨?_,.inr ⟨⟨by omega,by omega⟩,w1.heap.size,rfl,hb.size,?_⟩⟩
     . first
        |exact hb.alloc hb.size _
        |exact(hb.alloc hb.size _).setCell hb.size _
     . first
        |exact box_at w1 _
        |exact six_set0 hbl.out
section
variable {S:Nat->Prop} {w:World} {b:Nat} {vq:Value} {e:En}
theorem count_any(h:LB S w b vq e):Calls Try.prog 33 #[.pointer (some ⟨b,4,none⟩)] w fun x w'=>x=.returned (.int .i64 (e.q.length:Int))/\w'=w:=by
 obtain⟨ao,cap,rfl,_⟩:=h.row.slice;obtain⟨⟨g0,g1,g2,g3,g4,g5⟩,-⟩:=six_cells h.blk;clear h;go_enter Try.func33,Try.ntmps33;go_wp2;go_ret;exact⟨rfl,rfl⟩
theorem waits_any(h:LB S w b vq e):Calls Try.prog 22 #[.pointer (some ⟨b,0,none⟩)] w fun x w'=>x=.returned (.int .i64 (e.q.length:Int))/\w'=w:=by
 obtain⟨⟨g0,g1,g2,g3,g4,g5⟩,-⟩:=six_cells h.blk;have C:=zA (given_any b w g0);have C2:=zA (count_any h);clear h;go_enter Try.func22,Try.ntmps22;go_wp2_with fail;refine C.out.mono ?_;rintro x w1 ⟨rfl,hw⟩;rw[hw];clear hw;go_wp2_with fail;refine C2.out.mono ?_;rintro x w2 ⟨rfl,hw⟩;rw[hw];clear hw;go_wp2;go_ret;exact⟨rfl,rfl⟩
theorem other_any(h:LB S w b vq e):Calls Try.prog 23 #[.pointer (some ⟨b,0,none⟩)] w fun x w'=>x=.returned (.int .i64 (e.ot:Int))/\w'=w:=by
 obtain⟨⟨g0,g1,g2,g3,g4,g5⟩,-⟩:=six_cells h.blk;have C:=zA (given_any b w g0);clear h;go_enter Try.func23,Try.ntmps23;go_wp2_with fail;refine C.out.mono ?_;rintro x w1 ⟨rfl,hw⟩;rw[hw];clear hw;go_wp2;go_ret;exact⟨rfl,rfl⟩
def Win(w:World)(v:Value)(l:List (List UInt8)):Prop:=∃ao,v=.slice ao l.length l.length/\∀(j:Nat) t,l[j]?=some t->∃g off,ao=some ⟨g,off,none⟩/\g<w.heap.size/\w.cell? ⟨g,off+j,none⟩=some (.string ⟨t.toArray⟩)
theorem window_any(h:LB S w b vq e):Calls Try.prog 38 #[.pointer (some ⟨b,4,none⟩)] w fun x w'=>(∃v,x=.returned v/\Win w v (e.q.take 64))/\w'=w:=by
 obtain⟨ao,cap,hv,hcap⟩:=h.row.slice;subst hv;have hlow:=h.lowq;obtain⟨⟨g0,g1,g2,g3,g4,g5⟩,-⟩:=six_cells h.blk;have HW:Hid (∀m,m=(e.q.take 64).length->Win w (.slice ao m m) (e.q.take 64)):=zA (fun m hm=>⟨ao,by rw[hm],fun j t hj=>by
  have hj2:e.q[j]?=some t:=by
   rw[List.getElem?_take]at hj;split at hj
   . exact hj
   . cases hj
  obtain⟨g,off,rfl,hc⟩:=h.row.get hj2;exact⟨g,off,rfl,hlow g rfl,hc⟩⟩)
 have hql:=h.ok.ql;have HL:Hid ((e.q.take 64).length=min 64 e.q.length):=zA (by rw[zQ]);clear h hlow;obtain⟨n,hn⟩:∃n,n=e.q.length:=⟨_,rfl⟩
 rw[<- hn]at*;clear hn;by_cases h64:n<=64
 . have hm:(n:Int)<=64:=by omega
   go_enter Try.func38,Try.ntmps38;go_wp2;go_ret;exact⟨⟨_,rfl,HW.out _ (by rw[HL.out];omega)⟩,rfl⟩
 . have hm:¬(n:Int)<=64:=by omega
   go_enter Try.func38,Try.ntmps38;go_wp2;go_ret;exact⟨⟨_,rfl,HW.out _ (by rw[HL.out];omega)⟩,rfl⟩
end
end Go.Proofs.Ytjoddkeamboeoaa
