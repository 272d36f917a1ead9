/- ETake, ETwo, ECar. -/
import Derived.Test.YtjoddkeamboeoaaMG29
import Derived.Test.YtjoddkeamboeoaaMG30
import Derived.Maps.AppendAt
set_option maxRecDepth 100000
namespace Go.Proofs.Ytjoddkeamboeoaa
open Go.RowKit
section
variable {S:Nat->Prop} {w:World} {b:Nat} {vq:Value} {e:En}
theorem takeL_any(h:LB S w b vq e)(hS:Low S w)(l:List UInt8)(hl:l.length<=140737488351232):
 Calls Try.prog 19 #[.pointer (some ⟨b,0,none⟩),.string ⟨l.toArray⟩] w (TakE S w b e l):=by
 cases hh:heardP l with
 |none=>exact take_none h hS l hl hh
 |some y=>
  by_cases ho:y.ep=0\/y.ep<(e.ot:Int)
  . exact take_old h hS l hl y hh ho
  . by_cases hlt:(e.ot:Int)<y.ep
    . exact take_later h hS l hl y hh ho hlt
    . exact take_same h hS l hl y hh ho hlt
end
def Two(S:Nat->Prop)(w:World)(b1:Nat)(e1:En)(b2:Nat)(e2:En):Prop:=
 ∃v1 v2,LB S w b1 v1 e1/\LB S w b2 v2 e2/\b1≠b2/\(∀g,v1.ownBlock=some g->v2.ownBlock≠some g)/\v1.ownBlock≠some b2/\v2.ownBlock≠some b1
def Nw(S:Nat->Prop)(w w':World):Nat->Prop:=fun k=>S k\/(w.heap.size<=k/\k<w'.heap.size)
section
variable {S T:Nat->Prop} {w w':World} {b1 b2:Nat} {e1 e2:En}
theorem Two.swap(h:Two S w b1 e1 b2 e2):Two S w b2 e2 b1 e1:=by
 obtain⟨v1,v2,h1,h2,h3,h4,h5,h6⟩:=h;exact⟨v2,v1,h2,h1,h3.symm,fun g hg hq=>h4 g hq hg,h6,h5⟩
theorem Two.sub(h:Two S w b1 e1 b2 e2)(hT:∀k,T k->S k):Two T w b1 e1 b2 e2:=by
 obtain⟨v1,v2,h1,h2,h3⟩:=h;exact⟨v1,v2,h1.sub hT,h2.sub hT,h3⟩
theorem Two.below(h:Two S w b1 e1 b2 e2)(hb:Below w.heap.size w w'):Two S w' b1 e1 b2 e2:=by
 obtain⟨v1,v2,h1,h2,h3⟩:=h;exact⟨v1,v2,h1.below hb,h2.below hb,h3⟩
theorem LB.nw{b:Nat}{v:Value}{e:En}(h:LB S w b v e)(hb:Below w.heap.size w w'):LB (Nw S w w') w' b v e:=by
 have hlt:=lt_of_block h.blk;refine(h.below hb).more (fun k hk=>hk.elim .inl (fun h1=>.inr ⟨by omega,fun e=>by have:=h.lowq k e;omega⟩))
theorem Two.nw(h:Two S w b1 e1 b2 e2)(hb:Below w.heap.size w w'):Two (Nw S w w') w' b1 e1 b2 e2:=by
 obtain⟨v1,v2,h1,h2,h3⟩:=h;exact⟨v1,v2,h1.nw hb,h2.nw hb,h3⟩
theorem Nw.low(hS:Low S w)(hz:w.heap.size<=w'.heap.size):Low (Nw S w w') w':=fun k hk=>hk.elim (fun h=>zF (hS k h) hz) (fun h=>h.2)
theorem Two.fr(h:Two S w b1 e1 b2 e2)(hk:∀k,k<w.heap.size->¬S k->w'.heap[k]?=w.heap[k]?)(hz:w.heap.size<=w'.heap.size):Two S w' b1 e1 b2 e2:=by
 obtain⟨v1,v2,h1,h2,h3⟩:=h;have key:∀ {b:Nat} {v:Value} {e:En},LB S w b v e->LB S w' b v e:=fun {b v e} h=>
  { h with blk:=(hk b (lt_of_block h.blk) h.out).trans h.blk,row:=h.row.keep (fun g o hg ho=>(hk g (lt_of_block ho) (h.outq g hg)).trans ho),lowq:=fun g hg=>zF (h.lowq g hg) hz }
 exact⟨v1,v2,key h1,key h2,h3⟩
theorem Two.grown{row:Option Nat}(h:Two S w b1 e1 b2 e2)(hg:w.grownBy w' row)(hr:∀g,row=some g->S g):Two S w' b1 e1 b2 e2:=
 h.fr (fun k hk hn=>hg.block k hk (fun e=>hn (hr k e.symm))) hg.size
theorem Two.set{k i:Nat}(h:Two S w b1 e1 b2 e2)(hk:S k)(u:Value):Two S (w.setCell ⟨k,i,none⟩ u) b1 e1 b2 e2:=
 h.fr (fun j _ hn=>set1_other (fun e=>hn (by rw[e];exact hk)) u) (by simp)
def Oth(S:Nat->Prop)(b2:Nat)(v2:Value):Nat->Prop:=fun k=>S k\/k=b2\/v2.ownBlock=some k
theorem two_open(h:Two S w b1 e1 b2 e2)(hS:Low S w):∃v1 v2,LB (Oth S b2 v2) w b1 v1 e1/\LB S w b2 v2 e2/\b1≠b2/\v2.ownBlock≠some b1/\Low (Oth S b2 v2) w:=by
 obtain⟨v1,v2,h1,h2,h3,h4,h5,h6⟩:=h;refine⟨v1,v2,h1.more (fun k hk=>?_),h2,h3,h6,fun k hk=>?_⟩
 . rcases hk with hk|rfl|hk
   . exact .inl hk
   . exact .inr ⟨h3.symm,h5⟩
   . exact .inr ⟨fun e=>h6 (by rw[<- e];exact hk),fun e=>h4 k e hk⟩
 . rcases hk with hk|rfl|hk
   . exact hS k hk
   . exact lt_of_block h2.blk
   . exact h2.lowq k hk
theorem two_shut{v1 v2:Value}{e1':En}(hl:LB (Oth S b2 v2) w' b1 v1 e1')(h2:LB S w b2 v2 e2)(h3:b1≠b2)(h6:v2.ownBlock≠some b1)(hf:Fr (Oth S b2 v2) w w'):Two S w' b1 e1' b2 e2:=by
 refine⟨v1,v2,hl.sub (fun _ hk=>.inl hk),h2.other hf (.inr (.inl rfl)) (fun g hg=>.inr (.inr hg)),h3,fun g hg hq=>hl.outq g hg (.inr (.inr hq)),fun e=>hl.outq b2 e (.inr (.inl rfl)),h6⟩
def TakT(S:Nat->Prop)(w:World)(b1:Nat)(e1:En)(b2:Nat)(e2:En)(l:List UInt8)(x:Ending)(w':World):Prop:=
 (∃a0 l0 c0 a1 l1 c1,x=.returned (.agg #[.slice a0 l0 c0,.slice a1 l1 c1,.bool (takeE e1 l).2.2.2])/\OneN w' w.heap.size (.slice a0 l0 c0) (takeE e1 l).2.1/\OneT w' w.heap.size (.slice a1 l1 c1) (takeE e1 l).2.2.1)/\Two (Nw S w w') w' b1 (takeE e1 l).1 b2 e2/\Fr S w w'
theorem takT_any(h:Two S w b1 e1 b2 e2)(hS:Low S w)(l:List UInt8)(hl:l.length<=140737488351232):
 Calls Try.prog 19 #[.pointer (some ⟨b1,0,none⟩),.string ⟨l.toArray⟩] w (TakT S w b1 e1 b2 e2 l):=by
 obtain⟨v1,v2,h1,h2,h3,h6,hO⟩:=two_open h hS;refine(takeL_any h1 hO l hl).mono ?_;rintro x w' ⟨hr,vq',hf⟩;have ht:=two_shut (hf.lb.sub (fun k hk=>.inl hk)) h2 h3 h6 hf.fr;refine⟨hr,?_,hf.fr.sub (fun _ hk=>.inl hk)⟩;obtain⟨u1,u2,k1,k2,k3⟩:=two_shut (hf.lb.sub (fun k hk=>.inl hk)) h2 h3 h6 hf.fr;refine⟨vq',v2,hf.lb.sub (fun k hk=>hk.elim (fun h=>.inl (.inl h)) (fun h=>.inr h.1)),?_,h3,fun g hg hq=>hf.lb.outq g hg (.inl (.inr (.inr hq))),fun e=>hf.lb.outq b2 e (.inl (.inr (.inl rfl))),h6⟩;have hlt:=lt_of_block h2.blk;exact(h2.other hf.fr (.inr (.inl rfl)) (fun g hg=>.inr (.inr hg))).more (fun k hk=>hk.elim .inl (fun h1=>.inr ⟨by omega,fun e=>by have:=h2.lowq k e;omega⟩))
def PtT2(S:Nat->Prop)(w:World)(b1:Nat)(e1:En)(b2:Nat)(e2:En)(n:NoteD)(x:Ending)(w':World):Prop:=
 (∃a0 l0 c0,x=.returned (.tuple #[.slice a0 l0 c0,.int .i64 ((putE e1 n).2.2:Int)])/\OneT w' w.heap.size (.slice a0 l0 c0) (putE e1 n).2.1/\Two (fun k=>S k\/(Value.slice a0 l0 c0).ownBlock=some k) w' b1 (putE e1 n).1 b2 e2)/\Fr S w w'
theorem putT2_any(h:Two S w b1 e1 b2 e2)(hS:Low S w)(v:Value)(n:NoteD)(hn:NoteAt w v n)(hs:n.sane):
 Calls Try.prog 13 #[.pointer (some ⟨b1,0,none⟩),v] w (PtT2 S w b1 e1 b2 e2 n):=by
 obtain⟨v1,v2,h1,h2,h3,h6,hO⟩:=two_open h hS;refine(putL_any h1 hO v n hn hs).mono ?_;rintro x w' ⟨⟨a0,l0,c0,hr,ho,vq',hl⟩,hf⟩;refine⟨⟨a0,l0,c0,hr,ho,vq',v2,hl.sub (fun k hk=>hk.elim (fun h=>.inl (.inl h)) .inr),?_,h3,fun g hg hq=>hl.outq g hg (.inl (.inr (.inr hq))),fun e=>hl.outq b2 e (.inl (.inr (.inl rfl))),h6⟩,hf.sub (fun _ hk=>.inl hk)⟩;have hlt:=lt_of_block h2.blk;refine(h2.other hf (.inr (.inl rfl)) (fun g hg=>.inr (.inr hg))).more (fun k hk=>hk.elim .inl (fun h1=>.inr ?_));rcases ho with⟨_,e0⟩|⟨g,t,_,e0,hB,_⟩
 . rw[e0]at h1;cases h1
 . rw[e0]at h1;have:g=k:=by simpa[Value.ownBlock]using h1
   subst this;exact⟨by omega,fun e=>by have:=h2.lowq g e;omega⟩
def PtT(S:Nat->Prop)(w:World)(b1:Nat)(e1:En)(b2:Nat)(e2:En)(n:NoteD)(x:Ending)(w':World):Prop:=
 (∃a0 l0 c0,x=.returned (.tuple #[.slice a0 l0 c0,.int .i64 ((putE e1 n).2.2:Int)])/\OneT w' w.heap.size (.slice a0 l0 c0) (putE e1 n).2.1)/\Two S w' b1 (putE e1 n).1 b2 e2/\Fr S w w'
theorem putT_any(h:Two S w b1 e1 b2 e2)(hS:Low S w)(v:Value)(n:NoteD)(hn:NoteAt w v n)(hs:n.sane):
 Calls Try.prog 13 #[.pointer (some ⟨b1,0,none⟩),v] w (PtT S w b1 e1 b2 e2 n):=by
 refine(putT2_any h hS v n hn hs).mono ?_;rintro x w' ⟨⟨a0,l0,c0,hr,ho,ht⟩,hf⟩;exact⟨⟨a0,l0,c0,hr,ho⟩,ht.sub (fun _ hk=>.inl hk),hf⟩
theorem tickT_any(h:Two S w b1 e1 b2 e2):Calls Try.prog 16 #[.pointer (some ⟨b1,0,none⟩)] w (TckE w e1):=by
 obtain⟨v1,v2,h1,_⟩:=h;exact tickL_any h1
theorem waitsT_any(h:Two S w b1 e1 b2 e2):Calls Try.prog 22 #[.pointer (some ⟨b1,0,none⟩)] w fun x w'=>x=.returned (.int .i64 (e1.q.length:Int))/\w'=w:=by
 obtain⟨v1,v2,h1,_⟩:=h;exact waits_any h1
theorem otherT_any(h:Two S w b1 e1 b2 e2):Calls Try.prog 23 #[.pointer (some ⟨b1,0,none⟩)] w fun x w'=>x=.returned (.int .i64 (e1.ot:Int))/\w'=w:=by
 obtain⟨v1,v2,h1,_⟩:=h;exact other_any h1
theorem two_new{k1 k2:Nat}(hk1:LBlk w b1 (.slice none 0 0) (newE k1))(hk2:LBlk w b2 (.slice none 0 0) (newE k2))(h1:(newE k1).ok)(h2:(newE k2).ok)(hs1:¬S b1)(hs2:¬S b2)(hne:b1≠b2):Two S w b1 (newE k1) b2 (newE k2):=
 ⟨.slice none 0 0,.slice none 0 0,⟨hk1,hs1,QRow.nil _,fun g hg=>(by cases hg),fun g hg=>(by cases hg),by simp[Value.ownBlock],h1⟩,⟨hk2,hs2,QRow.nil _,fun g hg=>(by cases hg),fun g hg=>(by cases hg),by simp[Value.ownBlock],h2⟩,hne,fun g hg=>(by cases hg),by simp[Value.ownBlock],by simp[Value.ownBlock]⟩
theorem Two.ok(h:Two S w b1 e1 b2 e2):e1.ok/\e2.ok:=by
 obtain⟨v1,v2,h1,h2,_⟩:=h;exact⟨h1.ok,h2.ok⟩
end
end Go.Proofs.Ytjoddkeamboeoaa
namespace Go.Proofs.Ytjoddkeamboeoaa
open Go.RowKit Go.Shelf
theorem run_append_all{w:World}{B n k:Nat}{v:Value}{xs:List Value}{t e:TypeId}{i0:TypeInfo}{z:Value}{bytes:Nat}(ht:Try.prog.underlying t=some (.slice e))(hi:Try.prog.info? e=some i0)(hz0:i0.zero=some z)(hz1:i0.size=k)(hz2:i0.bytes=bytes)(hz3:z.cells.size=k)(hk:0<k)
 (hown:w.ownsRow B e k v n xs) (ao:Option Addr) (us:List Value) (m cap:Nat) (hm:us.length=m*k) (hnone:ao=none->m=0/\cap=0) (hc:∀ad,ao=some ad->∀j u,us[j]?=some u->w.cell? (ad.add j)=some u) (h1:∀u∈us,u.oneCell'=true)
 (h63:n+m<=maxLen) (hb:(n+m)*bytes<=140737488355328) (hB:B<=w.heap.size) (ty:TypeId):
 ∃v' w',(Builtin.append_ #[t,t] ty #[v,.slice ao m cap]).run Try.prog w=.ok v' w'/\w'.ownsRow B e k v' (n+m) (xs++us)/\w.grownBy w' v.ownBlock/\(v'.ownBlock=v.ownBlock\/v'.ownBlock=some w.heap.size):=by
 cases ao with
 |some ad=>
  obtain⟨v',w',hr,h2,h3,_,h5⟩:=run_append_own_at (P:=Try.prog) w B t ty e i0 z k bytes ht hi hz0 hz1 hz2 hz3 hk v n xs hown ad m cap us hm (hc ad rfl) h1 h63 hb hB;exact⟨v',w',hr,h2,h3,h5⟩
 |none=>
  obtain⟨rfl,rfl⟩:=hnone rfl;have e0:us=[]:=zU.1 (by omega);subst e0;have hrun:=run_append_owned_none (P:=Try.prog) w B t ty e i0 k ht hi v n xs hown;exact⟨v,w,hrun,by simpa using hown,World.grownBy.refl _ _,.inl rfl⟩
theorem wpList_append_all{w:World}{ops:Array Oper}{rest:List Oper}{o:Oper}{a:Act}{Q:Exit->Act->World->Prop}(hgd:o.guard=none)(sl x:Operand){t:TypeId}
 (ho:o.op=.call { callee:=.builtin .append,args:=#[sl,x],argTypes:=#[t,t] })
 {B n k:Nat} {v:Value} {xs:List Value} {e:TypeId} {i0:TypeInfo} {z:Value} {bytes:Nat} (ht:Try.prog.underlying t=some (.slice e)) (hi:Try.prog.info? e=some i0) (hz0:i0.zero=some z) (hz1:i0.size=k) (hz2:i0.bytes=bytes) (hz3:z.cells.size=k) (hk:0<k)
 (hs:a.eval sl=v) (hown:w.ownsRow B e k v n xs) (ao:Option Addr) (us:List Value) (m cap:Nat) (hx:a.eval x=.slice ao m cap) (hm:us.length=m*k) (hnone:ao=none->m=0/\cap=0) (hc:∀ad,ao=some ad->∀j u,us[j]?=some u->w.cell? (ad.add j)=some u) (h1:∀u∈us,u.oneCell'=true)
 (h63:n+m<=maxLen) (hb:(n+m)*bytes<=140737488355328) (hB:B<=w.heap.size)
 (h:∀v' w',w'.ownsRow B e k v' (n+m) (xs++us)->w.grownBy w' v.ownBlock->(v'.ownBlock=v.ownBlock\/v'.ownBlock=some w.heap.size)->wpList Try.prog ops Q rest (a.put o.dst v') w'):wpList Try.prog ops Q (o::rest) a w:=by
 refine wpList_plain hgd fun K hK=>?_
 obtain⟨v',w',hr,h2,h3,h5⟩:=run_append_all ht hi hz0 hz1 hz2 hz3 hk hown ao us m cap hm hnone hc h1 h63 hb hB o.type;unfold Oper.wp execOp;simp only[ho,resolve,invoke,builtin,Sem.run_bind,Sem.run_pure,Result.andThen_ok,List.map_toArray,List.map_cons,List.map_nil,hs,hx,hr];exact hK _ _ (h v' w' h2 h3 h5)
theorem infoN:(Try.prog.info? 36).map (fun i=>(i.zero,i.size,i.bytes))=some (some (.agg #[.int .i64 0,.slice none 0 0,.slice none 0 0,.slice none 0 0]),4,80):=by kernel_rfl
def backs(f:En)(ps:List (List UInt8)):En:=ps.foldl (fun f p=>(takeE f p).1) f
def stepR(st:En×En×List NoteD×Bool)(p:List UInt8):En×En×List NoteD×Bool:=
 (backs st.1 (takeE st.2.1 p).2.2.1,(takeE st.2.1 p).1,st.2.2.1++(takeE st.2.1 p).2.1,st.2.2.2||(takeE st.2.1 p).2.2.2)
def carS(f t:En)(ps:List (List UInt8)):En×En×List NoteD×Bool:=ps.foldl stepR (f,t,[],false)
def carC(f t:En):En×En×List NoteD×Bool:=carS f t (tickE f)
theorem carS_snoc(f t:En)(ps:List (List UInt8))(p:List UInt8):carS f t (ps++[p])=stepR (carS f t ps) p:=by simp[carS]
theorem backs_snoc(f:En)(ps:List (List UInt8))(p:List UInt8):backs f (ps++[p])=(takeE (backs f ps) p).1:=by simp[backs]
def IntT(T:Nat->Prop)(w:World)(v:Value)(xs:List Int):Prop:=
 (∃ao cap,v=.slice ao 0 cap/\xs=[])\/∃g o cap cur fz,v=.slice (some ⟨g,o,none⟩) xs.length cap/\T g/\w.heap[g]?=some (.cells cur 3 fz)/\∀(j:Nat) x,xs[j]?=some x->cur[o+j]?=some (.int .i64 x)
theorem IntT.keep{T U:Nat->Prop}{w w':World}{v:Value}{xs:List Int}(h:IntT T w v xs)(hk:∀g cur fz,T g->w.heap[g]?=some (.cells cur 3 fz)->U g/\w'.heap[g]?=some (.cells cur 3 fz)):IntT U w' v xs:=by
 rcases h with h|⟨g,o,cap,cur,fz,e1,e2,e3,e4⟩
 . exact .inl h
 . obtain⟨k1,k2⟩:=hk g cur fz e2 e3;exact .inr ⟨g,o,cap,cur,fz,e1,k1,k2,e4⟩
theorem RowIn.intT{w:World}{B:Nat}{T:Nat->Prop}{v:Value}{xs:List Int}(h:RowIn w B 3 v (intCs xs))(hT:∀g,B<=g->g<w.heap.size->T g):IntT T w v xs:=by
 rcases h with⟨ao,cap,e,h0⟩|⟨g,o,cap,cur,fz,e1,e2,e3,e4⟩
 . exact .inl ⟨ao,cap,e,List.map_eq_nil_iff.1 h0⟩
 . rw[intCs_len]at e1;exact .inr ⟨g,o,cap,cur,fz,e1,hT g e2 (lt_of_block e3),e3,fun j x hx=>e4 j _ (by rw[intCs,zP,hx];rfl)⟩
def Pay(B:Nat)(T:Nat->Prop)(w:World)(v:Value)(ns:List NoteD):Prop:=
 ∃cs:List Value,w.ownsRow B 36 4 v ns.length cs/\(∀g,v.ownBlock=some g->T g)/\∀(j:Nat) n,ns[j]?=some n->cs[j*4]?=some (.int .i64 n.kind)/\∃vn,cs[j*4+1]?=some vn/\IntT T w vn n.nums
theorem Pay.nil(B:Nat)(T:Nat->Prop)(w:World):Pay B T w (.slice none 0 0) []:=⟨[],World.ownsRow_nil _ _ _ _,fun g hg=>(by cases hg),by simp⟩
theorem Pay.keep{B:Nat}{T U:Nat->Prop}{w w':World}{v:Value}{ns:List NoteD}(h:Pay B T w v ns)(hk:∀g o,T g->w.heap[g]?=some o->U g/\w'.heap[g]?=some o):Pay B U w' v ns:=by
 obtain⟨cs,h1,h2,h3⟩:=h;refine⟨cs,⟨h1.1,?_⟩,fun g hg=>?_,fun j n hn=>?_⟩
 . rcases h1.2 with h0|⟨g,cap,cur,e1,e2,e3,e4⟩
   . exact .inl h0
   . exact .inr ⟨g,cap,cur,e1,e2,(hk g _ (h2 g (by rw[e1];rfl)) e3).2,e4⟩
 . rcases h1.2 with⟨h0,_⟩|⟨g',cap,cur,e1,e2,e3,e4⟩
   . rw[h0]at hg;cases hg
   . have:g=g':=by rw[e1]at hg;simpa[Value.ownBlock]using hg.symm
     subst this;exact(hk g _ (h2 g hg) e3).1
 . obtain⟨k1,vn,k2,k3⟩:=h3 j n hn;exact⟨k1,vn,k2,k3.keep (fun g cur fz hg ho=>hk g _ hg ho)⟩
theorem Pay.fr{B:Nat}{T U:Nat->Prop}{w w':World}{v:Value}{ns:List NoteD}(h:Pay B T w v ns)(hf:Fr T w w')(hU:∀k,T k->U k):Pay B U w' v ns:=h.keep (fun g _ hg ho=>⟨hU g hg,(hf.block g hg).trans ho⟩)
theorem packN_len(n:NoteD):(packN n).length<=1048584:=by
 unfold packN;split
 . rename_i h;rw[sealB_len];have:=h.2.2;omega
 . simp
theorem tickF_short(e:En):∀(l:List (List UInt8)) (k:Nat),∀p∈tickF e k l,p.length<=1048584
 |[],_,p,h=>by simp[tickF]at h
 |x::l,k,p,h=>by
  rw[tickF]at h;rcases List.mem_cons.1 h with rfl|h
  . exact packN_len _
  . exact tickF_short e l (k+1) p h
theorem tickE_short(e:En):∀p∈tickE e,p.length<=1048584:=tickF_short e _ _
theorem takeE_short(e:En)(l:List UInt8):∀p∈(takeE e l).2.2.1,p.length<=1048584:=by
 intro p hp;unfold takeE metE tookE at hp;split at hp
 . simp at hp
 . split at hp
   . simp at hp
   . split at hp
     . simp at hp;rw[hp];exact packN_len _
     . split at hp
       . simp at hp
       . split at hp
         . simp at hp;rw[hp];exact packN_len _
         . simp at hp;rw[hp];exact packN_len _
theorem oneN_cells{w:World}{B:Nat}{a0:Option Addr}{l0 c0:Nat}{ns:List NoteD}{T:Nat->Prop}(h:OneN w B (.slice a0 l0 c0) ns)(hT:∀g,B<=g->g<w.heap.size->T g):
 ∃us:List Value,l0=ns.length/\l0<=1/\us.length=l0*4/\(a0=none->l0=0/\c0=0)/\(∀ad,a0=some ad->∃g,ad=⟨g,0,none⟩/\B<=g/\∀(j:Nat) u,us[j]?=some u->w.cell? ⟨g,j,none⟩=some u)/\(∀u∈us,u.oneCell'=true)/\
  ∀(j:Nat) n,ns[j]?=some n->us[j*4]?=some (.int .i64 n.kind)/\∃vn,us[j*4+1]?=some vn/\IntT T w vn n.nums:=by
 rcases h with⟨rfl,e⟩|⟨g,n,a0',l0',c0',a1,l1,c1,a2,l2,c2,rfl,e,hB,hb,ho⟩
 . injection e with e1 e2 e3;subst e1 e2 e3;exact⟨[],rfl,by omega,rfl,fun _=>⟨rfl,rfl⟩,fun ad h=>(by cases h),by simp,by simp⟩
 . injection e with e1 e2 e3;subst e1 e2 e3;refine⟨[.int .i64 n.kind,.slice a0' l0' c0',.slice a1 l1 c1,.slice a2 l2 c2],rfl,by omega,rfl,fun h=>(by cases h),fun ad h=>⟨g,(Option.some.inj h).symm,hB,fun j u hj=>?_⟩,by simp[Value.oneCell'],fun j m hj=>?_⟩
   . simp only[World.cell?,hb];simpa using hj
   . have:j=0:=by have:=(zG.1 hj).1;simp at this;exact this
     subst this;simp at hj;subst hj;refine⟨rfl,_,rfl,?_⟩;obtain⟨vn,vt,vr,e,h1,_⟩:=ho;simp only[Value.agg.injEq,Array.mk.injEq,List.cons.injEq,and_true,true_and]at e;obtain⟨rfl,-,-⟩:=e;exact h1.intT hT
theorem oneT_cells{w:World}{B:Nat}{a1:Option Addr}{l1 c1:Nat}{ps:List (List UInt8)}(h:OneT w B (.slice a1 l1 c1) ps):l1=ps.length/\l1<=1/\∀(j:Nat) q,ps[j]?=some q->∃g,a1=some ⟨g,0,none⟩/\B<=g/\w.heap[g]?=some (.cells #[.string ⟨q.toArray⟩] 9 (0,0))/\j=0:=by
 rcases h with⟨rfl,e⟩|⟨g,t,rfl,e,hB,hb⟩
 . injection e with e1 e2 e3;subst e1 e2 e3;exact⟨rfl,by omega,by simp⟩
 . injection e with e1 e2 e3;subst e1 e2 e3;refine⟨rfl,by omega,fun j q hj=>?_⟩;have:j=0:=by have:=(zG.1 hj).1;simp at this;exact this
   subst this;simp at hj;subst hj;exact⟨g,rfl,hB,hb,rfl⟩
theorem Pay.more{B:Nat}{T:Nat->Prop}{w':World}{v':Value}{ns ms:List NoteD}{us:List Value}{cs:List Value}(h1:w'.ownsRow B 36 4 v' (ns.length+ms.length) (cs++us))(hl:cs.length=ns.length*4)(hv:∀g,v'.ownBlock=some g->T g)
 (hc:∀(j:Nat) n,ns[j]?=some n->cs[j*4]?=some (.int .i64 n.kind)/\∃vn,cs[j*4+1]?=some vn/\IntT T w' vn n.nums) (hu:∀(j:Nat) n,ms[j]?=some n->us[j*4]?=some (.int .i64 n.kind)/\∃vn,us[j*4+1]?=some vn/\IntT T w' vn n.nums):Pay B T w' v' (ns++ms):=by
 refine⟨cs++us,by rw[zE];exact h1,hv,fun j n hn=>?_⟩;by_cases hj:j<ns.length
 . rw[zV hj]at hn;obtain⟨k1,vn,k2,k3⟩:=hc j n hn;exact⟨by rw[zV (by omega)];exact k1,vn,by rw[zV (by omega)];exact k2,k3⟩
 . rw[zT (by omega)]at hn;obtain⟨k1,vn,k2,k3⟩:=hu _ n hn;have e1:j*4-cs.length=(j-ns.length)*4:=by omega
   have e2:j*4+1-cs.length=(j-ns.length)*4+1:=by omega
   exact⟨by rw[zT (by omega),e1];exact k1,vn,by rw[zT (by omega),e2];exact k2,k3⟩
def CarE(S:Nat->Prop)(w:World)(b1:Nat)(f:En)(b2:Nat)(t:En)(x:Ending)(w':World):Prop:=
 ∃v T,x=.returned (.tuple #[v,.bool (carC f t).2.2.2])/\Two T w' b1 (carC f t).1 b2 (carC f t).2.1/\(∀k,S k->T k)/\Low T w'/\Fr S w w'/\Pay w.heap.size T w' v (carC f t).2.2.1
end Go.Proofs.Ytjoddkeamboeoaa
