/- QBase, QState, QPlaces, QReqS. -/
import Derived.Test.YtkbgmcmcpbegjabGreatDoorMH1
import Derived.Test.YtkbgmcmcpbegjabGreatDoorMH2
import Derived.Deep.AppendLies
set_option maxRecDepth 100000
namespace Go.Proofs.YtkbgmcmcpbegjabGreatDoor
open Go.RowKit
structure Fr (S:Nat->Prop) (w w':World):Prop where
 os:w'.os=w.os
 tape:w'.tape=w.tape
 output:w'.output=w.output
 size:w.heap.size<=w'.heap.size
 block:∀k,S k->w'.heap[k]?=w.heap[k]?
theorem Fr.refl(S:Nat->Prop)(w:World):Fr S w w:=⟨rfl,rfl,rfl,zD _,fun _ _=>rfl⟩
theorem Fr.trans{S:Nat->Prop}{a b c:World}(h:Fr S a b)(k:Fr S b c):Fr S a c:=
 ⟨k.os.trans h.os,k.tape.trans h.tape,k.output.trans h.output,zQ h.size k.size,fun i hi=>(k.block i hi).trans (h.block i hi)⟩
theorem Fr.sub{S T:Nat->Prop}{w w':World}(h:Fr S w w')(hs:∀k,T k->S k):Fr T w w':=⟨h.os,h.tape,h.output,h.size,fun k hk=>h.block k (hs k hk)⟩
theorem Fr.below{S:Nat->Prop}{w w':World}{B:Nat}(h:Fr S w w')(hs:∀k,k<B->S k):Below B w w':=⟨h.os,h.tape,h.output,h.size,fun k hk=>h.block k (hs k hk)⟩
def Low(S:Nat->Prop)(w:World):Prop:=∀k,S k->k<w.heap.size
theorem Low.fr{S T:Nat->Prop}{w w':World}(h:Low S w)(hf:Fr T w w'):Low S w':=fun k hk=>zO (h k hk) hf.size
theorem Low.below{S:Nat->Prop}{w w':World}{B:Nat}(h:Low S w)(hf:Below B w w'):Low S w':=fun k hk=>zO (h k hk) hf.size
theorem Low.size{S:Nat->Prop}{w w':World}(h:Low S w)(hf:w.heap.size<=w'.heap.size):Low S w':=fun k hk=>zO (h k hk) hf
theorem fr_below{S:Nat->Prop}{w w':World}(hS:Low S w)(h:Below w.heap.size w w'):Fr S w w':=⟨h.os,h.tape,h.output,h.size,fun k hk=>h.block k (hS k hk)⟩
theorem Fr.next{S:Nat->Prop}{w w1 w2:World}(h:Fr S w w1)(hS:Low S w)(hb:Below w1.heap.size w1 w2):Fr S w w2:=h.trans (fr_below (hS.fr h) hb)
theorem Fr.setCell{S:Nat->Prop}{w w':World}{b i:Nat}(h:Fr S w w')(hb:¬S b)(v:Value):Fr S w (w'.setCell ⟨b,i,none⟩ v):=
 ⟨h.os,h.tape,h.output,by simpa using h.size,fun k hk=>(zL w' ⟨b,i,none⟩ v k (fun e=>hb (by rw[<- show k=b from e];exact hk))).trans (h.block k hk)⟩
theorem Fr.grown{S:Nat->Prop}{w w1 w2:World}{row:Option Nat}(h:Fr S w w1)(hS:Low S w)(hg:w1.grownBy w2 row)(hr:∀g,row=some g->¬S g):Fr S w w2:=
 ⟨hg.os.trans h.os,hg.tape.trans h.tape,hg.output.trans h.output,zQ h.size hg.size,fun k hk=>(hg.block k (zO (hS k hk) h.size) (fun e=>hr k e.symm hk)).trans (h.block k hk)⟩
def Plus(S:Nat->Prop)(lo hi:Nat):Nat->Prop:=fun k=>S k\/(lo<=k/\k<hi)
theorem Low.plus{S:Nat->Prop}{w w':World}(h:Low S w)(hs:w.heap.size<=w'.heap.size):Low (Plus S w.heap.size w'.heap.size) w':=fun k hk=>by
 rcases hk with hk|hk
 . have:=h k hk;omega
 . exact hk.2
theorem box_at(w:World)(o:Obj):(w.alloc o).heap[w.heap.size]?=some o:=heap_alloc_new w o
theorem own_slice{w:World}{B n:Nat}{e:TypeId}{size:Nat}{v:Value}{xs:List Value}(h:w.ownsRow B e size v n xs):∃ao cap,v=.slice ao n cap:=by
 rcases h.2 with⟨rfl,rfl⟩|⟨g,cap,cur,rfl,_⟩
 . exact⟨none,0,rfl⟩
 . exact⟨_,cap,rfl⟩
theorem own_lt{w:World}{B n g:Nat}{e:TypeId}{size:Nat}{v:Value}{xs:List Value}(h:w.ownsRow B e size v n xs)(hg:v.ownBlock=some g):g<w.heap.size:=(h.lt g hg).2
theorem owns_key{w w':World}{B n:Nat}{e:TypeId}{size:Nat}{v:Value}{xs:List Value}(h:w.ownsRow B e size v n xs)(key:∀g o,v.ownBlock=some g->w.heap[g]?=some o->w'.heap[g]?=some o):w'.ownsRow B e size v n xs:=by
 refine⟨h.1,?_⟩;rcases h.2 with h0|⟨g,cap,cur,e1,e2,e3,e4⟩
 . exact .inl h0
 . exact .inr ⟨g,cap,cur,e1,e2,key g _ (by rw[e1];rfl) e3,e4⟩
theorem owns_below{w w':World}{B n:Nat}{e:TypeId}{size:Nat}{v:Value}{xs:List Value}(h:w.ownsRow B e size v n xs)(hb:Below w.heap.size w w'):w'.ownsRow B e size v n xs:=
 owns_key h (fun g _ _ ho=>(hb.block g (lt_of_block ho)).trans ho)
section
variable {α:Type} {enc:α->List Value} {k:Nat}
def SlS(enc:α->List Value)(k:Nat)(S:Nat->Prop)(w:World)(v:Value)(L:List α):Prop:=
 ∃ao cap,v=.slice ao L.length cap/\(L=[]\/∃g off,ao=some ⟨g,off,none⟩/\S g/\g<w.heap.size/\∀(j:Nat) x,L[j]?=some x->∀(c:Nat) u,(enc x)[c]?=some u->w.cell? ⟨g,off+j*k+c,none⟩=some u)
theorem SlS.keep{S T:Nat->Prop}{w w':World}{v:Value}{L:List α}(h:SlS enc k S w v L)(hz:w.heap.size<=w'.heap.size)(hk:∀b,S b->b<w.heap.size->T b/\w'.heap[b]?=w.heap[b]?):SlS enc k T w' v L:=by
 obtain⟨ao,cap,e,h⟩:=h;refine⟨ao,cap,e,?_⟩;rcases h with h|⟨g,off,e1,hs,hl,hc⟩
 . exact .inl h
 . obtain⟨ht,hb⟩:=hk g hs hl;exact .inr ⟨g,off,e1,ht,zO hl hz,fun j x hx c u hu=>by simpa only[World.cell?,hb]using hc j x hx c u hu⟩
theorem SlS.below{S:Nat->Prop}{w w':World}{v:Value}{L:List α}(h:SlS enc k S w v L)(hb:Below w.heap.size w w'):SlS enc k S w' v L:=
 h.keep hb.size (fun b hs hl=>⟨hs,hb.block b hl⟩)
theorem SlS.fr{S:Nat->Prop}{w w':World}{v:Value}{L:List α}(h:SlS enc k S w v L)(hf:Fr S w w'):SlS enc k S w' v L:=
 h.keep hf.size (fun b hs _=>⟨hs,hf.block b hs⟩)
theorem SlS.sub{S T:Nat->Prop}{w:World}{v:Value}{L:List α}(h:SlS enc k S w v L)(hs:∀b,S b->b<w.heap.size->T b):SlS enc k T w v L:=
 h.keep (zD _) (fun b hb hl=>⟨hs b hb hl,rfl⟩)
theorem SlS.nil(S:Nat->Prop)(w:World):SlS enc k S w (.slice none 0 0) []:=⟨none,0,rfl,.inl rfl⟩
theorem SlS.get{S:Nat->Prop}{w:World}{ao:Option Addr}{n cap:Nat}{L:List α}(h:SlS enc k S w (.slice ao n cap) L){j:Nat}{x:α}(hx:L[j]?=some x):
 ∃g off,ao=some ⟨g,off,none⟩/\S g/\g<w.heap.size/\∀(c:Nat) u,(enc x)[c]?=some u->w.cell? ⟨g,off+j*k+c,none⟩=some u:=by
 obtain⟨ao',cap',e,h⟩:=h;injection e with e1 e2 e3;subst e1;rcases h with rfl|⟨g,off,e1,hs,hl,hc⟩
 . simp at hx
 . exact⟨g,off,e1,hs,hl,hc j x hx⟩
theorem SlS.slice{S:Nat->Prop}{w:World}{v:Value}{L:List α}(h:SlS enc k S w v L):∃ao cap,v=.slice ao L.length cap:=by
 obtain⟨ao,cap,e,_⟩:=h;exact⟨ao,cap,e⟩
theorem flat_len(hk:∀x,(enc x).length=k)(L:List α):(L.flatMap enc).length=L.length*k:=by
 induction L with
 |nil=>simp
 |cons x l ih=>rw[yS,zG,ih,hk,yI,Nat.succ_mul];omega
theorem flat_at(hk:∀x,(enc x).length=k):∀(L:List α) (j c:Nat) (x:α),L[j]?=some x->c<k->(L.flatMap enc)[j*k+c]?=(enc x)[c]?
 |[],j,c,x,h,_=>by simp at h
 |y::l,0,c,x,h,hc=>by
  simp at h;subst h;rw[yS,Nat.zero_mul,Nat.zero_add,yE (by rw[hk];exact hc)]
 |y::l,j+1,c,x,h,hc=>by
  rw[yS,yM (by rw[hk,Nat.succ_mul];omega),hk,show (j+1)*k+c-k=j*k+c by rw[Nat.succ_mul];omega];exact flat_at hk l j c x (by simpa using h) hc
theorem own_sl(hk:∀x,(enc x).length=k){w:World}{B n:Nat}{e:TypeId}{v:Value}{L:List α}(h:w.ownsRow B e k v n (L.flatMap enc))(hn:n=L.length):SlS enc k (fun g=>v.ownBlock=some g) w v L:=by
 have h0:=h;rcases h.2 with⟨rfl,h1⟩|⟨g,cap,cur,rfl,_⟩
 . have:L=[]:=yP.1 (by omega);subst this;exact SlS.nil _ _
 . subst hn;refine⟨_,cap,rfl,.inr ⟨g,0,rfl,rfl,(h.lt g rfl).2,fun j x hx c u hu=>?_⟩⟩;have hc:c<k:=by have:=(zE.1 hu).1;rw[hk]at this;exact this
   have hj:=(zE.1 hx).1;have hlt:j*k+c<(L.flatMap enc).length:=by
    rw[flat_len hk];have:(j+1)*k<=L.length*k:=Nat.mul_le_mul_right k hj;rw[Nat.succ_mul]at this;omega
   rw[Nat.zero_add,h0.cellAt (j*k+c) (by rw[flat_len hk]at hlt;exact hlt),flat_at hk L j c x hx hc,hu]
end
set_option maxHeartbeats 400000 in
theorem clone_any(s:ByteArray)(w:World)(hs:s.size<=140737488355328):
 Calls Tryz.prog 61 #[.string s] w fun e w'=>e=.returned (.string s)/\Below w.heap.size w w':=by
 go_enter Tryz.func61,Tryz.ntmps61;go_wp2_with fail;refine(Tryz.stringslite_Clone _ _ (by omega)).mono ?_;rintro e w1 ⟨rfl,hb⟩;go_wp2;go_ret;exact⟨rfl,hb⟩
abbrev csN(x:Vt):List Value:=[.int .i64 x.kind,.string ⟨x.word.toArray⟩,x.val]
abbrev encN(x:Vt):Value:=.agg #[.int .i64 x.kind,.string ⟨x.word.toArray⟩,x.val]
theorem csN_len(x:Vt):(csN x).length=3:=rfl
abbrev NodS:=SlS csN 3
def VOk(S:Nat->Prop)(w:World):Vt->Prop
 |⟨_,wd,v,l⟩=>NodS S w v l/\wd.length<=9223372036854775807/\l.length<=9223372036854775807/\∀x,x∈l->VOk S w x
theorem vok_mk{S:Nat->Prop}{w:World}{k:Int}{wd:List UInt8}{v:Value}{l:List Vt}:VOk S w ⟨k,wd,v,l⟩↔NodS S w v l/\wd.length<=9223372036854775807/\l.length<=9223372036854775807/\∀x,x∈l->VOk S w x:=by rw[VOk]
theorem VOk.parts{S:Nat->Prop}{w:World}{t:Vt}(h:VOk S w t):NodS S w t.val t.kids/\t.word.length<=9223372036854775807/\t.kids.length<=9223372036854775807/\∀x,x∈t.kids->VOk S w x:=by
 obtain⟨k,wd,v,l⟩:=t;exact vok_mk.1 h
theorem VOk.keep{S T:Nat->Prop}{w w':World}(hz:w.heap.size<=w'.heap.size)(hk:∀b,S b->b<w.heap.size->T b/\w'.heap[b]?=w.heap[b]?):∀t:Vt,VOk S w t->VOk T w' t:=
 Vt.ind (fun _ _ _ _ ih h=>by
  obtain⟨h1,h2,h3,h4⟩:=vok_mk.1 h;exact vok_mk.2 ⟨h1.keep hz hk,h2,h3,fun x hx=>ih x hx (h4 x hx)⟩)
theorem VOk.below{S:Nat->Prop}{w w':World}{t:Vt}(h:VOk S w t)(hb:Below w.heap.size w w'):VOk S w' t:=VOk.keep hb.size (fun b hs hl=>⟨hs,hb.block b hl⟩) t h
theorem VOk.fr{S:Nat->Prop}{w w':World}{t:Vt}(h:VOk S w t)(hf:Fr S w w'):VOk S w' t:=VOk.keep hf.size (fun b hs _=>⟨hs,hf.block b hs⟩) t h
theorem VOk.sub{S T:Nat->Prop}{w:World}{t:Vt}(h:VOk S w t)(hs:∀b,S b->b<w.heap.size->T b):VOk T w t:=VOk.keep (zD _) (fun b hb hl=>⟨hs b hb hl,rfl⟩) t h
theorem getN{w:World}{g o:Nat}{t:Vt}(h:∀(c:Nat) u,(csN t)[c]?=some u->w.cell? ⟨g,o+c,none⟩=some u):w.cell? ⟨g,o,none⟩=some (.int .i64 t.kind)/\w.cell? ⟨g,o+1,none⟩=some (.string ⟨t.word.toArray⟩)/\w.cell? ⟨g,o+2,none⟩=some t.val:=
 ⟨h 0 _ rfl,h 1 _ rfl,h 2 _ rfl⟩
theorem infoN:(Tryz.prog.info? 28).map (fun i=>(i.zero,i.size,i.bytes))=some (some (.agg #[.int .i64 0,.string ⟨#[]⟩,.slice none 0 0]),3,48):=by kernel_rfl
abbrev csT(s:List UInt8):List Value:=[.string ⟨s.toArray⟩]
abbrev TxtS:=SlS csT 1
def CapS(v:Value)(n:Nat):Prop:=∃ao cap,v=.slice ao n cap/\n<=cap
theorem isQ_any(s:List UInt8)(w:World):Calls Tryz.prog 82 #[.string ⟨s.toArray⟩] w fun e w'=>e=.returned (.bool (isW s))/\w'=w:=by
 have:=is_any ⟨s.toArray⟩ w;simpa using this
theorem isEmpty_no{l:List UInt8}(h:l≠[]):l.isEmpty=false:=by cases l with
 |nil=>exact absurd rfl h
 |cons=>rfl
theorem kind_cases(k:Int):k=1\/k=2\/k=3\/k=4\/k=5\/k=6\/(k≠1/\k≠2/\k≠3/\k≠4/\k≠5/\k≠6):=by omega
theorem not_both{a b:Int}(h:a≠b):¬a=b/\(a==b)=false:=⟨h,beq_eq_false_iff_ne.2 h⟩
set_option maxHeartbeats 4000000 in
theorem isFormed_any{S:Nat->Prop}{w:World}{t:Vt}(h:VOk S w t):
 Calls Tryz.prog 135 #[encN t] w fun e w'=>e=.returned (.bool (formedP t.kind t.word t.kids.length))/\Below w.heap.size w w':=by
 obtain⟨h1,_,hle,_⟩:=h.parts;obtain⟨ao,cap,hv⟩:=h1.slice;obtain⟨k,wd,v,l⟩:=t;dsimp only at h1 hle hv ⊢;subst hv;have HI:=zA (isQ_any wd);obtain⟨m,hm⟩:∃m,m=isW wd:=⟨_,rfl⟩
 rw[<- hm]at HI;have HM:=zA hm;obtain⟨n,hn⟩:∃n,n=l.length:=⟨_,rfl⟩
 rw[<- hn]at hle ⊢;obtain⟨ans,hans⟩:∃a,a=formedP k wd n:=⟨_,rfl⟩
 rw[<- hans];have HA:=zA hans;have HB:Hid (∀a:Obj,Below w.heap.size w (w.alloc a)):=zA (fun a=>(zF _ _).alloc (zD _) _);clear h h1 hm hn hans;rcases kind_cases k with rfl|rfl|rfl|rfl|rfl|rfl|⟨k1,k2,k3,k4,k5,k6⟩
 . by_cases h0:n=0
   . subst h0;have HF:Hid (ans=m):=zA (by rw[HA.out,HM.out];simp[formedP]);go_enter Tryz.func135,Tryz.ntmps135;go_wp2_with fail;refine(HI.out _).mono ?_;rintro e w1 ⟨rfl,hw⟩;subst hw;go_wp2;go_ret;exact⟨by rw[HF.out];rfl,HB.out _⟩
   . obtain⟨e1,e2⟩:=not_both (a:=(n:Int)) (b:=0) (by omega);have HF:Hid (ans=false):=zA (by rw[HA.out];simp[formedP,h0]);clear h0;go_enter Tryz.func135,Tryz.ntmps135;go_wp2;go_ret;exact⟨by rw[HF.out];rfl,HB.out _⟩
 case inr.inr.inr.inr.inr.inr=>
  obtain⟨a1,b1⟩:=not_both k1;obtain⟨a2,b2⟩:=not_both k2;obtain⟨a3,b3⟩:=not_both k3;obtain⟨a4,b4⟩:=not_both k4;obtain⟨a5,b5⟩:=not_both k5;obtain⟨a6,b6⟩:=not_both k6;have HF:Hid (ans=false):=zA (by rw[HA.out];simp[formedP,a1,a2,a3,a4,a5,a6]);clear k1 k2 k3 k4 k5 k6;go_enter Tryz.func135,Tryz.ntmps135;go_wp2;go_ret;exact⟨by rw[HF.out];rfl,HB.out _⟩
 case inr.inl=>
  by_cases h2:2<=n
  . have e1:(2:Int)<=(n:Int):=by omega
    by_cases hw:wd=[]
    . subst hw;have HF:Hid (ans=true):=zA (by rw[HA.out];simp[formedP,h2]);go_enter Tryz.func135,Tryz.ntmps135;go_wp2;go_ret;exact⟨by rw[HF.out];rfl,HB.out _⟩
    . have e2:=isEmpty_no hw;have e3:(wd==[])=false:=by simpa using hw
      have HF:Hid (ans=false):=zA (by rw[HA.out];simp[formedP,hw]);go_enter Tryz.func135,Tryz.ntmps135;go_wp2;go_ret;exact⟨by rw[HF.out];rfl,HB.out _⟩
  . have e1:¬(2:Int)<=(n:Int):=by omega
    have HF:Hid (ans=false):=zA (by rw[HA.out];simp[formedP,h2]);clear h2;go_enter Tryz.func135,Tryz.ntmps135;go_wp2;go_ret;exact⟨by rw[HF.out];rfl,HB.out _⟩
 case inr.inr.inl=>
  by_cases h2:2<=n
  . have e1:(2:Int)<=(n:Int):=by omega
    by_cases hw:wd=[]
    . subst hw;have HF:Hid (ans=true):=zA (by rw[HA.out];simp[formedP,h2]);go_enter Tryz.func135,Tryz.ntmps135;go_wp2;go_ret;exact⟨by rw[HF.out];rfl,HB.out _⟩
    . have e2:=isEmpty_no hw;have e3:(wd==[])=false:=by simpa using hw
      have HF:Hid (ans=false):=zA (by rw[HA.out];simp[formedP,hw]);go_enter Tryz.func135,Tryz.ntmps135;go_wp2;go_ret;exact⟨by rw[HF.out];rfl,HB.out _⟩
  . have e1:¬(2:Int)<=(n:Int):=by omega
    have HF:Hid (ans=false):=zA (by rw[HA.out];simp[formedP,h2]);clear h2;go_enter Tryz.func135,Tryz.ntmps135;go_wp2;go_ret;exact⟨by rw[HF.out];rfl,HB.out _⟩
 all_goals (
  by_cases h2:n=1
  . subst h2;by_cases hw:wd=[]
    . subst hw;have HF:Hid (ans=true):=zA (by rw[HA.out];simp[formedP]);go_enter Tryz.func135,Tryz.ntmps135;go_wp2;go_ret;exact⟨by rw[HF.out];rfl,HB.out _⟩
    . have e2:=isEmpty_no hw;have e3:(wd==[])=false:=by simpa using hw
      have HF:Hid (ans=false):=zA (by rw[HA.out];simp[formedP,hw]);go_enter Tryz.func135,Tryz.ntmps135;go_wp2;go_ret;exact⟨by rw[HF.out];rfl,HB.out _⟩
  . obtain⟨e1,e2⟩:=not_both (a:=(n:Int)) (b:=1) (by omega);have HF:Hid (ans=false):=zA (by rw[HA.out];simp[formedP,h2]);clear h2;go_enter Tryz.func135,Tryz.ntmps135;go_wp2;go_ret;exact⟨by rw[HF.out];rfl,HB.out _⟩)
theorem sum_take{f:Pt->Nat}{l:List Vt}{i:Nat}{x:Vt}(h:l[i]?=some x):((l.map Vt.pt).take (i+1)).map f=((l.map Vt.pt).take i).map f++[f x.pt]:=by
 rw[zU,zI,h];simp
theorem sum_part{f:Pt->Nat}(l:List Pt)(i:Nat):((l.take i).map f).sum<=(l.map f).sum:=by
 induction l generalizing i with
 |nil=>simp
 |cons y l ih=>
  cases i with
  |zero=>simp
  |succ i=>
   have:=ih i;simp only[List.take_succ_cons,List.map_cons,List.sum_cons];omega
set_option maxHeartbeats 4000000 in
theorem places_any{S:Nat->Prop}:∀(t:Vt) (d:Nat) (dp:Int) (w:World),d<=12->dp+d=13->VOk S w t->
 Calls Tryz.prog 128 #[encN t,.int .i64 dp] w fun e w'=>e=.returned (.int .i64 (plP d t.pt:Int))/\Below w.heap.size w w':=by
 refine Vt.ind (fun k wd v l ih=>?_);intro d dp w hd12 hd hok;have HF1:=zA (fun u (hu:Below w.heap.size w u)=>isFormed_any (hok.below hu));obtain⟨h1,h2,h3,h4⟩:=vok_mk.1 hok;obtain⟨ao,cap,hv⟩:=h1.slice;subst hv;have H1:=zA h1;have H4:=zA h4;have IH:=zA ih;have HB:Hid (∀a:Obj,Below w.heap.size w (w.alloc a)):=zA (fun a=>(zF _ _).alloc (zD _) _);rw[Vt.pt_mk];dsimp only at HF1;obtain⟨n,hn⟩:∃n,n=l.length:=⟨_,rfl⟩
 rw[<- hn]at h3 H1 HF1 ⊢;have HN:=zA hn;clear h1 h4 ih hok hn;cases d with
 |zero=>
  obtain rfl:dp=13:=by omega
  clear hd hd12;go_enter Tryz.func128,Tryz.ntmps128;go_wp2;go_ret;exact⟨rfl,HB.out _⟩
 |succ d=>
  have hdI:¬(12:Int)<dp:=by omega
  have hdp1:1<=dp:=by omega
  have hdp2:dp<=12:=by omega
  have HD:=zA hd;have HD12:=zA hd12;clear hd hd12;obtain⟨ans,hans⟩:∃a,a=plP (d+1) ⟨k,wd,l.map Vt.pt⟩:=⟨_,rfl⟩
  rw[<- hans];have HA:=zA hans;obtain⟨m,hm⟩:∃m,m=formedP k wd n:=⟨_,rfl⟩
  rw[<- hm]at HF1;have HM:Hid (formedP k wd (l.map Vt.pt).length=m):=zA (by rw[zH,<- HN.out,hm]);clear hans hm;cases m with
  |false=>
   have HR:Hid (ans=25):=zA (by rw[HA.out,plP,HM.out];rfl);go_enter Tryz.func128,Tryz.ntmps128;go_wp2_with fail;refine(HF1.out _ (HB.out _)).mono ?_;rintro e w1 ⟨rfl,hb1⟩;go_wp2;go_ret;exact⟨by rw[HR.out];rfl,(HB.out _).trans (hb1.mono (by simp))⟩
  |true=>
   by_cases hk:k=1
   . subst hk;have HR:Hid (ans=1):=zA (by rw[HA.out,plP,HM.out];rfl);obtain⟨wb,hwb⟩:∃u,u=w.alloc (.cells #[.int .i64 1,.string ⟨wd.toArray⟩,.slice ao n cap] 28):=⟨_,rfl⟩
     have HC:Hid (∀w1:World,Below wb.heap.size wb w1->w1.cell? ⟨w.heap.size,0,none⟩=some (.int .i64 1)):=zA (fun w1 hb=>by
      have h:=hb.block w.heap.size (by rw[hwb];simp);rw[hwb,heap_alloc_new]at h;simp[World.cell?,h])
     have HB0:=zA (HB.out (.cells #[.int .i64 1,.string ⟨wd.toArray⟩,.slice ao n cap] 28));rw[<- hwb]at HB0;have HWB:=zA hwb;have HF2:=zA (HF1.out _ HB0.out);go_enter Tryz.func128,Tryz.ntmps128;go_wp2_with fail;rw[<- HWB.out];refine HF2.out.mono ?_;rintro e w1 ⟨rfl,hb1⟩;have c1:=HC.out w1 hb1;go_wp2;go_ret;exact⟨by rw[HR.out];rfl,HB0.out.trans (hb1.mono HB0.out.size)⟩
   . obtain⟨k1,k2⟩:=not_both hk;have HR:Hid (ans=min 25 ((l.map Vt.pt).map (plP d)).sum):=zA (by rw[HA.out,plP,HM.out];simp[hk]);obtain⟨wb,hwb⟩:∃u,u=w.alloc (.cells #[.int .i64 k,.string ⟨wd.toArray⟩,.slice ao n cap] 28):=⟨_,rfl⟩
     have HC:Hid (∀w1:World,Below wb.heap.size wb w1->w1.cell? ⟨w.heap.size,0,none⟩=some (.int .i64 k)/\w1.cell? ⟨w.heap.size,2,none⟩=some (.slice ao n cap)):=zA (fun w1 hb=>by
      have h:=hb.block w.heap.size (by rw[hwb];simp);rw[hwb,heap_alloc_new]at h;exact⟨by simp[World.cell?,h],by simp[World.cell?,h]⟩)
     have HB0:=zA (HB.out (.cells #[.int .i64 k,.string ⟨wd.toArray⟩,.slice ao n cap] 28));rw[<- hwb]at HB0;have HWB:=zA hwb;have HF2:=zA (HF1.out _ HB0.out);clear hk hwb;go_enter Tryz.func128,Tryz.ntmps128;go_wp2_with fail;rw[<- HWB.out];refine HF2.out.mono ?_;rintro e w1 ⟨rfl,hb1⟩;obtain⟨c1,c2⟩:=HC.out w1 hb1;have HB1:=zA (HB0.out.trans (hb1.mono HB0.out.size));clear hb1;go_wp2_with fail;go_loopw [5,21] (fun s c wr=>∃i z:Nat,i<=n/\c=.int .i64 i/\s=.int .i64 z/\z<=24/\z=(((l.map Vt.pt).take i).map (plP d)).sum/\Below w.heap.size w wr) (fun _ c _=>n-(intOf c).toNat)
     case atStart=>exact⟨0,0,zR _,rfl,rfl,by omega,by simp,HB1.out⟩
     case round=>
      obtain⟨i,z,hi,rfl,rfl,hz,hzs,hbq⟩:=hrel;have HZ:=zA hzs;have HBQ:=zA hbq;clear hzs hbq;by_cases hlt:i<n
      . have hltI:(i:Int)<(n:Int):=by omega
        obtain⟨x,hx⟩:∃x,l[i]?=some x:=⟨_,zB (by rw[<- HN.out];exact hlt)⟩
        obtain⟨g,off,rfl,_,_,hcell⟩:=(H1.out.below HBQ.out).get hx;obtain⟨q0,q1,q2⟩:=getN hcell;have hxm:=zC hx;have HX:=zA hx;have HC2:=zA (fun u (hu:Below w.heap.size w u)=>IH.out x hxm d (dp+1) u (by have:=HD12.out;omega) (by have:=HD.out;omega) ((H4.out x hxm).below hu));obtain⟨p,hp⟩:∃p,p=plP d x.pt:=⟨_,rfl⟩
        rw[<- hp]at HC2;have hp25:p<=25:=by rw[hp];exact plP_le _ _
        have HP:=zA hp;obtain⟨wx,hwx⟩:∃wx,wx=wr:=⟨_,rfl⟩
        subst hwx;have HBa:Hid (∀a:Obj,Below w.heap.size w (wx.alloc a)):=zA (fun a=>HBQ.out.alloc HBQ.out.size _);have HS2:Hid (z+p=(((l.map Vt.pt).take (i+1)).map (plP d)).sum):=zA (by rw[sum_take HX.out,List.sum_append,<- HZ.out,<- HP.out];simp);obtain⟨xa,xc,hxv⟩:=(H4.out x hxm).parts.1.slice;obtain⟨xn,hxn⟩:∃n,n=x.kids.length:=⟨_,rfl⟩
        rw[<- hxn]at hxv;obtain⟨xk,xw,xv,xl⟩:=x;dsimp only at q0 q1 q2 hxv;subst hxv;clear hxn hx hcell hp hxm;by_cases hbig:25<=z+p
        . have hbI:(25:Int)<=(z:Int)+(p:Int):=by omega
          have HE:Hid (ans=25):=zA (by
           rw[HR.out];have:=sum_part (f:=plP d) (l.map Vt.pt) (i+1);rw[<- HS2.out]at this;omega)
          clear hbig;go_wp2_with fail;refine(HC2.out _ (HBa.out _)).mono ?_;rintro e w2 ⟨rfl,hb2⟩;go_wp2;go_ret;exact⟨by rw[HE.out];rfl,(HBa.out _).trans (hb2.mono (by have:=HBQ.out.size;simp;omega))⟩
        . have hbI:¬(25:Int)<=(z:Int)+(p:Int):=by omega
          go_wp2_with fail;refine(HC2.out _ (HBa.out _)).mono ?_;rintro e w2 ⟨rfl,hb2⟩;have HB2:Hid (Below w.heap.size w w2):=zA ((HBa.out _).trans (hb2.mono (by have:=HBQ.out.size;simp;omega)));clear hb2;go_wp2;go_roundw
          case rel=>exact⟨i+1,z+p,by omega,by go_num,by go_num,by omega,HS2.out,HB2.out⟩
          case measure=>simp[intOf];omega
      . have hin:i=n:=by omega
        have hltI:¬(i:Int)<(n:Int):=by omega
        have HE:Hid (ans=z):=zA (by
         rw[HR.out];have:=HZ.out;rw[zK (by rw[zH,<- HN.out];omega)]at this;omega)
        clear hin;go_wp2;go_ret;exact⟨by rw[HE.out];rfl,HBQ.out⟩
set_option maxHeartbeats 1000000 in
theorem pathMayBe_any{S:Nat->Prop}{w:World}{t:Vt}(h:VOk S w t):
 Calls Tryz.prog 111 #[encN t] w fun e w'=>e=.returned (.bool (mayP t.pt))/\Below w.heap.size w w':=by
 have HC:=zA (fun u (hu:Below w.heap.size w u)=>places_any t 12 1 u (zD _) rfl (h.below hu));have HB:Hid (∀a:Obj,Below w.heap.size w (w.alloc a)):=zA (fun a=>(zF _ _).alloc (zD _) _);obtain⟨ao,cap,hv⟩:=h.parts.1.slice;obtain⟨ans,hans⟩:∃a,a=mayP t.pt:=⟨_,rfl⟩
 rw[<- hans];have HA:Hid (ans=decide (plP 12 t.pt<25)):=zA (by rw[hans,plP_may]);obtain⟨p,hp⟩:∃p,p=plP 12 t.pt:=⟨_,rfl⟩
 rw[<- hp]at HC HA;obtain⟨k,wd,v,l⟩:=t;dsimp only at hv HC;subst hv;clear hans h hp;by_cases hlt:p<25
 . have hI:(p:Int)<25:=by omega
   have HE:Hid (ans=true):=zA (by rw[HA.out];simpa using hlt);go_enter Tryz.func111,Tryz.ntmps111;go_wp2_with fail;refine(HC.out _ (HB.out _)).mono ?_;rintro e w2 ⟨rfl,hb2⟩;go_wp2;go_ret;exact⟨by rw[HE.out];rfl,(HB.out _).trans (hb2.mono (by simp))⟩
 . have hI:¬(p:Int)<25:=by omega
   have HE:Hid (ans=false):=zA (by rw[HA.out];simpa using hlt);go_enter Tryz.func111,Tryz.ntmps111;go_wp2_with fail;refine(HC.out _ (HB.out _)).mono ?_;rintro e w2 ⟨rfl,hb2⟩;go_wp2;go_ret;exact⟨by rw[HE.out];simp;omega,(HB.out _).trans (hb2.mono (by simp))⟩
abbrev Tm:=Bool×List UInt8
abbrev Am:=Tm×Vt×Tm
abbrev csA(a:Am):List Value:=[.bool a.1.1,.string ⟨a.1.2.toArray⟩,.int .i64 a.2.1.kind,.string ⟨a.2.1.word.toArray⟩,a.2.1.val,.bool a.2.2.1,.string ⟨a.2.2.2.toArray⟩]
theorem csA_len(x:Am):(csA x).length=7:=rfl
abbrev AtsS:=SlS csA 7
abbrev Cg:=Bool×List UInt8×List UInt8×List UInt8
abbrev csC(c:Cg):List Value:=[.bool c.1,.string ⟨c.2.1.toArray⟩,.string ⟨c.2.2.1.toArray⟩,.string ⟨c.2.2.2.toArray⟩]
abbrev CgsS:=SlS csC 4
def FineA(a:Am):Prop:=a.1.2.length<=140737488351232/\a.2.2.2.length<=140737488351232
def FineC(c:Cg):Prop:=c.2.1.length<=140737488351232/\c.2.2.1.length<=140737488351232/\c.2.2.2.length<=140737488351232
structure Qm where
 vv:Value
 vars:List (List UInt8)
 av:Value
 atoms:List Am
structure Rm where
 kind:Int
 q:Qm
 cv:Value
 chgs:List Cg
abbrev encQ(q:Qm):Value:=.agg #[q.vv,q.av]
abbrev encR(r:Rm):Value:=.agg #[.int .i64 r.kind,r.q.vv,r.q.av,r.cv]
structure QOk (S:Nat->Prop) (w:World) (q:Qm):Prop where
 vs:TxtS S w q.vv q.vars
 vb:∀s∈q.vars,s.length<=140737488351232
 vl:q.vars.length<=9223372036854775807
 vcap:CapS q.vv q.vars.length
 ats:AtsS S w q.av q.atoms
 ok:∀a∈q.atoms,VOk S w a.2.1
 fine:∀a∈q.atoms,FineA a
 al:q.atoms.length<=9223372036854775807
structure ROk (S:Nat->Prop) (w:World) (r:Rm):Prop where
 q:QOk S w r.q
 cs:CgsS S w r.cv r.chgs
 fine:∀c∈r.chgs,FineC c
 cl:r.chgs.length<=9223372036854775807
theorem QOk.keep{S T:Nat->Prop}{w w':World}{q:Qm}(h:QOk S w q)(hz:w.heap.size<=w'.heap.size)(hk:∀b,S b->b<w.heap.size->T b/\w'.heap[b]?=w.heap[b]?):QOk T w' q:=
 ⟨h.vs.keep hz hk,h.vb,h.vl,h.vcap,h.ats.keep hz hk,fun a ha=>VOk.keep hz hk _ (h.ok a ha),h.fine,h.al⟩
theorem QOk.below{S:Nat->Prop}{w w':World}{q:Qm}(h:QOk S w q)(hb:Below w.heap.size w w'):QOk S w' q:=h.keep hb.size (fun b hs hl=>⟨hs,hb.block b hl⟩)
theorem QOk.fr{S:Nat->Prop}{w w':World}{q:Qm}(h:QOk S w q)(hf:Fr S w w'):QOk S w' q:=h.keep hf.size (fun b hs _=>⟨hs,hf.block b hs⟩)
theorem ROk.keep{S T:Nat->Prop}{w w':World}{r:Rm}(h:ROk S w r)(hz:w.heap.size<=w'.heap.size)(hk:∀b,S b->b<w.heap.size->T b/\w'.heap[b]?=w.heap[b]?):ROk T w' r:=
 ⟨h.q.keep hz hk,h.cs.keep hz hk,h.fine,h.cl⟩
theorem ROk.below{S:Nat->Prop}{w w':World}{r:Rm}(h:ROk S w r)(hb:Below w.heap.size w w'):ROk S w' r:=h.keep hb.size (fun b hs hl=>⟨hs,hb.block b hl⟩)
theorem ROk.fr{S:Nat->Prop}{w w':World}{r:Rm}(h:ROk S w r)(hf:Fr S w w'):ROk S w' r:=h.keep hf.size (fun b hs _=>⟨hs,hf.block b hs⟩)
theorem getA{w:World}{g o:Nat}{a:Am}(h:∀(c:Nat) u,(csA a)[c]?=some u->w.cell? ⟨g,o+c,none⟩=some u):
 w.cell? ⟨g,o,none⟩=some (.bool a.1.1)/\w.cell? ⟨g,o+1,none⟩=some (.string ⟨a.1.2.toArray⟩)/\w.cell? ⟨g,o+2,none⟩=some (.int .i64 a.2.1.kind)/\w.cell? ⟨g,o+3,none⟩=some (.string ⟨a.2.1.word.toArray⟩)/\w.cell? ⟨g,o+4,none⟩=some a.2.1.val/\
 w.cell? ⟨g,o+5,none⟩=some (.bool a.2.2.1)/\w.cell? ⟨g,o+6,none⟩=some (.string ⟨a.2.2.2.toArray⟩):=
 ⟨h 0 _ rfl,h 1 _ rfl,h 2 _ rfl,h 3 _ rfl,h 4 _ rfl,h 5 _ rfl,h 6 _ rfl⟩
theorem getC{w:World}{g o:Nat}{c:Cg}(h:∀(i:Nat) u,(csC c)[i]?=some u->w.cell? ⟨g,o+i,none⟩=some u):
 w.cell? ⟨g,o,none⟩=some (.bool c.1)/\w.cell? ⟨g,o+1,none⟩=some (.string ⟨c.2.1.toArray⟩)/\w.cell? ⟨g,o+2,none⟩=some (.string ⟨c.2.2.1.toArray⟩)/\w.cell? ⟨g,o+3,none⟩=some (.string ⟨c.2.2.2.toArray⟩):=
 ⟨h 0 _ rfl,h 1 _ rfl,h 2 _ rfl,h 3 _ rfl⟩
theorem box_keptQ{w wr:World}{o:Obj}(h:Below (w.alloc o).heap.size (w.alloc o) wr):wr.heap[w.heap.size]?=some o:=by
 rw[h.block w.heap.size (by simp),heap_alloc_new]
theorem below_boxQ{w wr:World}{o:Obj}(h:Below (w.alloc o).heap.size (w.alloc o) wr):Below w.heap.size w wr:=
 ((zF _ _).alloc (zD _) o).trans (h.mono (by simp))
abbrev Pa:=Tm×Pt×Tm
def addN(l:List (List UInt8))(t:Tm):List (List UInt8):=if t.1=true/\t.2∉l then l++[t.2]else l
def namesP(l:List Pa):List (List UInt8):=l.foldl (fun n a=>addN (addN n a.1) a.2.2) []
def Am.pa(a:Am):Pa:=(a.1,a.2.1.pt,a.2.2)
def whyQ(vars:List (List UInt8))(l:List Pa):Nat:=
 if ∃a∈l,mayP a.2.1=false then 100
 else if 6<vars.length\/6<l.length\/6<(namesP l).length then 2
 else if ¬vars.Nodup then 1
 else if ∃v∈vars,v∉namesP l then 91
 else 0
theorem namesP_snoc(l:List Pa)(a:Pa):namesP (l++[a])=addN (addN (namesP l) a.1) a.2.2:=by simp[namesP]
theorem addN_len(l:List (List UInt8))(t:Tm):(addN l t).length<=l.length+1:=by
 unfold addN;split<;>simp
theorem addN_sub{l:List (List UInt8)}{t:Tm}{s:List UInt8}(h:s∈l):s∈addN l t:=by
 unfold addN;split
 . exact yG _ h
 . exact h
end Go.Proofs.YtkbgmcmcpbegjabGreatDoor
