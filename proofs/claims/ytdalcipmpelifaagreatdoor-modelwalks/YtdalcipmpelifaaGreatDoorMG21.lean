/- BMk, BAdd, BAddW, BPath. -/
import Derived.Test.YtdalcipmpelifaaGreatDoorMG10
import Derived.Test.YtdalcipmpelifaaGreatDoorMG14
set_option maxRecDepth 100000
namespace Go.Proofs.YtdalcipmpelifaaGreatDoor
open Go.RowKit
def BitsOf(s:Nat)(L:List Nat):Prop:=s<16777216/\∀k,s.testBit k=true↔k∈L
def FolOf(F:Nat->Nat)(ps:List (Nat×Nat)):Prop:=∀i,i<24->F i<16777216/\∀j,(F i).testBit j=true↔(i,j)∈ps
theorem BitsOf.congr{s:Nat}{L M:List Nat}(h:BitsOf s L)(hm:∀k,k∈L↔k∈M):BitsOf s M:=⟨h.1,fun k=>(h.2 k).trans (hm k)⟩
theorem FolOf.congr{F:Nat->Nat}{ps qs:List (Nat×Nat)}(h:FolOf F ps)(hm:∀p,p∈ps↔p∈qs):FolOf F qs:=fun i hi=>⟨(h i hi).1,fun j=>((h i hi).2 j).trans (hm _)⟩
theorem BitsOf.or{s t:Nat}{L M:List Nat}(h:BitsOf s L)(g:BitsOf t M):BitsOf (s ||| t) (L++M):=
 ⟨or_lt24 h.1 g.1,fun k=>by rw[Nat.testBit_or,Bool.or_eq_true,h.2,g.2,zN]⟩
theorem BitsOf.one{p:Nat}(hp:p<24):BitsOf (2^p) [p]:=⟨pow_lt24 hp,fun k=>by
 rw[Nat.testBit_two_pow,decide_eq_true_eq,zJ];exact⟨fun h=>h.symm,fun h=>h.symm⟩⟩
theorem BitsOf.none:BitsOf 0 []:=⟨by omega,fun k=>by simp⟩
def linkF(F:Nat->Nat)(a b:Nat)(i:Nat):Nat:=if a.testBit i=true then F i ||| b else F i
theorem FolOf.link{F:Nat->Nat}{ps:List (Nat×Nat)}{a b:Nat}{A B:List Nat}(h:FolOf F ps)(ha:BitsOf a A)(hb:BitsOf b B):FolOf (linkF F a b) (ps++cross A B):=fun i hi=>by
 unfold linkF;split
 . rename_i hbit;refine⟨or_lt24 (h i hi).1 hb.1,fun j=>?_⟩;rw[Nat.testBit_or,Bool.or_eq_true,(h i hi).2,hb.2,zN,mem_cross];simp[(ha.2 i).1 hbit]
 . rename_i hbit;refine⟨(h i hi).1,fun j=>?_⟩;rw[(h i hi).2,zN,mem_cross];constructor
   . exact .inl
   . rintro (h1|⟨h1,_⟩)
     . exact h1
     . exact absurd ((ha.2 i).2 h1) hbit
structure LinkE (w w':World) (b o:Nat):Prop where
 os:w'.os=w.os
 tape:w'.tape=w.tape
 output:w'.output=w.output
 size:w'.heap.size=w.heap.size
 block:∀k,k≠b->w'.heap[k]?=w.heap[k]?
 cell:∀i,(i<o\/o+24<=i)->w'.cell? ⟨b,i,none⟩=w.cell? ⟨b,i,none⟩
 froz:∀i,w'.frozen? ⟨b,i,none⟩=w.frozen? ⟨b,i,none⟩
theorem LinkE.refl(w:World)(b o:Nat):LinkE w w b o:=⟨rfl,rfl,rfl,rfl,fun _ _=>rfl,fun _ _=>rfl,fun _=>rfl⟩
theorem LinkE.set{w w':World}{b o i:Nat}(h:LinkE w w' b o)(hi:i<24)(v:Value):LinkE w (w'.setCell ⟨b,o+i,none⟩ v).drew b o:=
 ⟨h.os,h.tape,h.output,by simpa using h.size,fun k hk=>(zM w' ⟨b,o+i,none⟩ v k hk).trans (h.block k hk),fun j hj=>by
  show (w'.setCell ⟨b,o+i,none⟩ v).cell? ⟨b,j,none⟩=_;rw[World.cell?_setCell_other _ _ _ _ (fun e=>by injection e with e1 e2;omega)];exact h.cell j hj,fun j=>by
  show (w'.setCell ⟨b,o+i,none⟩ v).frozen? ⟨b,j,none⟩=_;rw[World.frozen?_setCell];exact h.froz j⟩
set_option maxHeartbeats 1000000 in
theorem link_any{w:World}{b o:Nat}{F:Nat->Nat}(h:FolAt w b o F)(hF:∀i,i<24->F i<16777216)(x y:Nat)(hx:x<16777216)(hy:y<16777216):
 Calls Tryz.prog 78 #[.pointer (some ⟨b,o,none⟩),.int .u32 (x:Int),.int .u32 (y:Int)] w fun e w'=>e=.returned (.tuple #[])/\FolAt w' b o (linkF F x y)/\LinkE w w' b o:=by
 have H:=zA h;have HF:=zA hF;clear h hF;go_enter Tryz.func78,Tryz.ntmps78;go_wp2_with fail;go_loopw [7] (fun c wr=>∃i:Nat,i<=24/\c=.int .i64 i/\FolAt wr b o (fun j=>if j<i then linkF F x y j else F j)/\LinkE w wr b o) (fun c _=>24-(intOf c).toNat)
 case atStart=>exact⟨0,zS _,rfl,FolAt.congr H.out (fun j _=>by simp),LinkE.refl _ _ _⟩
 case round=>
  obtain⟨i,hi,rfl,hfol,hlk⟩:=hrel;have HFOL:=zA hfol;have HLK:=zA hlk;clear hfol hlk;by_cases hlt:i<24
  . have hltI:(i:Int)<24:=by omega
    obtain⟨q0,q1⟩:=HFOL.out i hlt;simp only[Nat.lt_irrefl,if_false]at q0;have hfl:=HF.out i hlt;have C:=zA (fun wr=>has_any x i wr hx hlt);obtain⟨f,hf⟩:∃f,f=F i:=⟨_,rfl⟩
    rw[<- hf]at q0 hfl;have HFI:=zA hf;clear hf;cases hbit:x.testBit i with
    |true=>
     rw[hbit]at C;have hb:bits .or .u32 (f:Int) (y:Int)=((f ||| y:Nat):Int):=u32_or_nat f y (by omega) (by omega);have HS:Hid (linkF F x y i=f ||| y):=zA (by rw[linkF,if_pos hbit,HFI.out]);have HF2:Hid (FolAt (wr.setCell ⟨b,o+i,none⟩ (.int .u32 ((f ||| y:Nat):Int))).drew b o (fun j=>if j<i+1 then linkF F x y j else F j)):=zA (by
      have h1:=FolAt.set (x:=f ||| y) HFOL.out hlt;refine FolAt.congr h1 (fun j _=>?_);by_cases e:j=i
      . subst e;rw[if_pos rfl,if_pos (by omega),HS.out]
      . rw[if_neg e];by_cases e2:j<i
        . rw[if_pos e2,if_pos (by omega)]
        . rw[if_neg e2,if_neg (by omega)])
     have HL2:=zA (HLK.out.set hlt (.int .u32 ((f ||| y:Nat):Int)));obtain⟨fy,hfy⟩:∃k,k=f ||| y:=⟨_,rfl⟩
     rw[<- hfy]at hb HF2 HL2;clear hbit hfy HS;go_wp2_with fail;refine(C.out _).mono ?_;rintro e w1 ⟨rfl,rfl⟩;go_wp2_with fail;go_region;go_wp2;go_roundw
     case rel=>exact⟨i+1,by omega,by go_num,HF2.out,HL2.out⟩
     case measure=>simp[intOf];omega
    |false=>
     rw[hbit]at C;have HF2:Hid (FolAt wr b o (fun j=>if j<i+1 then linkF F x y j else F j)):=zA (by
      refine FolAt.congr HFOL.out (fun j _=>?_);by_cases e:j=i
      . subst e;rw[if_neg (by omega),if_pos (by omega),linkF,if_neg (by rw[hbit];decide)]
      . by_cases e2:j<i
        . rw[if_pos e2,if_pos (by omega)]
        . rw[if_neg e2,if_neg (by omega)])
     clear hbit;go_wp2_with fail;refine(C.out _).mono ?_;rintro e w1 ⟨rfl,rfl⟩;go_wp2;go_roundw
     case rel=>exact⟨i+1,by omega,by go_num,HF2.out,HLK.out⟩
     case measure=>simp[intOf];omega
  . have hltI:¬(i:Int)<24:=by omega
    have HF2:Hid (FolAt wr b o (linkF F x y)):=zA (FolAt.congr HFOL.out (fun j hj=>by rw[if_pos (by omega)]));go_wp2;go_end0;exact⟨rfl,HF2.out,HLK.out⟩
structure MkAt (S:Nat->Prop) (w:World) (mb kb:Nat) (ws:List Wd) (F:Nat->Nat) (wv:Value):Prop where
 no:¬S mb
 sk:S kb
 lt:mb<w.heap.size
 map:w.heap[kb]?=some (.map (kindsE mb) 6)
 c0:w.cell? ⟨mb,0,none⟩=some wv
 f0:w.frozen? ⟨mb,0,none⟩=false
 c25:w.cell? ⟨mb,25,none⟩=some (.map (some kb))
 fol:FolAt w mb 1 F
 row:w.ownsRow 0 9 1 wv ws.length (ws.flatMap csT)
 rno:∀g,wv.ownBlock=some g->¬S g/\g≠mb
theorem MkAt.keep{S:Nat->Prop}{w w':World}{mb kb:Nat}{ws:List Wd}{F:Nat->Nat}{wv:Value}(h:MkAt S w mb kb ws F wv)(hz:w.heap.size<=w'.heap.size)(hb:w'.heap[mb]?=w.heap[mb]?)(hk:w'.heap[kb]?=w.heap[kb]?)(hr:∀g,wv.ownBlock=some g->w'.heap[g]?=w.heap[g]?):MkAt S w' mb kb ws F wv:=
 ⟨h.no,h.sk,zO h.lt hz,hk.trans h.map,by have:=h.c0;simpa only[World.cell?,hb]using this,by have:=h.f0;simpa only[World.frozen?,hb]using this,by have:=h.c25;simpa only[World.cell?,hb]using this,h.fol.keep hb,owns_key h.row (fun g o hg ho=>(hr g hg).trans ho),h.rno⟩
theorem MkAt.below{S:Nat->Prop}{w w':World}{mb kb:Nat}{ws:List Wd}{F:Nat->Nat}{wv:Value}(h:MkAt S w mb kb ws F wv)(hS:Low S w)(hb:Below w.heap.size w w'):MkAt S w' mb kb ws F wv:=
 h.keep hb.size (hb.block _ h.lt) (hb.block _ (hS _ h.sk)) (fun g hg=>hb.block g (h.row.lt g hg).2)
theorem MkAt.setS{S:Nat->Prop}{w:World}{mb kb:Nat}{ws:List Wd}{F:Nat->Nat}{wv:Value}(h:MkAt S w mb kb ws F wv){b i:Nat}(hs:S b)(hk:b≠kb)(v:Value):MkAt S (w.setCell ⟨b,i,none⟩ v) mb kb ws F wv:=
 h.keep (by simp) (zM _ _ _ _ (fun e=>h.no (by rw[show mb=b from e];exact hs))) (zM _ _ _ _ (fun e=>hk (show kb=b from e).symm)) (fun g hg=>zM _ _ _ _ (fun e=>(h.rno g hg).1 (by rw[show g=b from e];exact hs)))
theorem MkAt.drew{S:Nat->Prop}{w:World}{mb kb:Nat}{ws:List Wd}{F:Nat->Nat}{wv:Value}(h:MkAt S w mb kb ws F wv):MkAt S w.drew mb kb ws F wv:=h.keep (zD _) rfl rfl (fun _ _=>rfl)
theorem MkAt.plus{S:Nat->Prop}{w w':World}{mb kb:Nat}{ws:List Wd}{F:Nat->Nat}{wv:Value}(h:MkAt S w mb kb ws F wv)(hS:Low S w)(hb:Below w.heap.size w w')(hi:Nat):MkAt (Plus S w.heap.size hi) w' mb kb ws F wv:=by
 have h2:=h.below hS hb;refine⟨?_,.inl h.sk,h2.lt,h2.map,h2.c0,h2.f0,h2.c25,h2.fol,h2.row,fun g hg=>⟨?_,(h.rno g hg).2⟩⟩
 . rintro (e|e)
   . exact h.no e
   . have:=h.lt;omega
 . rintro (e|e)
   . exact(h.rno g hg).1 e
   . have:=(h.row.lt g hg).2;omega
theorem MkAt.sub{S T:Nat->Prop}{w:World}{mb kb:Nat}{ws:List Wd}{F:Nat->Nat}{wv:Value}(h:MkAt S w mb kb ws F wv)(hs:∀k,T k->S k)(hk:T kb):MkAt T w mb kb ws F wv:=
 ⟨fun e=>h.no (hs _ e),hk,h.lt,h.map,h.c0,h.f0,h.c25,h.fol,h.row,fun g hg=>⟨fun e=>(h.rno g hg).1 (hs _ e),(h.rno g hg).2⟩⟩
theorem MkAt.link{S:Nat->Prop}{w w':World}{mb kb:Nat}{ws:List Wd}{F G:Nat->Nat}{wv:Value}(h:MkAt S w mb kb ws F wv)(hl:LinkE w w' mb 1)(hf:FolAt w' mb 1 G):MkAt S w' mb kb ws G wv:=
 ⟨h.no,h.sk,by rw[hl.size];exact h.lt,(hl.block kb (fun e=>h.no (by rw[<- e];exact h.sk))).trans h.map,(hl.cell 0 (by omega)).trans h.c0,(hl.froz 0).trans h.f0,(hl.cell 25 (by omega)).trans h.c25,hf,
  owns_key h.row (fun g o hg ho=>(hl.block g (h.rno g hg).2).trans ho),h.rno⟩
theorem Fr.link{S:Nat->Prop}{w w1 w':World}{b o:Nat}(h:Fr S w w1)(hl:LinkE w1 w' b o)(hb:¬S b):Fr S w w':=
 ⟨hl.os.trans h.os,hl.tape.trans h.tape,hl.output.trans h.output,by rw[hl.size];exact h.size,fun k hk=>(hl.block k (fun e=>hb (by rw[<- e];exact hk))).trans (h.block k hk)⟩
theorem Fr.drew{S:Nat->Prop}{w w1:World}(h:Fr S w w1):Fr S w w1.drew:=⟨h.os,h.tape,h.output,h.size,h.block⟩
theorem three_cells{w:World}{b:Nat}{c0 c1 c2:Value}{t:TypeId}(h:w.heap[b]?=some (.cells #[c0,c1,c2] t (0,0))):
 (w.cell? ⟨b,0,none⟩=some c0/\w.cell? ⟨b,1,none⟩=some c1/\w.cell? ⟨b,2,none⟩=some c2)/\(w.frozen? ⟨b,0,none⟩=false/\w.frozen? ⟨b,1,none⟩=false/\w.frozen? ⟨b,2,none⟩=false):=by
 simp[World.cell?,World.frozen?,h]
def set3P(w:World)(b:Nat)(c0 c1 c2:Value):World:=((w.setCell ⟨b,0,none⟩ c0).setCell ⟨b,1,none⟩ c1).setCell ⟨b,2,none⟩ c2
theorem set3P_at{w:World}{b:Nat}{x y z c0 c1 c2:Value}{t:TypeId}(h:w.heap[b]?=some (.cells #[x,y,z] t (0,0))):(set3P w b c0 c1 c2).heap[b]?=some (.cells #[c0,c1,c2] t (0,0)):=by
 simp[set3P,World.setCell,Array.getElem?_modify,h]
theorem Fr.set3P{S:Nat->Prop}{w w':World}{b:Nat}(h:Fr S w w')(hb:¬S b)(c0 c1 c2:Value):Fr S w (set3P w' b c0 c1 c2):=((h.setCell hb c0).setCell hb c1).setCell hb c2
theorem MkAt.set3P{S:Nat->Prop}{w:World}{mb kb:Nat}{ws:List Wd}{F:Nat->Nat}{wv:Value}(h:MkAt S w mb kb ws F wv){b:Nat}(hs:S b)(hk:b≠kb)(c0 c1 c2:Value):MkAt S (set3P w b c0 c1 c2) mb kb ws F wv:=((h.setS hs hk c0).setS hs hk c1).setS hs hk c2
theorem Fr.alloc{S:Nat->Prop}{w w':World}(h:Fr S w w')(hS:Low S w)(o:Obj):Fr S w (w'.alloc o):=h.next hS ((zF _ _).alloc (zD _) o)
abbrev ptV(f l:Nat)(e:Bool):Value:=.agg #[.int .u32 (f:Int),.int .u32 (l:Int),.bool e]
def AddE(S:Nat->Prop)(w:World)(mb kb:Nat)(ws:List Wd)(ps:List (Nat×Nat))(x:Prt)(e:Ending)(w':World):Prop:=
 ∃f l F wv,e=.returned (ptV f l x.empty)/\BitsOf f (up ws.length x.first)/\BitsOf l (up ws.length x.last)/\MkAt S w' mb kb (ws++x.words) F wv/\FolOf F (ps++upP ws.length x.pairs)/\Fr S w w'
def AddG(fn:FuncId)(t:Vt)(X:Prt)(need:Nat):Prop:=∀(S:Nat->Prop) (w:World) (mb kb:Nat) (ws:List Wd) (ps:List (Nat×Nat)) (F:Nat->Nat) (wv:Value),Low S w->MkAt S w mb kb ws F wv->FolOf F ps->VOk S w t->ws.length+need<=24->
 Calls Tryz.prog fn #[.pointer (some ⟨mb,0,none⟩),encN t] w (AddE S w mb kb ws ps X)
def AddF(fn:FuncId)(t:Vt):Prop:=AddG fn t (prtOf t.pt) (leaves t.pt)
theorem add_end{S:Nat->Prop}{w W1 w1:World}{mb kb b hi:Nat}{ws:List Wd}{F:Nat->Nat}{wv c0 c1 c2:Value}(o:Obj)(hS:Low S w)(hsz:W1.heap.size=hi)(hFW:Fr S w W1)(hfr:Fr (Plus S w.heap.size hi) W1 w1)(hm:MkAt (Plus S w.heap.size hi) w1 mb kb ws F wv)(hkb:S kb)(h1:w.heap.size<=b)(h2:b<hi):
 MkAt S ((set3P w1 b c0 c1 c2).alloc o) mb kb ws F wv/\Fr S w ((set3P w1 b c0 c1 c2).alloc o):=by
 have hk:=hS kb hkb;have hLow:Low (Plus S w.heap.size hi) w1:=Low.fr (w:=W1) (fun k hk=>by
  rcases hk with hk|hk
  . have:=hS k hk;have:=hFW.size;omega
  . omega) hfr
 have hm2:=hm.set3P (b:=b) (.inr ⟨h1,h2⟩) (by omega) c0 c1 c2;have hz:(set3P w1 b c0 c1 c2).heap.size=w1.heap.size:=by simp[Go.Proofs.YtdalcipmpelifaaGreatDoor.set3P]
 refine⟨(hm2.below (fun k hk=>by rw[hz];exact hLow k hk) ((zF _ _).alloc (zD _) o)).sub (fun k hk=>.inl hk) hkb,?_⟩;exact Fr.alloc (Fr.set3P (hFW.trans (hfr.sub (fun k hk=>.inl hk))) (fun h=>by have:=hS _ h;omega) c0 c1 c2) hS o
theorem add_end2{S:Nat->Prop}{w W1 w1:World}{mb kb b hi:Nat}{ws:List Wd}{F:Nat->Nat}{wv c0 c1 c2:Value}(hS:Low S w)(hFW:Fr S w W1)(hfr:Fr (Plus S w.heap.size hi) W1 w1)(hm:MkAt (Plus S w.heap.size hi) w1 mb kb ws F wv)(hkb:S kb)(h1:w.heap.size<=b)(h2:b<hi):
 MkAt S (set3P w1 b c0 c1 c2) mb kb ws F wv/\Fr S w (set3P w1 b c0 c1 c2):=by
 have hk:=hS kb hkb;exact⟨(hm.set3P (b:=b) (.inr ⟨h1,h2⟩) (by omega) c0 c1 c2).sub (fun k hk=>.inl hk) hkb,Fr.set3P (hFW.trans (hfr.sub (fun k hk=>.inl hk))) (fun h=>by have:=hS _ h;omega) c0 c1 c2⟩
theorem end_cells{w1:World}{b:Nat}{x y z c0 c1 c2:Value}{t:TypeId}(o:Obj)(h:w1.heap[b]?=some (.cells #[x,y,z] t (0,0))):
 (((set3P w1 b c0 c1 c2).alloc o).cell? ⟨b,0,none⟩=some c0/\((set3P w1 b c0 c1 c2).alloc o).cell? ⟨b,1,none⟩=some c1/\((set3P w1 b c0 c1 c2).alloc o).cell? ⟨b,2,none⟩=some c2):=by
 have hz:(set3P w1 b c0 c1 c2).heap.size=w1.heap.size:=by simp[Go.Proofs.YtdalcipmpelifaaGreatDoor.set3P]
 have h2:((set3P w1 b c0 c1 c2).alloc o).heap[b]?=some (.cells #[c0,c1,c2] t (0,0)):=by
  rw[heap_alloc_old _ _ (by rw[hz];exact lt_of_block h)];exact set3P_at h
 exact(three_cells h2).1
theorem prt_one{k:Int}{wd:Wd}{v:Value}{x:Vt}(h:k=4\/k=5\/k=6):prtOf (Vt.pt ⟨k,wd,v,[x]⟩)=if k=4 then mayC2 (loopC (prtOf x.pt))else if k=5 then loopC (prtOf x.pt)else mayC2 (prtOf x.pt):=by
 rw[Vt.pt_mk,prtOf_mk,List.map_cons,List.map_cons,List.map_nil,List.map_nil,kindC];rcases h with rfl|rfl|rfl<;>simp[altC,prt0,up,upP]
theorem leaves_one{k:Int}{wd:Wd}{v:Value}{x:Vt}(h:k≠1):leaves (Vt.pt ⟨k,wd,v,[x]⟩)=leaves x.pt:=by
 rw[Vt.pt_mk,leaves_mk,if_neg h];simp
theorem prt_words_len(t:Pt):(prtOf t).words.length=leaves t:=(prt_words t).2
set_option maxHeartbeats 2000000 in
theorem addMaybe_any{k:Int}{wd:Wd}{v:Value}{x:Vt}(hx:AddF 35 x):AddG 60 ⟨k,wd,v,[x]⟩ (mayC2 (prtOf x.pt)) (leaves x.pt):=by
 intro S w mb kb ws ps F wv hS hm hf hv hl;obtain⟨ao,cap,hvv⟩:=hv.parts.1.slice;obtain⟨X,hX⟩:∃X,X=prtOf x.pt:=⟨_,rfl⟩
 rw[<- hX];dsimp only at hvv;subst hvv;have HV:=zA hv;obtain⟨g,off,rfl,hgS,hgl,hcell⟩:=hv.parts.1.get (j:=0) (x:=x) rfl;obtain⟨q0,q1,q2⟩:=getN hcell;rw[Nat.zero_mul,yF]at q0 q1 q2;have hxv:=hv.parts.2.2.2 x (by simp);obtain⟨xa,xc,hxs⟩:=hxv.parts.1.slice;have HX:=zA hx;obtain⟨kk,kw,kv,kl⟩:=x;dsimp only at hxs q0 q1 q2;subst hxs;have hkl:=hxv.parts.2.2.1;dsimp only at hkl;obtain⟨W1,hW1⟩:∃W,W=(w.alloc (.cells #[.int .i64 k,.string ⟨wd.toArray⟩,.slice (some ⟨g,off,none⟩) 1 cap] 25)).alloc (.cells #[.int .u32 0,.int .u32 0,.bool false] 87):=⟨_,rfl⟩
 have hbW:Below w.heap.size w W1:=by rw[hW1];exact((zF _ _).alloc (zD _) _).alloc (by simp) _
 have hsz:W1.heap.size=w.heap.size+2:=by rw[hW1];simp
 have hcb:W1.heap[w.heap.size+1]?=some (.cells #[.int .u32 0,.int .u32 0,.bool false] 87 (0,0)):=by rw[hW1];exact(by simpa using heap_alloc_new (w.alloc (.cells #[.int .i64 k,.string ⟨wd.toArray⟩,.slice (some ⟨g,off,none⟩) 1 cap] 25)) _)
 have hLowP:Low (Plus S w.heap.size (w.heap.size+2)) W1:=by have:=hS.plus hbW.size;rw[hsz]at this;exact this
 have HM1:=zA (hm.plus hS hbW (w.heap.size+2));have hFrW:Fr S w W1:=fr_below hS hbW;have hkS:S kb:=hm.sk;have hkl2:kb<w.heap.size:=hS _ hkS;have C:=zA (HX.out (Plus S w.heap.size (w.heap.size+2)) W1 mb kb ws ps F wv hLowP HM1.out hf ((hxv.below hbW).sub (fun b hb _=>.inl hb)) hl);have HW1:=zA hW1;have HFW:=zA hFrW;have HCB:=zA hcb;have HSZ:=zA hsz;have HXX:=zA hX;have HLOW:=zA hS;have HSK:=zA hkS;rw[<- hX]at C;clear hv hm hf hl hxv hx hcell hbW hsz hcb hLowP hFrW hkS hkl2 hW1 hX HX hS;show Calls Tryz.prog _ #[_,.agg #[.int .i64 k,.string ⟨wd.toArray⟩,.slice (some ⟨g,off,none⟩) 1 cap]] w _;go_enter Tryz.func60,Tryz.ntmps60;go_wp2_with fail;rw[<- HW1.out];refine C.out.mono ?_;rintro e w1 ⟨f,l,F2,wv2,rfl,hb1,hb2,hm2,hf2,hfr2⟩;have e1:=(hfr2.block (w.heap.size+1) (.inr ⟨by omega,by omega⟩)).trans HCB.out;have hlt1:w.heap.size+1<w1.heap.size:=lt_of_block e1;obtain⟨⟨r0,r1,r2⟩,⟨f0,f1,f2⟩⟩:=three_cells e1;obtain⟨hmF,hfF⟩:=add_end (b:=w.heap.size+1) (c0:=.int .u32 (f:Int)) (c1:=.int .u32 (l:Int)) (c2:=.bool true) (.cells #[.int .u32 (f:Int),.int .u32 (l:Int),.bool true] 87) HLOW.out HSZ.out HFW.out hfr2 hm2 HSK.out (by omega) (by omega);have hE:AddE S w mb kb ws ps (mayC2 X) (.returned (ptV f l true)) _:=⟨f,l,F2,wv2,rfl,hb1,hb2,hmF,hf2,hfF⟩
 obtain⟨z0,z1,z2⟩:=end_cells (c0:=.int .u32 (f:Int)) (c1:=.int .u32 (l:Int)) (c2:=.bool true) (.cells #[.int .u32 (f:Int),.int .u32 (l:Int),.bool true] 87) e1;have HE:=zA hE;have Z0:=zA z0;have Z1:=zA z1;have Z2:=zA z2;clear hE z0 z1 z2 hb1 hb2 hm2 hf2 hfr2 e1 hmF hfF;unfold set3P at HE Z0 Z1 Z2;go_wp2;refine bodyPost_ret (v:=ptV f l true) ?_ rfl HE.out;simp[results,Tryz.results60,go_sem,Z0.out,Z1.out,Z2.out]
set_option maxHeartbeats 2000000 in
theorem addPlus_any{k:Int}{wd:Wd}{v:Value}{x:Vt}(hx:AddF 35 x):AddG 59 ⟨k,wd,v,[x]⟩ (loopC (prtOf x.pt)) (leaves x.pt):=by
 intro S w mb kb ws ps F wv hS hm hf hv hl;obtain⟨ao,cap,hvv⟩:=hv.parts.1.slice;obtain⟨X,hX⟩:∃X,X=prtOf x.pt:=⟨_,rfl⟩
 rw[<- hX];dsimp only at hvv;subst hvv;have HV:=zA hv;obtain⟨g,off,rfl,hgS,hgl,hcell⟩:=hv.parts.1.get (j:=0) (x:=x) rfl;obtain⟨q0,q1,q2⟩:=getN hcell;rw[Nat.zero_mul,yF]at q0 q1 q2;have hxv:=hv.parts.2.2.2 x (by simp);obtain⟨xa,xc,hxs⟩:=hxv.parts.1.slice;have HX:=zA hx;obtain⟨kk,kw,kv,kl⟩:=x;dsimp only at hxs q0 q1 q2;subst hxs;have hkl:=hxv.parts.2.2.1;dsimp only at hkl;obtain⟨W1,hW1⟩:∃W,W=(w.alloc (.cells #[.int .i64 k,.string ⟨wd.toArray⟩,.slice (some ⟨g,off,none⟩) 1 cap] 25)).alloc (.cells #[.int .u32 0,.int .u32 0,.bool false] 87):=⟨_,rfl⟩
 have hbW:Below w.heap.size w W1:=by rw[hW1];exact((zF _ _).alloc (zD _) _).alloc (by simp) _
 have hsz:W1.heap.size=w.heap.size+2:=by rw[hW1];simp
 have hcb:W1.heap[w.heap.size+1]?=some (.cells #[.int .u32 0,.int .u32 0,.bool false] 87 (0,0)):=by rw[hW1];exact(by simpa using heap_alloc_new (w.alloc (.cells #[.int .i64 k,.string ⟨wd.toArray⟩,.slice (some ⟨g,off,none⟩) 1 cap] 25)) _)
 have hLowP:Low (Plus S w.heap.size (w.heap.size+2)) W1:=by have:=hS.plus hbW.size;rw[hsz]at this;exact this
 have HM1:=zA (hm.plus hS hbW (w.heap.size+2));have hFrW:Fr S w W1:=fr_below hS hbW;have hkS:S kb:=hm.sk;have hkl2:kb<w.heap.size:=hS _ hkS;have C:=zA (HX.out (Plus S w.heap.size (w.heap.size+2)) W1 mb kb ws ps F wv hLowP HM1.out hf ((hxv.below hbW).sub (fun b hb _=>.inl hb)) hl);have HW1:=zA hW1;have HFW:=zA hFrW;have HCB:=zA hcb;have HSZ:=zA hsz;have HXX:=zA hX;have HLOW:=zA hS;have HSK:=zA hkS;rw[<- hX]at C;clear hv hm hf hl hxv hx hcell hbW hsz hcb hLowP hFrW hkS hkl2 hW1 hX HX hS;show Calls Tryz.prog _ #[_,.agg #[.int .i64 k,.string ⟨wd.toArray⟩,.slice (some ⟨g,off,none⟩) 1 cap]] w _;go_enter Tryz.func59,Tryz.ntmps59;go_wp2_with fail;rw[<- HW1.out];refine C.out.mono ?_;rintro e w1 ⟨f,l,F2,wv2,rfl,hb1,hb2,hm2,hf2,hfr2⟩;have e1:=(hfr2.block (w.heap.size+1) (.inr ⟨by omega,by omega⟩)).trans HCB.out;have hlt1:w.heap.size+1<w1.heap.size:=lt_of_block e1;have hLow1:Low (Plus S w.heap.size (w.heap.size+2)) w1:=Low.fr (w:=W1) (fun k hk=>by
  rcases hk with hk|hk
  . have:=HLOW.out k hk;have:=HFW.out.size;omega
  . have:=HSZ.out;omega) hfr2
 obtain⟨o3,ho3⟩:∃o,o=Obj.cells #[.int .u32 (f:Int),.int .u32 (l:Int),.bool X.empty] 87:=⟨_,rfl⟩
 have hm3:=(hm2.below hLow1 ((zF _ _).alloc (zD _) o3)).drew;have hfr3:=(hfr2.alloc (fun k hk=>by
  rcases hk with hk|hk
  . have:=HLOW.out k hk;have:=HFW.out.size;omega
  . have:=HSZ.out;omega) o3).drew
 have hb3:(w1.alloc o3).drew.heap[w1.heap.size]?=some o3:=heap_alloc_new w1 o3;have hmbn:mb≠w1.heap.size:=by have:=hm2.lt;omega
 have e3:(w1.alloc o3).drew.heap[w.heap.size+1]?=some (.cells #[.int .u32 0,.int .u32 0,.bool false] 87 (0,0)):=by
  show (w1.alloc o3).heap[w.heap.size+1]?=_;rw[heap_alloc_old _ _ hlt1];exact e1
 have hmb1:mb≠w.heap.size+1:=fun e=>hm2.no (.inr ⟨by omega,by omega⟩)
 have CL:=zA (link_any hm3.fol (fun i hi=>(hf2 i hi).1) l f hb2.1 hb1.1);have HM3:=zA hm3;have HFR3:=zA hfr3;have HB3:=zA hb3;have HB1:=zA hb1;have HB2:=zA hb2;have HF2:=zA hf2;have HE3:=zA e3;have HMN:=zA hmbn;have HMN1:=zA hmb1;have HO3:=zA ho3;have HLT1:=zA hlt1;obtain⟨em,hem⟩:∃b,b=X.empty:=⟨_,rfl⟩
 rw[<- hem]at HO3 ⊢;have HEM:=zA hem;rw[HO3.out]at CL;clear hem hm3 hfr3 hb3 hb1 hb2 hf2 e3 hmbn ho3 hm2 hfr2 hLow1 e1 hmb1 hlt1;go_wp2_with fail;go_region_law (go_simp;refine CL.out.mono ?_;rintro e w4 ⟨rfl,hfol4,hlk4⟩);all_goals (
  rw[<- HO3.out]at hlk4;have hm4:=HM3.out.link hlk4 hfol4;have hfr4:=HFR3.out.link hlk4 HM3.out.no;have hb4:=(hlk4.block w1.heap.size HMN.out.symm).trans HB3.out;have e4:=(hlk4.block (w.heap.size+1) HMN1.out.symm).trans HE3.out;rw[HO3.out]at hb4;obtain⟨⟨r0,r1,r2⟩,⟨f0,f1,f2⟩⟩:=three_cells e4;obtain⟨⟨s0,s1,s2⟩,_⟩:=three_cells hb4;obtain⟨hmF,hfF⟩:=add_end2 (b:=w.heap.size+1) (c0:=.int .u32 (f:Int)) (c1:=.int .u32 (l:Int)) (c2:=.bool em) HLOW.out HFW.out hfr4 hm4 HSK.out (by omega) (by omega);have hE:AddE S w mb kb ws ps (loopC X) (.returned (ptV f l em)) _:=⟨f,l,_,wv2,by rw[HEM.out];rfl,HB1.out,HB2.out,hmF,FolOf.congr (HF2.out.link HB2.out HB1.out) (fun p=>by rw[loopC,upP_append,cross_up,List.append_assoc]),hfF⟩
  obtain⟨⟨z0,z1,z2⟩,_⟩:=three_cells (set3P_at (c0:=.int .u32 (f:Int)) (c1:=.int .u32 (l:Int)) (c2:=.bool em) e4);have HE:=zA hE;have Z0:=zA z0;have Z1:=zA z1;have Z2:=zA z2;clear hE z0 z1 z2 hmF hfF hm4 hfr4 hb4 e4 hfol4 hlk4;unfold set3P at HE Z0 Z1 Z2;go_wp2;refine bodyPost_ret (v:=ptV f l em) ?_ rfl HE.out;simp[results,Tryz.results59,go_sem,Z0.out,Z1.out,Z2.out])
set_option maxHeartbeats 2000000 in
theorem addStar_any{k:Int}{wd:Wd}{v:Value}{x:Vt}(hx:AddF 35 x):AddG 58 ⟨k,wd,v,[x]⟩ (mayC2 (loopC (prtOf x.pt))) (leaves x.pt):=by
 intro S w mb kb ws ps F wv hS hm hf hv hl;obtain⟨ao,cap,hvv⟩:=hv.parts.1.slice;have hpl:=addPlus_any (k:=k) (wd:=wd) (v:=v) hx;obtain⟨X,hX⟩:∃X,X=loopC (prtOf x.pt):=⟨_,rfl⟩
 rw[<- hX]at hpl ⊢;dsimp only at hvv;subst hvv;simp only[yE,List.length_nil,Nat.zero_add]at hpl hv ⊢;obtain⟨W1,hW1⟩:∃W,W=(w.alloc (.cells #[.int .i64 k,.string ⟨wd.toArray⟩,.slice ao 1 cap] 25)).alloc (.cells #[.int .u32 0,.int .u32 0,.bool false] 87):=⟨_,rfl⟩
 have hbW:Below w.heap.size w W1:=by rw[hW1];exact((zF _ _).alloc (zD _) _).alloc (by simp) _
 have hsz:W1.heap.size=w.heap.size+2:=by rw[hW1];simp
 have hcb:W1.heap[w.heap.size+1]?=some (.cells #[.int .u32 0,.int .u32 0,.bool false] 87 (0,0)):=by rw[hW1];exact(by simpa using heap_alloc_new (w.alloc (.cells #[.int .i64 k,.string ⟨wd.toArray⟩,.slice ao 1 cap] 25)) _)
 have hLowP:Low (Plus S w.heap.size (w.heap.size+2)) W1:=by have:=hS.plus hbW.size;rw[hsz]at this;exact this
 have HM1:=zA (hm.plus hS hbW (w.heap.size+2));have hFrW:Fr S w W1:=fr_below hS hbW;have hkS:S kb:=hm.sk;have C:=zA (hpl (Plus S w.heap.size (w.heap.size+2)) W1 mb kb ws ps F wv hLowP HM1.out hf ((hv.below hbW).sub (fun b hb _=>.inl hb)) hl);have HW1:=zA hW1;have HFW:=zA hFrW;have HCB:=zA hcb;have HSZ:=zA hsz;have HLOW:=zA hS;have HSK:=zA hkS;clear hv hm hf hl hx hbW hsz hcb hLowP hFrW hkS hW1 hX hS hpl;show Calls Tryz.prog _ #[_,.agg #[.int .i64 k,.string ⟨wd.toArray⟩,.slice ao 1 cap]] w _;go_enter Tryz.func58,Tryz.ntmps58;go_wp2_with fail;rw[<- HW1.out];refine C.out.mono ?_;rintro e w1 ⟨f,l,F2,wv2,rfl,hb1,hb2,hm2,hf2,hfr2⟩;have e1:=(hfr2.block (w.heap.size+1) (.inr ⟨by omega,by omega⟩)).trans HCB.out;have hlt1:w.heap.size+1<w1.heap.size:=lt_of_block e1;obtain⟨⟨r0,r1,r2⟩,⟨f0,f1,f2⟩⟩:=three_cells e1;obtain⟨hmF,hfF⟩:=add_end (b:=w.heap.size+1) (c0:=.int .u32 (f:Int)) (c1:=.int .u32 (l:Int)) (c2:=.bool true) (.cells #[.int .u32 (f:Int),.int .u32 (l:Int),.bool true] 87) HLOW.out HSZ.out HFW.out hfr2 hm2 HSK.out (by omega) (by omega);have hE:AddE S w mb kb ws ps (mayC2 X) (.returned (ptV f l true)) _:=⟨f,l,F2,wv2,rfl,hb1,hb2,hmF,hf2,hfF⟩
 obtain⟨z0,z1,z2⟩:=end_cells (c0:=.int .u32 (f:Int)) (c1:=.int .u32 (l:Int)) (c2:=.bool true) (.cells #[.int .u32 (f:Int),.int .u32 (l:Int),.bool true] 87) e1;have HE:=zA hE;have Z0:=zA z0;have Z1:=zA z1;have Z2:=zA z2;clear hE z0 z1 z2 hb1 hb2 hm2 hf2 hfr2 e1 hmF hfF;unfold set3P at HE Z0 Z1 Z2;go_wp2;refine bodyPost_ret (v:=ptV f l true) ?_ rfl HE.out;simp[results,Tryz.results58,go_sem,Z0.out,Z1.out,Z2.out]
theorem infoStr:(Tryz.prog.info? 9).map (fun i=>(i.zero,i.size,i.bytes))=some (some (.string ⟨#[]⟩),1,16):=by kernel_rfl
theorem MkAt.grow{S:Nat->Prop}{w w9 w8:World}{mb kb:Nat}{ws:List Wd}{F:Nat->Nat}{wv wv9:Value}{u:Wd}(h:MkAt S w mb kb ws F wv)(hS:Low S w)(hg:w.grownBy w9 wv.ownBlock)(hown:w9.ownsRow 0 9 1 wv9 (ws++[u]).length ((ws++[u]).flatMap csT))(hat:∀g,wv9.ownBlock=some g->wv.ownBlock=some g\/w.heap.size<=g)(h8:w8=w9.setCell ⟨mb,0,none⟩ wv9):MkAt S w8 mb kb (ws++[u]) F wv9/\Fr S w w8:=by
 subst h8;have hmb:w9.heap[mb]?=w.heap[mb]?:=hg.block mb h.lt (fun e=>(h.rno mb e.symm).2 rfl);have hkb:w9.heap[kb]?=w.heap[kb]?:=hg.block kb (hS _ h.sk) (fun e=>(h.rno kb e.symm).1 h.sk);have hkm:kb≠mb:=fun e=>h.no (by rw[<- e];exact h.sk)
 have hr9:∀g,wv9.ownBlock=some g->¬S g/\g≠mb:=fun g hg9=>by
  rcases hat g hg9 with h1|h1
  . exact h.rno g h1
  . exact⟨fun e=>by have:=hS _ e;omega,by have:=h.lt;omega⟩
 have c09:w9.cell? ⟨mb,0,none⟩=some wv:=by have:=h.c0;simpa only[World.cell?,hmb]using this
 refine⟨⟨h.no,h.sk,?_,?_,?_,?_,?_,?_,?_,hr9⟩,?_⟩
 . have:=h.lt;have:=hg.size;simp;omega
 . rw[zM _ _ _ _ (by exact hkm),hkb];exact h.map
 . exact World.cell?_setCell_same _ _ _ c09
 . rw[World.frozen?_setCell];have:=h.f0;simpa only[World.frozen?,hmb]using this
 . rw[World.cell?_setCell_other _ _ _ _ (fun e=>by injection e with e1 e2;cases e2)];have:=h.c25;simpa only[World.cell?,hmb]using this
 . intro j hj;rw[World.cell?_setCell_other _ _ _ _ (fun e=>by injection e with e1 e2;omega),World.frozen?_setCell];exact(h.fol.keep hmb) j hj
 . exact owns_key hown (fun g o hg9 ho=>(zM _ _ _ _ (by exact (hr9 g hg9).2)).trans ho)
 . have hfr:Fr S w w9:=(Fr.refl S w).grown hS hg (fun g e=>(h.rno g e).1);exact hfr.setCell h.no _
theorem grown_at{w3 w9:World}{o:Obj}{row:Option Nat}{mb:Nat}(hg:(w3.alloc o).grownBy w9 row)(hlt:mb<w3.heap.size)(hne:row≠some mb):w9.heap[mb]?=w3.heap[mb]?:=by
 rw[hg.block mb (by simp;omega) (fun e=>hne e.symm),heap_alloc_old _ _ hlt]
theorem cell_of{w w':World}{b i:Nat}{v:Value}(h:w'.heap[b]?=w.heap[b]?)(hc:w.cell? ⟨b,i,none⟩=some v):w'.cell? ⟨b,i,none⟩=some v:=by simpa only[World.cell?,h]using hc
theorem froz_of{w w':World}{b i:Nat}(h:w'.heap[b]?=w.heap[b]?)(hc:w.frozen? ⟨b,i,none⟩=false):w'.frozen? ⟨b,i,none⟩=false:=by simpa only[World.frozen?,h]using hc
set_option maxHeartbeats 2000000 in
theorem addWord_any{k:Int}{wd:Wd}{v:Value}(hk:k=1)(hw16:wd.length<=1000):AddF 55 ⟨k,wd,v,[]⟩:=by
 intro S w mb kb ws ps F wv hS hm hf hv hl;obtain⟨i0,hi0,hz0,hz1,hz2⟩:=info_parts infoStr;obtain⟨ao,cap,hvv⟩:=hv.parts.1.slice;have hwl:=hv.parts.2.1;dsimp only at hvv hwl;subst hvv;rw[Vt.pt_mk,List.map_nil,leaves_mk,if_pos hk]at hl;rw[Vt.pt_mk,List.map_nil,prtOf_mk,kindC,if_pos hk];obtain⟨X,hX⟩:∃X:Prt,X=⟨[wd],[0],[0],[],false⟩:=⟨_,rfl⟩
 rw[<- hX];simp only[List.length_nil]at hv ⊢;obtain⟨wa,wc,hwv⟩:=own_slice hm.row;subst hwv;obtain⟨n,hn⟩:∃n,n=ws.length:=⟨_,rfl⟩
 obtain⟨W1,hW1⟩:∃W,W=(w.alloc (.cells #[.int .i64 k,.string ⟨wd.toArray⟩,.slice ao 0 cap] 25)).alloc (.cells #[.int .u32 0,.int .u32 0,.bool false] 87):=⟨_,rfl⟩
 have hbW:Below w.heap.size w W1:=by rw[hW1];exact((zF _ _).alloc (zD _) _).alloc (by simp) _
 have hsz:W1.heap.size=w.heap.size+2:=by rw[hW1];simp
 have hcb:W1.heap[w.heap.size+1]?=some (.cells #[.int .u32 0,.int .u32 0,.bool false] 87 (0,0)):=by rw[hW1];exact(by simpa using heap_alloc_new (w.alloc (.cells #[.int .i64 k,.string ⟨wd.toArray⟩,.slice ao 0 cap] 25)) _)
 have hLowP:Low (Plus S w.heap.size (w.heap.size+2)) W1:=by have:=hS.plus hbW.size;rw[hsz]at this;exact this
 have hm1:=hm.plus hS hbW (w.heap.size+2);have hFrW:Fr S w W1:=fr_below hS hbW;have hkS:S kb:=hm.sk;have hn24:n<24:=by omega
 have CO:=zA (fun u=>only_any n u hn24);have hlt:=hm.lt;have q0:=hm1.c0;have q1:=hm1.f0;have q0w:=hm.c0;rw[<- hn]at q0 q0w;obtain⟨q,hq⟩:∃q,q=2^n:=⟨_,rfl⟩
 rw[<- hq]at CO;have HQ:Hid (BitsOf q [n]):=zA (by rw[hq];exact BitsOf.one hn24);have HROW:=zA hm1.row;have HNE:Hid (∀u,(Value.slice wa u wc).ownBlock≠some mb):=zA (fun u e=>(hm1.rno mb (by cases wa<;>exact e)).2 rfl);have HM1:=zA hm1;have CC:=zA (clone_any ⟨wd.toArray⟩ W1.drew (by have:(ByteArray.mk wd.toArray).size=wd.length:=(by simp[ByteArray.size]);omega));have HW1:=zA hW1;have HFW:=zA hFrW;have HCB:=zA hcb;have HSZ:=zA hsz;have HLOW:=zA hS;have HLOWP:=zA hLowP;have HSK:=zA hkS;have HN:=zA hn;have HX:=zA hX;have HF:=zA hf;have hszm:mb<W1.heap.size:=hm1.lt;obtain⟨b0,b1,b2⟩:W1.cell? ⟨w.heap.size,0,none⟩=some (.int .i64 k)/\W1.cell? ⟨w.heap.size,1,none⟩=some (.string ⟨wd.toArray⟩)/\W1.cell? ⟨w.heap.size,2,none⟩=some (.slice ao 0 cap):=by rw[hW1];simp
 have HBX:=zA (And.intro b0 (And.intro b1 b2));rw[<- hn]at HROW;clear hv hm hf hl hbW hsz hcb hLowP hFrW hkS hW1 hX hS hm1 hq hn hk b0 b1 b2;show Calls Tryz.prog _ #[_,.agg #[.int .i64 k,.string ⟨wd.toArray⟩,.slice ao 0 cap]] w _;go_enter Tryz.func55,Tryz.ntmps55;go_wp2_with fail;rw[<- HW1.out];refine(CO.out _).mono ?_;rintro e w2 ⟨rfl,hw2⟩;subst hw2;clear q0w;obtain⟨b0,b1,b2⟩:=HBX.out;have hszw:w.heap.size<w2.heap.size:=by have:=HSZ.out;omega
 go_wp2_with fail;go_region_law (first
  |(go_simp;refine CC.out.mono ?_;rintro e w3 ⟨rfl,hb3⟩;have q03:=(hb3.cell (p:=⟨mb,0,none⟩) hszm).trans q0;have q13:=(hb3.frozen (p:=⟨mb,0,none⟩) hszm).trans q1;have hm3l:mb<w3.heap.size:=zO hszm hb3.size)
  |(refine step_append_lies _ (by rfl) _ _ _ (by rfl) 0 9 i0 _ 1 16 Tryz.underlying22 hi0 hz0 hz1 hz2 rfl (by decide) (.slice wa n wc) _ _ (by rfl) ((owns_below HROW.out.drew hb3).alloc _) ⟨w3.heap.size,0,none⟩ 1 1 (csT wd) (by rfl) (by rfl) (World.news_of_block (cs:=#[.string ⟨wd.toArray⟩]) (t:=9) (fr:=(0,0)) (heap_alloc_new w3 _)) (by simp[Value.oneCell']) (by decide) (by unfold maxLen;omega) (by omega) (by omega) (w3.heap.size+1) (by simp) ?_;intro gg cap2 w9 hown9 hgrow9 hat9 hlt9;have hh9:=grown_at hgrow9 (zO hszm hb3.size) (HNE.out _);have q09:=cell_of hh9 q03;have q19:=froz_of hh9 q13))
 all_goals (
  have hLD:Low (Plus S w.heap.size (w.heap.size+2)) w2.drew:=HLOWP.out;have hmA:=(HM1.out.drew.below hLD hb3).below (hLD.below hb3) ((zF w3.heap.size w3).alloc (zD _) (.cells #[.string ⟨wd.toArray⟩] 9));have hLA:Low (Plus S w.heap.size (w.heap.size+2)) (w3.alloc (.cells #[.string ⟨wd.toArray⟩] 9)):=fun k hk=>by have:=HLOWP.out k hk;have h2:w2.heap.size<=w3.heap.size:=hb3.size;simp;omega
  obtain⟨hm8,hf8⟩:=MkAt.grow (u:=wd) (wv9:=.slice (some ⟨gg,0,none⟩) (n+1) cap2) hmA hLA (by rw[<- HN.out];exact hgrow9) (by
   rw[zG,<- HN.out,zY];simpa using hown9) (fun g hg=>by
   have hgg:gg=g:=by simpa[Value.ownBlock]using hg
   subst hgg;rcases hat9 with h1|h1
   . left;rw[<- HN.out];exact h1
   . right;simp;omega) rfl
  have hfA:Fr (Plus S w.heap.size (w.heap.size+2)) w2 (w3.alloc (.cells #[.string ⟨wd.toArray⟩] 9)):=((Fr.refl _ w2).drew.next HLOWP.out hb3).alloc HLOWP.out _;have hfr8:=hfA.trans hf8;have e8:=(hfr8.block (w.heap.size+1) (.inr ⟨by omega,by omega⟩)).trans HCB.out;obtain⟨⟨r0,r1,r2⟩,⟨f0,f1,f2⟩⟩:=three_cells e8;obtain⟨hmF,hfF⟩:=add_end2 (b:=w.heap.size+1) (c0:=.int .u32 (q:Int)) (c1:=.int .u32 (q:Int)) (c2:=.bool false) HLOW.out HFW.out hfr8 hm8 HSK.out (by omega) (by omega);have hE:AddE S w mb kb ws ps X (.returned (ptV q q false)) (set3P (w9.setCell ⟨mb,0,none⟩ (.slice (some ⟨gg,0,none⟩) (n+1) cap2)) (w.heap.size+1) (.int .u32 (q:Int)) (.int .u32 (q:Int)) (.bool false)):=by
   rw[HX.out];exact⟨q,q,F,_,rfl,HQ.out.congr (fun k=>by rw[HN.out];simp[up]),HQ.out.congr (fun k=>by rw[HN.out];simp[up]),hmF,HF.out.congr (fun p=>by simp[upP]),hfF⟩
  obtain⟨⟨z0,z1,z2⟩,_⟩:=three_cells (set3P_at (c0:=.int .u32 (q:Int)) (c1:=.int .u32 (q:Int)) (c2:=.bool false) e8);have HE:=zA hE;have Z0:=zA z0;have Z1:=zA z1;have Z2:=zA z2;clear hE z0 z1 z2 hmF hfF hm8 hf8 hfr8 hfA hLA hmA hLD e8 hown9 hgrow9 hat9 hlt9 hh9 q09 q19 q03 q13;unfold set3P at HE Z0 Z1 Z2;obtain⟨w8,hw8⟩:∃W,W=w9.setCell ⟨mb,0,none⟩ (.slice (some ⟨gg,0,none⟩) (n+1) cap2):=⟨_,rfl⟩
  rw[<- hw8]at HE Z0 Z1 Z2 r0 r1 r2 f0 f1 f2 ⊢;clear hw8;go_wp2;refine bodyPost_ret (v:=ptV q q false) ?_ rfl HE.out;simp[results,Tryz.results55,go_sem,Z0.out,Z1.out,Z2.out])
theorem mayRq_path(t:Pt):mayRq ⟨1,[[120]],[((true,[120]),t,(true,[120]))],[]⟩=mayP t:=by
 have hn:namesP [((true,[120]),t,(true,[120]))]=[[120]]:=by simp[namesP,addN]
 have hw:wordsA ((true,[120]),t,(true,[120]))=true:=by
  simp only[wordsA,Bool.and_self];rfl
 cases hm:mayP t with
 |false=>simp[mayRq,mayQ,whyQ,hm]
 |true=>simp[mayRq,mayQ,whyQ,hm,hn,hw]
theorem one_txt{w:World}{g:Nat}{s:List UInt8}(hl:g<w.heap.size)(h:w.cell? ⟨g,0,none⟩=some (.string ⟨s.toArray⟩)):TxtS (fun _=>True) w (.slice (some ⟨g,0,none⟩) 1 1) [s]:=
 ⟨_,1,rfl,.inr ⟨g,0,rfl,trivial,hl,fun j x hx c u hu=>by
  have hj:j=0:=by have:=(zE.1 hx).1;simpa using this
  subst hj;simp at hx;subst hx;have hc:c=0:=by have:=(zE.1 hu).1;simpa using this
  subst hc;simp at hu;subst hu;exact h⟩⟩
theorem one_at{w:World}{g:Nat}{a:Am}(hl:g<w.heap.size)(h:∀c,c<7->w.cell? ⟨g,c,none⟩=(csA a)[c]?):AtsS (fun _=>True) w (.slice (some ⟨g,0,none⟩) 1 1) [a]:=
 ⟨_,1,rfl,.inr ⟨g,0,rfl,trivial,hl,fun j x hx c u hu=>by
  have hj:j=0:=by have:=(zE.1 hx).1;simpa using this
  subst hj;simp at hx;subst hx;have hc:c<7:=by have:=(zE.1 hu).1;simpa using this
  rw[Nat.zero_mul,Nat.zero_add,h c hc];exact hu⟩⟩
set_option maxHeartbeats 2000000 in
theorem pathMay_any{S:Nat->Prop}{w:World}{t:Vt}(h:VOk S w t):
 Calls Tryz.prog 33 #[encN t] w fun e w'=>e=.returned (.bool (mayP t.pt))/\Below w.heap.size w w':=by
 obtain⟨ao,cap,hv⟩:=h.parts.1.slice;have hkl:=h.parts.2.2.1;obtain⟨b,hb⟩:∃b,b=mayP t.pt:=⟨_,rfl⟩
 rw[<- hb];have HB:=zA hb;clear hb;have H:=zA h;obtain⟨k,wd,v,l⟩:=t;dsimp only at hv hkl;subst hv;clear h;show Calls Tryz.prog _ #[.agg #[.int .i64 k,.string ⟨wd.toArray⟩,.slice ao l.length cap]] w _;obtain⟨n,hn⟩:∃n,n=l.length:=⟨_,rfl⟩
 have HN:=zA hn;rw[<- hn]at H hkl ⊢;clear hn;have C:Hid (∀u,Below w.heap.size w u->w.heap.size+1+1+1<u.heap.size->u.cell? ⟨w.heap.size+1+1,0,none⟩=some (.string ⟨#[120]⟩)->(∀c,c<7->u.cell? ⟨w.heap.size+1+1+1,c,none⟩=(#[.bool true,.string ⟨#[120]⟩,.int .i64 k,.string ⟨wd.toArray⟩,.slice ao n cap,.bool true,.string ⟨#[120]⟩]:Array Value)[c]?)->
  Calls Tryz.prog 29 #[.agg #[.int .i64 1,.slice (some ⟨w.heap.size+1+1,0,none⟩) 1 1,.slice (some ⟨w.heap.size+1+1+1,0,none⟩) 1 1,.slice none 0 0]] u fun e w'=>e=.returned (.int .i64 (if b=true then 0 else 1))/\Below u.heap.size u w'):=zA (fun u hu hsz h1 h2=>by
  have hok:ROk (fun _=>True) u ⟨1,⟨.slice (some ⟨w.heap.size+1+1,0,none⟩) 1 1,[[120]],.slice (some ⟨w.heap.size+1+1+1,0,none⟩) 1 1,[((true,[120]),⟨k,wd,.slice ao n cap,l⟩,(true,[120]))]⟩,.slice none 0 0,[]⟩:=by
   refine⟨⟨one_txt (by omega) h1,by simp,by simp,⟨_,1,rfl,by simp⟩,one_at hsz (fun c hc=>?_),?_,?_,by simp⟩,SlS.nil _ _,by simp,by simp⟩
   . rw[h2 c hc];simp
   . intro a ha;simp at ha;subst ha;exact(H.out.below hu).sub (fun _ _ _=>trivial)
   . intro a ha;simp at ha;subst ha;exact⟨by simp,by simp⟩
  have:=check_any hok;have e:mayRq (Rm.rq ⟨1,⟨.slice (some ⟨w.heap.size+1+1,0,none⟩) 1 1,[[120]],.slice (some ⟨w.heap.size+1+1+1,0,none⟩) 1 1,[((true,[120]),⟨k,wd,.slice ao n cap,l⟩,(true,[120]))]⟩,.slice none 0 0,[]⟩)=b:=by
   have h3:=mayRq_path (Vt.pt ⟨k,wd,.slice ao n cap,l⟩);rw[HB.out,<- HN.out,<- h3];rfl
  rw[e]at this;exact this)
 clear H HB HN;cases b with
 |true=>
  go_enter Tryz.func33,Tryz.ntmps33;go_wp2_with fail;refine(C.out _ ?b1 ?b2 ?b3 ?b4).mono ?_
  case b1=>exact((((((zF _ _).alloc (zD _) _).alloc (by simp) _).alloc (by simp;omega) _).alloc (by simp;omega) _).alloc (by simp;omega) _)
  case b2=>simp
  case b3=>simp[go_sem]
  case b4=>intro c hc;rw[World.cell?_alloc_past _ _ _ (by simp),World.cell?_alloc_at _ _ _ _ (by simp)]
  rintro e w1 ⟨rfl,hb1⟩;have HB1:=zA hb1;clear hb1;go_wp2;go_ret;refine⟨rfl,?_⟩;exact((((((zF _ _).alloc (zD _) _).alloc (by simp) _).alloc (by simp;omega) _).alloc (by simp;omega) _).alloc (by simp;omega) _).trans (HB1.out.mono (by simp;omega))
 |false=>
  go_enter Tryz.func33,Tryz.ntmps33;go_wp2_with fail;refine(C.out _ ?b1 ?b2 ?b3 ?b4).mono ?_
  case b1=>exact((((((zF _ _).alloc (zD _) _).alloc (by simp) _).alloc (by simp;omega) _).alloc (by simp;omega) _).alloc (by simp;omega) _)
  case b2=>simp
  case b3=>simp[go_sem]
  case b4=>intro c hc;rw[World.cell?_alloc_past _ _ _ (by simp),World.cell?_alloc_at _ _ _ _ (by simp)]
  rintro e w1 ⟨rfl,hb1⟩;have HB1:=zA hb1;clear hb1;go_wp2;go_ret;refine⟨rfl,?_⟩;exact((((((zF _ _).alloc (zD _) _).alloc (by simp) _).alloc (by simp;omega) _).alloc (by simp;omega) _).alloc (by simp;omega) _).trans (HB1.out.mono (by simp;omega))
end Go.Proofs.YtdalcipmpelifaaGreatDoor
