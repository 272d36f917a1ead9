/- BMap, BMk, BAdd, BAddW, BAddA. -/
import Derived.Test.YtkbgmcmcpbegjabGreatDoorMH14
import Derived.MapKept
set_option maxRecDepth 100000
namespace Go.Proofs.YtkbgmcmcpbegjabGreatDoor
open Go.RowKit
theorem run_insert_new{P:Program}{w:World}{ty kt et:TypeId}{es:Array MapEntry}{c:Nat}{k:Int}{v:Value}(hu:P.underlying ty=some (.map kt et))(hk:P.underlying kt=some (.int .i64))(hnew:Instr.findNow (.int .i64) (.int .i64 k) es.toList 0=some none):
 (Instr.mapUpdate ty (.map (some w.heap.size)) (.int .i64 k) v).run P (w.alloc (.map es c))=.ok () (w.alloc (.map (es.push ⟨.int .i64 k,v,c⟩) (c+1))):=by
 have hg:(w.alloc (.map es c)).heap[w.heap.size]?=some (.map es c):=heap_alloc_new w _;unfold Instr.mapUpdate;simp only[Sem.run_bind,run_underlying hu,Result.andThen,MapKept.run_getObj_map hg,MapKept.run_checkKey (P:=P) (k:=.int .i64 k) hk (by trivial),MapKept.run_findKey hk hnew,MapKept.run_setObj_map _ hg];congr 1;show ({ w with heap:=(w.heap.push (.map es c)).setIfInBounds w.heap.size (.map (es.push ⟨.int .i64 k,v,c⟩) (c+1)) }:World)={ w with heap:=w.heap.push (.map (es.push ⟨.int .i64 k,v,c⟩) (c+1)) };congr 1;apply Array.ext_getElem?;intro i;rw[Array.getElem?_setIfInBounds,Array.getElem?_push,Array.getElem?_push];by_cases e:w.heap.size=i
 . subst e;simp
 . have e2:¬i=w.heap.size:=fun h=>e h.symm
   simp[e2,e]
theorem wpList_insert_new{P:Program}{ops:Array Oper}{rest:List Oper}{op:Oper}{a:Act}{w:World}{Q:Exit->Act->World->Prop}(hgd:op.guard=none)(ty:TypeId)(m x y:Operand)(ho:op.op=.insert ty m x y)
 (g:Nat) (hm:a.eval m=.map (some g)) (hgw:g=w.heap.size) (k:Int) (hx:a.eval x=.int .i64 k) (v:Value) (hy:a.eval y=v) (es:Array MapEntry) (c:Nat) {kt et:TypeId} (hu:P.underlying ty=some (.map kt et)) (hk:P.underlying kt=some (.int .i64)) (hnew:Instr.findNow (.int .i64) (.int .i64 k) es.toList 0=some none)
 (h:wpList P ops Q rest (a.put op.dst undef) (w.alloc (.map (es.push ⟨.int .i64 k,v,c⟩) (c+1)))):wpList P ops Q (op::rest) a (w.alloc (.map es c)):=by
 subst hgw;refine wpList_plain hgd fun K hK=>?_
 unfold Oper.wp execOp;simp only[ho,hm,hx,hy,Sem.run_bind,Sem.run_pure,Result.andThen_ok,run_insert_new hu hk hnew];exact hK _ _ h
theorem run_lookup_at{P:Program}{w:World}{ty kt et:TypeId}{g:Nat}{es:Array MapEntry}{c j:Nat}{k:Int}{v:Value}(hu:P.underlying ty=some (.map kt et))(hk:P.underlying kt=some (.int .i64))(hg:w.heap[g]?=some (.map es c))(hf:Instr.findNow (.int .i64) (.int .i64 k) es.toList 0=some (some (j,v))):
 (Instr.lookup ty (.map (some g)) (.int .i64 k) false).run P w=.ok v w:=by
 unfold Instr.lookup;simp[Sem.run_bind,run_underlying hu,Result.andThen,MapKept.run_getObj_map hg,MapKept.run_checkKey (P:=P) (k:=.int .i64 k) hk (by trivial),MapKept.run_findKey hk hf]
def entK(k:Int)(f:FuncId)(mb c:Nat):MapEntry:=⟨.int .i64 k,.func (.func f) #[.pointer (some ⟨mb,0,none⟩)] #[],c⟩
def kindsE(mb:Nat):Array MapEntry:=#[entK 1 71 mb 0,entK 2 72 mb 1,entK 3 73 mb 2,entK 4 74 mb 3,entK 5 75 mb 4,entK 6 76 mb 5]
def fnK(k:Int):FuncId:=if k=1 then 71 else if k=2 then 72 else if k=3 then 73 else if k=4 then 74 else if k=5 then 75 else 76
theorem kinds_find(mb:Nat){k:Int}(h1:1<=k)(h6:k<=6):∃j,Instr.findNow (.int .i64) (.int .i64 k) (kindsE mb).toList 0=some (some (j,.func (.func (fnK k)) #[.pointer (some ⟨mb,0,none⟩)] #[])):=by
 have:k=1\/k=2\/k=3\/k=4\/k=5\/k=6:=by omega
 rcases this with rfl|rfl|rfl|rfl|rfl|rfl
 . exact⟨0,rfl⟩
 . exact⟨1,rfl⟩
 . exact⟨2,rfl⟩
 . exact⟨3,rfl⟩
 . exact⟨4,rfl⟩
 . exact⟨5,rfl⟩
theorem underKinds:Tryz.prog.underlying 140=some (.map 3 109):=Tryz.underlying140
theorem infoMaker:(Tryz.prog.info? 142).map (fun i=>(i.zero,i.size))=some (some (.agg (#[.slice none 0 0]++Array.replicate 24 (.int .u32 0)++#[.map none])),26):=by kernel_rfl
set_option maxHeartbeats 2000000 in
theorem newMaker_any(w:World):
 Calls Tryz.prog 49 #[] w fun e w'=>e=.returned (.pointer (some ⟨w.heap.size,0,none⟩))/\w'.heap[w.heap.size]?=some (.cells (#[.slice none 0 0]++Array.replicate 24 (.int .u32 0)++#[.map (some (w.heap.size+1))]) 142 (0,0))/\w'.heap[w.heap.size+1]?=some (.map (kindsE w.heap.size) 6)/\Below w.heap.size w w':=by
 obtain⟨hv,hsz⟩:=zero_of_info infoMaker;have hmk:∀w,(Instr.makeMap 140 none).run Tryz.prog w=.ok (.map (some w.heap.size)) (w.alloc (.map #[] 0)):=fun w=>rfl
 obtain⟨z,hz⟩:∃z:Array Value,z=#[.slice none 0 0]++Array.replicate 24 (.int .u32 0)++#[.map none]:=⟨_,rfl⟩
 rw[<- hz]at hv;have hz25:z[25]?=some (.map none):=by rw[hz];rfl
 have hzs:z.size=26:=by rw[hz];rfl
 have HZ:Hid (#[.slice none 0 0]++Array.replicate 24 (.int .u32 0)++#[.map (some (w.heap.size+1))]=z.setIfInBounds 25 (.map (some (w.heap.size+1)))):=zA (by rw[hz];rfl);rw[HZ.out];clear HZ hz;go_enter Tryz.func49,Tryz.ntmps49;go_wp2_with (first|(refine wpList_insert_new rfl _ _ _ _ rfl _ rfl (by simp) _ rfl _ rfl _ _ underKinds Tryz.underlying3 (by rfl) ?_)|fail);go_ret;refine⟨rfl,?_,?_,?_⟩
 . rw[heap_alloc_old _ _ (by simp),heap_alloc_new]
 . have:=heap_alloc_new (w.alloc (.cells (z.setIfInBounds 25 (.map (some (w.heap.size+1)))) 142)) (.map (kindsE w.heap.size) 6);simpa[kindsE,entK]using this
 . exact((zF _ _).alloc (zD _) _).alloc (by simp) _
def BitsOf(s:Nat)(L:List Nat):Prop:=s<16777216/\∀k,s.testBit k=true↔k∈L
def FolOf(F:Nat->Nat)(ps:List (Nat×Nat)):Prop:=∀i,i<24->F i<16777216/\∀j,(F i).testBit j=true↔(i,j)∈ps
theorem BitsOf.congr{s:Nat}{L M:List Nat}(h:BitsOf s L)(hm:∀k,k∈L↔k∈M):BitsOf s M:=⟨h.1,fun k=>(h.2 k).trans (hm k)⟩
theorem FolOf.congr{F:Nat->Nat}{ps qs:List (Nat×Nat)}(h:FolOf F ps)(hm:∀p,p∈ps↔p∈qs):FolOf F qs:=fun i hi=>⟨(h i hi).1,fun j=>((h i hi).2 j).trans (hm _)⟩
theorem BitsOf.or{s t:Nat}{L M:List Nat}(h:BitsOf s L)(g:BitsOf t M):BitsOf (s ||| t) (L++M):=
 ⟨or_lt24 h.1 g.1,fun k=>by rw[Nat.testBit_or,Bool.or_eq_true,h.2,g.2,zM]⟩
theorem BitsOf.one{p:Nat}(hp:p<24):BitsOf (2^p) [p]:=⟨pow_lt24 hp,fun k=>by
 rw[Nat.testBit_two_pow,decide_eq_true_eq,zJ];exact⟨fun h=>h.symm,fun h=>h.symm⟩⟩
theorem BitsOf.none:BitsOf 0 []:=⟨by omega,fun k=>by simp⟩
def linkF(F:Nat->Nat)(a b:Nat)(i:Nat):Nat:=if a.testBit i=true then F i ||| b else F i
theorem FolOf.link{F:Nat->Nat}{ps:List (Nat×Nat)}{a b:Nat}{A B:List Nat}(h:FolOf F ps)(ha:BitsOf a A)(hb:BitsOf b B):FolOf (linkF F a b) (ps++cross A B):=fun i hi=>by
 unfold linkF;split
 . rename_i hbit;refine⟨or_lt24 (h i hi).1 hb.1,fun j=>?_⟩;rw[Nat.testBit_or,Bool.or_eq_true,(h i hi).2,hb.2,zM,mem_cross];simp[(ha.2 i).1 hbit]
 . rename_i hbit;refine⟨(h i hi).1,fun j=>?_⟩;rw[(h i hi).2,zM,mem_cross];constructor
   . exact .inl
   . rintro (h1|⟨h1,_⟩)
     . exact h1
     . exact absurd ((ha.2 i).2 h1) hbit
structure LinkE (w w':World) (b o:Nat):Prop where
 os:w'.os=w.os
 tape:w'.tape=w.tape
 output:w'.output=w.output
 size:w'.heap.size=w.heap.size
 block:∀k,k≠b->w'.heap[k]?=w.heap[k]?
 cell:∀i,(i<o\/o+24<=i)->w'.cell? ⟨b,i,none⟩=w.cell? ⟨b,i,none⟩
 froz:∀i,w'.frozen? ⟨b,i,none⟩=w.frozen? ⟨b,i,none⟩
theorem LinkE.refl(w:World)(b o:Nat):LinkE w w b o:=⟨rfl,rfl,rfl,rfl,fun _ _=>rfl,fun _ _=>rfl,fun _=>rfl⟩
theorem LinkE.set{w w':World}{b o i:Nat}(h:LinkE w w' b o)(hi:i<24)(v:Value):LinkE w (w'.setCell ⟨b,o+i,none⟩ v).drew b o:=
 ⟨h.os,h.tape,h.output,by simpa using h.size,fun k hk=>(zL w' ⟨b,o+i,none⟩ v k hk).trans (h.block k hk),fun j hj=>by
  show (w'.setCell ⟨b,o+i,none⟩ v).cell? ⟨b,j,none⟩=_;rw[World.cell?_setCell_other _ _ _ _ (fun e=>by injection e with e1 e2;omega)];exact h.cell j hj,fun j=>by
  show (w'.setCell ⟨b,o+i,none⟩ v).frozen? ⟨b,j,none⟩=_;rw[World.frozen?_setCell];exact h.froz j⟩
set_option maxHeartbeats 1000000 in
theorem link_any{w:World}{b o:Nat}{F:Nat->Nat}(h:FolAt w b o F)(hF:∀i,i<24->F i<16777216)(x y:Nat)(hx:x<16777216)(hy:y<16777216):
 Calls Tryz.prog 100 #[.pointer (some ⟨b,o,none⟩),.int .u32 (x:Int),.int .u32 (y:Int)] w fun e w'=>e=.returned (.tuple #[])/\FolAt w' b o (linkF F x y)/\LinkE w w' b o:=by
 have H:=zA h;have HF:=zA hF;clear h hF;go_enter Tryz.func100,Tryz.ntmps100;go_wp2_with fail;go_loopw [7] (fun c wr=>∃i:Nat,i<=24/\c=.int .i64 i/\FolAt wr b o (fun j=>if j<i then linkF F x y j else F j)/\LinkE w wr b o) (fun c _=>24-(intOf c).toNat)
 case atStart=>exact⟨0,zR _,rfl,FolAt.congr H.out (fun j _=>by simp),LinkE.refl _ _ _⟩
 case round=>
  obtain⟨i,hi,rfl,hfol,hlk⟩:=hrel;have HFOL:=zA hfol;have HLK:=zA hlk;clear hfol hlk;by_cases hlt:i<24
  . have hltI:(i:Int)<24:=by omega
    obtain⟨q0,q1⟩:=HFOL.out i hlt;simp only[Nat.lt_irrefl,if_false]at q0;have hfl:=HF.out i hlt;have C:=zA (fun wr=>has_any x i wr hx hlt);obtain⟨f,hf⟩:∃f,f=F i:=⟨_,rfl⟩
    rw[<- hf]at q0 hfl;have HFI:=zA hf;clear hf;cases hbit:x.testBit i with
    |true=>
     rw[hbit]at C;have hb:bits .or .u32 (f:Int) (y:Int)=((f ||| y:Nat):Int):=u32_or_nat f y (by omega) (by omega);have HS:Hid (linkF F x y i=f ||| y):=zA (by rw[linkF,if_pos hbit,HFI.out]);have HF2:Hid (FolAt (wr.setCell ⟨b,o+i,none⟩ (.int .u32 ((f ||| y:Nat):Int))).drew b o (fun j=>if j<i+1 then linkF F x y j else F j)):=zA (by
      have h1:=FolAt.set (x:=f ||| y) HFOL.out hlt;refine FolAt.congr h1 (fun j _=>?_);by_cases e:j=i
      . subst e;rw[if_pos rfl,if_pos (by omega),HS.out]
      . rw[if_neg e];by_cases e2:j<i
        . rw[if_pos e2,if_pos (by omega)]
        . rw[if_neg e2,if_neg (by omega)])
     have HL2:=zA (HLK.out.set hlt (.int .u32 ((f ||| y:Nat):Int)));obtain⟨fy,hfy⟩:∃k,k=f ||| y:=⟨_,rfl⟩
     rw[<- hfy]at hb HF2 HL2;clear hbit hfy HS;go_wp2_with fail;refine(C.out _).mono ?_;rintro e w1 ⟨rfl,rfl⟩;go_wp2_with fail;go_region;go_wp2;go_roundw
     case rel=>exact⟨i+1,by omega,by go_num,HF2.out,HL2.out⟩
     case measure=>simp[intOf];omega
    |false=>
     rw[hbit]at C;have HF2:Hid (FolAt wr b o (fun j=>if j<i+1 then linkF F x y j else F j)):=zA (by
      refine FolAt.congr HFOL.out (fun j _=>?_);by_cases e:j=i
      . subst e;rw[if_neg (by omega),if_pos (by omega),linkF,if_neg (by rw[hbit];decide)]
      . by_cases e2:j<i
        . rw[if_pos e2,if_pos (by omega)]
        . rw[if_neg e2,if_neg (by omega)])
     clear hbit;go_wp2_with fail;refine(C.out _).mono ?_;rintro e w1 ⟨rfl,rfl⟩;go_wp2;go_roundw
     case rel=>exact⟨i+1,by omega,by go_num,HF2.out,HLK.out⟩
     case measure=>simp[intOf];omega
  . have hltI:¬(i:Int)<24:=by omega
    have HF2:Hid (FolAt wr b o (linkF F x y)):=zA (FolAt.congr HFOL.out (fun j hj=>by rw[if_pos (by omega)]));go_wp2;go_end0;exact⟨rfl,HF2.out,HLK.out⟩
structure MkAt (S:Nat->Prop) (w:World) (mb kb:Nat) (ws:List Wd) (F:Nat->Nat) (wv:Value):Prop where
 no:¬S mb
 sk:S kb
 lt:mb<w.heap.size
 map:w.heap[kb]?=some (.map (kindsE mb) 6)
 c0:w.cell? ⟨mb,0,none⟩=some wv
 f0:w.frozen? ⟨mb,0,none⟩=false
 c25:w.cell? ⟨mb,25,none⟩=some (.map (some kb))
 fol:FolAt w mb 1 F
 row:w.ownsRow 0 9 1 wv ws.length (ws.flatMap csT)
 rno:∀g,wv.ownBlock=some g->¬S g/\g≠mb
theorem MkAt.keep{S:Nat->Prop}{w w':World}{mb kb:Nat}{ws:List Wd}{F:Nat->Nat}{wv:Value}(h:MkAt S w mb kb ws F wv)(hz:w.heap.size<=w'.heap.size)(hb:w'.heap[mb]?=w.heap[mb]?)(hk:w'.heap[kb]?=w.heap[kb]?)(hr:∀g,wv.ownBlock=some g->w'.heap[g]?=w.heap[g]?):MkAt S w' mb kb ws F wv:=
 ⟨h.no,h.sk,zO h.lt hz,hk.trans h.map,by have:=h.c0;simpa only[World.cell?,hb]using this,by have:=h.f0;simpa only[World.frozen?,hb]using this,by have:=h.c25;simpa only[World.cell?,hb]using this,h.fol.keep hb,owns_key h.row (fun g o hg ho=>(hr g hg).trans ho),h.rno⟩
theorem MkAt.below{S:Nat->Prop}{w w':World}{mb kb:Nat}{ws:List Wd}{F:Nat->Nat}{wv:Value}(h:MkAt S w mb kb ws F wv)(hS:Low S w)(hb:Below w.heap.size w w'):MkAt S w' mb kb ws F wv:=
 h.keep hb.size (hb.block _ h.lt) (hb.block _ (hS _ h.sk)) (fun g hg=>hb.block g (h.row.lt g hg).2)
theorem MkAt.setS{S:Nat->Prop}{w:World}{mb kb:Nat}{ws:List Wd}{F:Nat->Nat}{wv:Value}(h:MkAt S w mb kb ws F wv){b i:Nat}(hs:S b)(hk:b≠kb)(v:Value):MkAt S (w.setCell ⟨b,i,none⟩ v) mb kb ws F wv:=
 h.keep (by simp) (zL _ _ _ _ (fun e=>h.no (by rw[show mb=b from e];exact hs))) (zL _ _ _ _ (fun e=>hk (show kb=b from e).symm)) (fun g hg=>zL _ _ _ _ (fun e=>(h.rno g hg).1 (by rw[show g=b from e];exact hs)))
theorem MkAt.drew{S:Nat->Prop}{w:World}{mb kb:Nat}{ws:List Wd}{F:Nat->Nat}{wv:Value}(h:MkAt S w mb kb ws F wv):MkAt S w.drew mb kb ws F wv:=h.keep (zD _) rfl rfl (fun _ _=>rfl)
theorem MkAt.plus{S:Nat->Prop}{w w':World}{mb kb:Nat}{ws:List Wd}{F:Nat->Nat}{wv:Value}(h:MkAt S w mb kb ws F wv)(hS:Low S w)(hb:Below w.heap.size w w')(hi:Nat):MkAt (Plus S w.heap.size hi) w' mb kb ws F wv:=by
 have h2:=h.below hS hb;refine⟨?_,.inl h.sk,h2.lt,h2.map,h2.c0,h2.f0,h2.c25,h2.fol,h2.row,fun g hg=>⟨?_,(h.rno g hg).2⟩⟩
 . rintro (e|e)
   . exact h.no e
   . have:=h.lt;omega
 . rintro (e|e)
   . exact(h.rno g hg).1 e
   . have:=(h.row.lt g hg).2;omega
theorem MkAt.sub{S T:Nat->Prop}{w:World}{mb kb:Nat}{ws:List Wd}{F:Nat->Nat}{wv:Value}(h:MkAt S w mb kb ws F wv)(hs:∀k,T k->S k)(hk:T kb):MkAt T w mb kb ws F wv:=
 ⟨fun e=>h.no (hs _ e),hk,h.lt,h.map,h.c0,h.f0,h.c25,h.fol,h.row,fun g hg=>⟨fun e=>(h.rno g hg).1 (hs _ e),(h.rno g hg).2⟩⟩
theorem MkAt.link{S:Nat->Prop}{w w':World}{mb kb:Nat}{ws:List Wd}{F G:Nat->Nat}{wv:Value}(h:MkAt S w mb kb ws F wv)(hl:LinkE w w' mb 1)(hf:FolAt w' mb 1 G):MkAt S w' mb kb ws G wv:=
 ⟨h.no,h.sk,by rw[hl.size];exact h.lt,(hl.block kb (fun e=>h.no (by rw[<- e];exact h.sk))).trans h.map,(hl.cell 0 (by omega)).trans h.c0,(hl.froz 0).trans h.f0,(hl.cell 25 (by omega)).trans h.c25,hf,
  owns_key h.row (fun g o hg ho=>(hl.block g (h.rno g hg).2).trans ho),h.rno⟩
theorem Fr.link{S:Nat->Prop}{w w1 w':World}{b o:Nat}(h:Fr S w w1)(hl:LinkE w1 w' b o)(hb:¬S b):Fr S w w':=
 ⟨hl.os.trans h.os,hl.tape.trans h.tape,hl.output.trans h.output,by rw[hl.size];exact h.size,fun k hk=>(hl.block k (fun e=>hb (by rw[<- e];exact hk))).trans (h.block k hk)⟩
theorem Fr.drew{S:Nat->Prop}{w w1:World}(h:Fr S w w1):Fr S w w1.drew:=⟨h.os,h.tape,h.output,h.size,h.block⟩
theorem three_cells{w:World}{b:Nat}{c0 c1 c2:Value}{t:TypeId}(h:w.heap[b]?=some (.cells #[c0,c1,c2] t (0,0))):
 (w.cell? ⟨b,0,none⟩=some c0/\w.cell? ⟨b,1,none⟩=some c1/\w.cell? ⟨b,2,none⟩=some c2)/\(w.frozen? ⟨b,0,none⟩=false/\w.frozen? ⟨b,1,none⟩=false/\w.frozen? ⟨b,2,none⟩=false):=by
 simp[World.cell?,World.frozen?,h]
def set3P(w:World)(b:Nat)(c0 c1 c2:Value):World:=((w.setCell ⟨b,0,none⟩ c0).setCell ⟨b,1,none⟩ c1).setCell ⟨b,2,none⟩ c2
theorem set3P_at{w:World}{b:Nat}{x y z c0 c1 c2:Value}{t:TypeId}(h:w.heap[b]?=some (.cells #[x,y,z] t (0,0))):(set3P w b c0 c1 c2).heap[b]?=some (.cells #[c0,c1,c2] t (0,0)):=by
 simp[set3P,World.setCell,Array.getElem?_modify,h]
theorem Fr.set3P{S:Nat->Prop}{w w':World}{b:Nat}(h:Fr S w w')(hb:¬S b)(c0 c1 c2:Value):Fr S w (set3P w' b c0 c1 c2):=((h.setCell hb c0).setCell hb c1).setCell hb c2
theorem MkAt.set3P{S:Nat->Prop}{w:World}{mb kb:Nat}{ws:List Wd}{F:Nat->Nat}{wv:Value}(h:MkAt S w mb kb ws F wv){b:Nat}(hs:S b)(hk:b≠kb)(c0 c1 c2:Value):MkAt S (set3P w b c0 c1 c2) mb kb ws F wv:=((h.setS hs hk c0).setS hs hk c1).setS hs hk c2
theorem Fr.alloc{S:Nat->Prop}{w w':World}(h:Fr S w w')(hS:Low S w)(o:Obj):Fr S w (w'.alloc o):=h.next hS ((zF _ _).alloc (zD _) o)
abbrev ptV(f l:Nat)(e:Bool):Value:=.agg #[.int .u32 (f:Int),.int .u32 (l:Int),.bool e]
def AddE(S:Nat->Prop)(w:World)(mb kb:Nat)(ws:List Wd)(ps:List (Nat×Nat))(x:Prt)(e:Ending)(w':World):Prop:=
 ∃f l F wv,e=.returned (ptV f l x.empty)/\BitsOf f (up ws.length x.first)/\BitsOf l (up ws.length x.last)/\MkAt S w' mb kb (ws++x.words) F wv/\FolOf F (ps++upP ws.length x.pairs)/\Fr S w w'
def AddG(fn:FuncId)(t:Vt)(X:Prt)(need:Nat):Prop:=∀(S:Nat->Prop) (w:World) (mb kb:Nat) (ws:List Wd) (ps:List (Nat×Nat)) (F:Nat->Nat) (wv:Value),Low S w->MkAt S w mb kb ws F wv->FolOf F ps->VOk S w t->ws.length+need<=24->
 Calls Tryz.prog fn #[.pointer (some ⟨mb,0,none⟩),encN t] w (AddE S w mb kb ws ps X)
def AddF(fn:FuncId)(t:Vt):Prop:=AddG fn t (prtOf t.pt) (leaves t.pt)
theorem add_end{S:Nat->Prop}{w W1 w1:World}{mb kb b hi:Nat}{ws:List Wd}{F:Nat->Nat}{wv c0 c1 c2:Value}(o:Obj)(hS:Low S w)(hsz:W1.heap.size=hi)(hFW:Fr S w W1)(hfr:Fr (Plus S w.heap.size hi) W1 w1)(hm:MkAt (Plus S w.heap.size hi) w1 mb kb ws F wv)(hkb:S kb)(h1:w.heap.size<=b)(h2:b<hi):
 MkAt S ((set3P w1 b c0 c1 c2).alloc o) mb kb ws F wv/\Fr S w ((set3P w1 b c0 c1 c2).alloc o):=by
 have hk:=hS kb hkb;have hLow:Low (Plus S w.heap.size hi) w1:=Low.fr (w:=W1) (fun k hk=>by
  rcases hk with hk|hk
  . have:=hS k hk;have:=hFW.size;omega
  . omega) hfr
 have hm2:=hm.set3P (b:=b) (.inr ⟨h1,h2⟩) (by omega) c0 c1 c2;have hz:(set3P w1 b c0 c1 c2).heap.size=w1.heap.size:=by simp[Go.Proofs.YtkbgmcmcpbegjabGreatDoor.set3P]
 refine⟨(hm2.below (fun k hk=>by rw[hz];exact hLow k hk) ((zF _ _).alloc (zD _) o)).sub (fun k hk=>.inl hk) hkb,?_⟩;exact Fr.alloc (Fr.set3P (hFW.trans (hfr.sub (fun k hk=>.inl hk))) (fun h=>by have:=hS _ h;omega) c0 c1 c2) hS o
theorem add_end2{S:Nat->Prop}{w W1 w1:World}{mb kb b hi:Nat}{ws:List Wd}{F:Nat->Nat}{wv c0 c1 c2:Value}(hS:Low S w)(hFW:Fr S w W1)(hfr:Fr (Plus S w.heap.size hi) W1 w1)(hm:MkAt (Plus S w.heap.size hi) w1 mb kb ws F wv)(hkb:S kb)(h1:w.heap.size<=b)(h2:b<hi):
 MkAt S (set3P w1 b c0 c1 c2) mb kb ws F wv/\Fr S w (set3P w1 b c0 c1 c2):=by
 have hk:=hS kb hkb;exact⟨(hm.set3P (b:=b) (.inr ⟨h1,h2⟩) (by omega) c0 c1 c2).sub (fun k hk=>.inl hk) hkb,Fr.set3P (hFW.trans (hfr.sub (fun k hk=>.inl hk))) (fun h=>by have:=hS _ h;omega) c0 c1 c2⟩
theorem end_cells{w1:World}{b:Nat}{x y z c0 c1 c2:Value}{t:TypeId}(o:Obj)(h:w1.heap[b]?=some (.cells #[x,y,z] t (0,0))):
 (((set3P w1 b c0 c1 c2).alloc o).cell? ⟨b,0,none⟩=some c0/\((set3P w1 b c0 c1 c2).alloc o).cell? ⟨b,1,none⟩=some c1/\((set3P w1 b c0 c1 c2).alloc o).cell? ⟨b,2,none⟩=some c2):=by
 have hz:(set3P w1 b c0 c1 c2).heap.size=w1.heap.size:=by simp[Go.Proofs.YtkbgmcmcpbegjabGreatDoor.set3P]
 have h2:((set3P w1 b c0 c1 c2).alloc o).heap[b]?=some (.cells #[c0,c1,c2] t (0,0)):=by
  rw[heap_alloc_old _ _ (by rw[hz];exact lt_of_block h)];exact set3P_at h
 exact(three_cells h2).1
theorem prt_one{k:Int}{wd:Wd}{v:Value}{x:Vt}(h:k=4\/k=5\/k=6):prtOf (Vt.pt ⟨k,wd,v,[x]⟩)=if k=4 then mayC2 (loopC (prtOf x.pt))else if k=5 then loopC (prtOf x.pt)else mayC2 (prtOf x.pt):=by
 rw[Vt.pt_mk,prtOf_mk,List.map_cons,List.map_cons,List.map_nil,List.map_nil,kindC];rcases h with rfl|rfl|rfl<;>simp[altC,prt0,up,upP]
theorem leaves_one{k:Int}{wd:Wd}{v:Value}{x:Vt}(h:k≠1):leaves (Vt.pt ⟨k,wd,v,[x]⟩)=leaves x.pt:=by
 rw[Vt.pt_mk,leaves_mk,if_neg h];simp
theorem prt_words_len(t:Pt):(prtOf t).words.length=leaves t:=(prt_words t).2
set_option maxHeartbeats 2000000 in
theorem addMaybe_any{k:Int}{wd:Wd}{v:Value}{x:Vt}(hx:AddF 50 x):AddG 76 ⟨k,wd,v,[x]⟩ (mayC2 (prtOf x.pt)) (leaves x.pt):=by
 intro S w mb kb ws ps F wv hS hm hf hv hl;obtain⟨ao,cap,hvv⟩:=hv.parts.1.slice;obtain⟨X,hX⟩:∃X,X=prtOf x.pt:=⟨_,rfl⟩
 rw[<- hX];dsimp only at hvv;subst hvv;have HV:=zA hv;obtain⟨g,off,rfl,hgS,hgl,hcell⟩:=hv.parts.1.get (j:=0) (x:=x) rfl;obtain⟨q0,q1,q2⟩:=getN hcell;rw[Nat.zero_mul,yJ]at q0 q1 q2;have hxv:=hv.parts.2.2.2 x (by simp);obtain⟨xa,xc,hxs⟩:=hxv.parts.1.slice;have HX:=zA hx;obtain⟨kk,kw,kv,kl⟩:=x;dsimp only at hxs q0 q1 q2;subst hxs;have hkl:=hxv.parts.2.2.1;dsimp only at hkl;obtain⟨W1,hW1⟩:∃W,W=(w.alloc (.cells #[.int .i64 k,.string ⟨wd.toArray⟩,.slice (some ⟨g,off,none⟩) 1 cap] 28)).alloc (.cells #[.int .u32 0,.int .u32 0,.bool false] 108):=⟨_,rfl⟩
 have hbW:Below w.heap.size w W1:=by rw[hW1];exact((zF _ _).alloc (zD _) _).alloc (by simp) _
 have hsz:W1.heap.size=w.heap.size+2:=by rw[hW1];simp
 have hcb:W1.heap[w.heap.size+1]?=some (.cells #[.int .u32 0,.int .u32 0,.bool false] 108 (0,0)):=by rw[hW1];exact(by simpa using heap_alloc_new (w.alloc (.cells #[.int .i64 k,.string ⟨wd.toArray⟩,.slice (some ⟨g,off,none⟩) 1 cap] 28)) _)
 have hLowP:Low (Plus S w.heap.size (w.heap.size+2)) W1:=by have:=hS.plus hbW.size;rw[hsz]at this;exact this
 have HM1:=zA (hm.plus hS hbW (w.heap.size+2));have hFrW:Fr S w W1:=fr_below hS hbW;have hkS:S kb:=hm.sk;have hkl2:kb<w.heap.size:=hS _ hkS;have C:=zA (HX.out (Plus S w.heap.size (w.heap.size+2)) W1 mb kb ws ps F wv hLowP HM1.out hf ((hxv.below hbW).sub (fun b hb _=>.inl hb)) hl);have HW1:=zA hW1;have HFW:=zA hFrW;have HCB:=zA hcb;have HSZ:=zA hsz;have HXX:=zA hX;have HLOW:=zA hS;have HSK:=zA hkS;rw[<- hX]at C;clear hv hm hf hl hxv hx hcell hbW hsz hcb hLowP hFrW hkS hkl2 hW1 hX HX hS;show Calls Tryz.prog _ #[_,.agg #[.int .i64 k,.string ⟨wd.toArray⟩,.slice (some ⟨g,off,none⟩) 1 cap]] w _;go_enter Tryz.func76,Tryz.ntmps76;go_wp2_with fail;rw[<- HW1.out];refine C.out.mono ?_;rintro e w1 ⟨f,l,F2,wv2,rfl,hb1,hb2,hm2,hf2,hfr2⟩;have e1:=(hfr2.block (w.heap.size+1) (.inr ⟨by omega,by omega⟩)).trans HCB.out;have hlt1:w.heap.size+1<w1.heap.size:=lt_of_block e1;obtain⟨⟨r0,r1,r2⟩,⟨f0,f1,f2⟩⟩:=three_cells e1;obtain⟨hmF,hfF⟩:=add_end (b:=w.heap.size+1) (c0:=.int .u32 (f:Int)) (c1:=.int .u32 (l:Int)) (c2:=.bool true) (.cells #[.int .u32 (f:Int),.int .u32 (l:Int),.bool true] 108) HLOW.out HSZ.out HFW.out hfr2 hm2 HSK.out (by omega) (by omega);have hE:AddE S w mb kb ws ps (mayC2 X) (.returned (ptV f l true)) _:=⟨f,l,F2,wv2,rfl,hb1,hb2,hmF,hf2,hfF⟩
 obtain⟨z0,z1,z2⟩:=end_cells (c0:=.int .u32 (f:Int)) (c1:=.int .u32 (l:Int)) (c2:=.bool true) (.cells #[.int .u32 (f:Int),.int .u32 (l:Int),.bool true] 108) e1;have HE:=zA hE;have Z0:=zA z0;have Z1:=zA z1;have Z2:=zA z2;clear hE z0 z1 z2 hb1 hb2 hm2 hf2 hfr2 e1 hmF hfF;unfold set3P at HE Z0 Z1 Z2;go_wp2;refine bodyPost_ret (v:=ptV f l true) ?_ rfl HE.out;simp[results,Tryz.results76,go_sem,Z0.out,Z1.out,Z2.out]
set_option maxHeartbeats 2000000 in
theorem addPlus_any{k:Int}{wd:Wd}{v:Value}{x:Vt}(hx:AddF 50 x):AddG 75 ⟨k,wd,v,[x]⟩ (loopC (prtOf x.pt)) (leaves x.pt):=by
 intro S w mb kb ws ps F wv hS hm hf hv hl;obtain⟨ao,cap,hvv⟩:=hv.parts.1.slice;obtain⟨X,hX⟩:∃X,X=prtOf x.pt:=⟨_,rfl⟩
 rw[<- hX];dsimp only at hvv;subst hvv;have HV:=zA hv;obtain⟨g,off,rfl,hgS,hgl,hcell⟩:=hv.parts.1.get (j:=0) (x:=x) rfl;obtain⟨q0,q1,q2⟩:=getN hcell;rw[Nat.zero_mul,yJ]at q0 q1 q2;have hxv:=hv.parts.2.2.2 x (by simp);obtain⟨xa,xc,hxs⟩:=hxv.parts.1.slice;have HX:=zA hx;obtain⟨kk,kw,kv,kl⟩:=x;dsimp only at hxs q0 q1 q2;subst hxs;have hkl:=hxv.parts.2.2.1;dsimp only at hkl;obtain⟨W1,hW1⟩:∃W,W=(w.alloc (.cells #[.int .i64 k,.string ⟨wd.toArray⟩,.slice (some ⟨g,off,none⟩) 1 cap] 28)).alloc (.cells #[.int .u32 0,.int .u32 0,.bool false] 108):=⟨_,rfl⟩
 have hbW:Below w.heap.size w W1:=by rw[hW1];exact((zF _ _).alloc (zD _) _).alloc (by simp) _
 have hsz:W1.heap.size=w.heap.size+2:=by rw[hW1];simp
 have hcb:W1.heap[w.heap.size+1]?=some (.cells #[.int .u32 0,.int .u32 0,.bool false] 108 (0,0)):=by rw[hW1];exact(by simpa using heap_alloc_new (w.alloc (.cells #[.int .i64 k,.string ⟨wd.toArray⟩,.slice (some ⟨g,off,none⟩) 1 cap] 28)) _)
 have hLowP:Low (Plus S w.heap.size (w.heap.size+2)) W1:=by have:=hS.plus hbW.size;rw[hsz]at this;exact this
 have HM1:=zA (hm.plus hS hbW (w.heap.size+2));have hFrW:Fr S w W1:=fr_below hS hbW;have hkS:S kb:=hm.sk;have hkl2:kb<w.heap.size:=hS _ hkS;have C:=zA (HX.out (Plus S w.heap.size (w.heap.size+2)) W1 mb kb ws ps F wv hLowP HM1.out hf ((hxv.below hbW).sub (fun b hb _=>.inl hb)) hl);have HW1:=zA hW1;have HFW:=zA hFrW;have HCB:=zA hcb;have HSZ:=zA hsz;have HXX:=zA hX;have HLOW:=zA hS;have HSK:=zA hkS;rw[<- hX]at C;clear hv hm hf hl hxv hx hcell hbW hsz hcb hLowP hFrW hkS hkl2 hW1 hX HX hS;show Calls Tryz.prog _ #[_,.agg #[.int .i64 k,.string ⟨wd.toArray⟩,.slice (some ⟨g,off,none⟩) 1 cap]] w _;go_enter Tryz.func75,Tryz.ntmps75;go_wp2_with fail;rw[<- HW1.out];refine C.out.mono ?_;rintro e w1 ⟨f,l,F2,wv2,rfl,hb1,hb2,hm2,hf2,hfr2⟩;have e1:=(hfr2.block (w.heap.size+1) (.inr ⟨by omega,by omega⟩)).trans HCB.out;have hlt1:w.heap.size+1<w1.heap.size:=lt_of_block e1;have hLow1:Low (Plus S w.heap.size (w.heap.size+2)) w1:=Low.fr (w:=W1) (fun k hk=>by
  rcases hk with hk|hk
  . have:=HLOW.out k hk;have:=HFW.out.size;omega
  . have:=HSZ.out;omega) hfr2
 obtain⟨o3,ho3⟩:∃o,o=Obj.cells #[.int .u32 (f:Int),.int .u32 (l:Int),.bool X.empty] 108:=⟨_,rfl⟩
 have hm3:=(hm2.below hLow1 ((zF _ _).alloc (zD _) o3)).drew;have hfr3:=(hfr2.alloc (fun k hk=>by
  rcases hk with hk|hk
  . have:=HLOW.out k hk;have:=HFW.out.size;omega
  . have:=HSZ.out;omega) o3).drew
 have hb3:(w1.alloc o3).drew.heap[w1.heap.size]?=some o3:=heap_alloc_new w1 o3;have hmbn:mb≠w1.heap.size:=by have:=hm2.lt;omega
 have e3:(w1.alloc o3).drew.heap[w.heap.size+1]?=some (.cells #[.int .u32 0,.int .u32 0,.bool false] 108 (0,0)):=by
  show (w1.alloc o3).heap[w.heap.size+1]?=_;rw[heap_alloc_old _ _ hlt1];exact e1
 have hmb1:mb≠w.heap.size+1:=fun e=>hm2.no (.inr ⟨by omega,by omega⟩)
 have CL:=zA (link_any hm3.fol (fun i hi=>(hf2 i hi).1) l f hb2.1 hb1.1);have HM3:=zA hm3;have HFR3:=zA hfr3;have HB3:=zA hb3;have HB1:=zA hb1;have HB2:=zA hb2;have HF2:=zA hf2;have HE3:=zA e3;have HMN:=zA hmbn;have HMN1:=zA hmb1;have HO3:=zA ho3;have HLT1:=zA hlt1;obtain⟨em,hem⟩:∃b,b=X.empty:=⟨_,rfl⟩
 rw[<- hem]at HO3 ⊢;have HEM:=zA hem;rw[HO3.out]at CL;clear hem hm3 hfr3 hb3 hb1 hb2 hf2 e3 hmbn ho3 hm2 hfr2 hLow1 e1 hmb1 hlt1;go_wp2_with fail;go_region_law (go_simp;refine CL.out.mono ?_;rintro e w4 ⟨rfl,hfol4,hlk4⟩);all_goals (
  rw[<- HO3.out]at hlk4;have hm4:=HM3.out.link hlk4 hfol4;have hfr4:=HFR3.out.link hlk4 HM3.out.no;have hb4:=(hlk4.block w1.heap.size HMN.out.symm).trans HB3.out;have e4:=(hlk4.block (w.heap.size+1) HMN1.out.symm).trans HE3.out;rw[HO3.out]at hb4;obtain⟨⟨r0,r1,r2⟩,⟨f0,f1,f2⟩⟩:=three_cells e4;obtain⟨⟨s0,s1,s2⟩,_⟩:=three_cells hb4;obtain⟨hmF,hfF⟩:=add_end2 (b:=w.heap.size+1) (c0:=.int .u32 (f:Int)) (c1:=.int .u32 (l:Int)) (c2:=.bool em) HLOW.out HFW.out hfr4 hm4 HSK.out (by omega) (by omega);have hE:AddE S w mb kb ws ps (loopC X) (.returned (ptV f l em)) _:=⟨f,l,_,wv2,by rw[HEM.out];rfl,HB1.out,HB2.out,hmF,FolOf.congr (HF2.out.link HB2.out HB1.out) (fun p=>by rw[loopC,upP_append,cross_up,List.append_assoc]),hfF⟩
  obtain⟨⟨z0,z1,z2⟩,_⟩:=three_cells (set3P_at (c0:=.int .u32 (f:Int)) (c1:=.int .u32 (l:Int)) (c2:=.bool em) e4);have HE:=zA hE;have Z0:=zA z0;have Z1:=zA z1;have Z2:=zA z2;clear hE z0 z1 z2 hmF hfF hm4 hfr4 hb4 e4 hfol4 hlk4;unfold set3P at HE Z0 Z1 Z2;go_wp2;refine bodyPost_ret (v:=ptV f l em) ?_ rfl HE.out;simp[results,Tryz.results75,go_sem,Z0.out,Z1.out,Z2.out])
set_option maxHeartbeats 2000000 in
theorem addStar_any{k:Int}{wd:Wd}{v:Value}{x:Vt}(hx:AddF 50 x):AddG 74 ⟨k,wd,v,[x]⟩ (mayC2 (loopC (prtOf x.pt))) (leaves x.pt):=by
 intro S w mb kb ws ps F wv hS hm hf hv hl;obtain⟨ao,cap,hvv⟩:=hv.parts.1.slice;have hpl:=addPlus_any (k:=k) (wd:=wd) (v:=v) hx;obtain⟨X,hX⟩:∃X,X=loopC (prtOf x.pt):=⟨_,rfl⟩
 rw[<- hX]at hpl ⊢;dsimp only at hvv;subst hvv;simp only[yI,List.length_nil,Nat.zero_add]at hpl hv ⊢;obtain⟨W1,hW1⟩:∃W,W=(w.alloc (.cells #[.int .i64 k,.string ⟨wd.toArray⟩,.slice ao 1 cap] 28)).alloc (.cells #[.int .u32 0,.int .u32 0,.bool false] 108):=⟨_,rfl⟩
 have hbW:Below w.heap.size w W1:=by rw[hW1];exact((zF _ _).alloc (zD _) _).alloc (by simp) _
 have hsz:W1.heap.size=w.heap.size+2:=by rw[hW1];simp
 have hcb:W1.heap[w.heap.size+1]?=some (.cells #[.int .u32 0,.int .u32 0,.bool false] 108 (0,0)):=by rw[hW1];exact(by simpa using heap_alloc_new (w.alloc (.cells #[.int .i64 k,.string ⟨wd.toArray⟩,.slice ao 1 cap] 28)) _)
 have hLowP:Low (Plus S w.heap.size (w.heap.size+2)) W1:=by have:=hS.plus hbW.size;rw[hsz]at this;exact this
 have HM1:=zA (hm.plus hS hbW (w.heap.size+2));have hFrW:Fr S w W1:=fr_below hS hbW;have hkS:S kb:=hm.sk;have C:=zA (hpl (Plus S w.heap.size (w.heap.size+2)) W1 mb kb ws ps F wv hLowP HM1.out hf ((hv.below hbW).sub (fun b hb _=>.inl hb)) hl);have HW1:=zA hW1;have HFW:=zA hFrW;have HCB:=zA hcb;have HSZ:=zA hsz;have HLOW:=zA hS;have HSK:=zA hkS;clear hv hm hf hl hx hbW hsz hcb hLowP hFrW hkS hW1 hX hS hpl;show Calls Tryz.prog _ #[_,.agg #[.int .i64 k,.string ⟨wd.toArray⟩,.slice ao 1 cap]] w _;go_enter Tryz.func74,Tryz.ntmps74;go_wp2_with fail;rw[<- HW1.out];refine C.out.mono ?_;rintro e w1 ⟨f,l,F2,wv2,rfl,hb1,hb2,hm2,hf2,hfr2⟩;have e1:=(hfr2.block (w.heap.size+1) (.inr ⟨by omega,by omega⟩)).trans HCB.out;have hlt1:w.heap.size+1<w1.heap.size:=lt_of_block e1;obtain⟨⟨r0,r1,r2⟩,⟨f0,f1,f2⟩⟩:=three_cells e1;obtain⟨hmF,hfF⟩:=add_end (b:=w.heap.size+1) (c0:=.int .u32 (f:Int)) (c1:=.int .u32 (l:Int)) (c2:=.bool true) (.cells #[.int .u32 (f:Int),.int .u32 (l:Int),.bool true] 108) HLOW.out HSZ.out HFW.out hfr2 hm2 HSK.out (by omega) (by omega);have hE:AddE S w mb kb ws ps (mayC2 X) (.returned (ptV f l true)) _:=⟨f,l,F2,wv2,rfl,hb1,hb2,hmF,hf2,hfF⟩
 obtain⟨z0,z1,z2⟩:=end_cells (c0:=.int .u32 (f:Int)) (c1:=.int .u32 (l:Int)) (c2:=.bool true) (.cells #[.int .u32 (f:Int),.int .u32 (l:Int),.bool true] 108) e1;have HE:=zA hE;have Z0:=zA z0;have Z1:=zA z1;have Z2:=zA z2;clear hE z0 z1 z2 hb1 hb2 hm2 hf2 hfr2 e1 hmF hfF;unfold set3P at HE Z0 Z1 Z2;go_wp2;refine bodyPost_ret (v:=ptV f l true) ?_ rfl HE.out;simp[results,Tryz.results74,go_sem,Z0.out,Z1.out,Z2.out]
theorem infoStr:(Tryz.prog.info? 9).map (fun i=>(i.zero,i.size,i.bytes))=some (some (.string ⟨#[]⟩),1,16):=by kernel_rfl
theorem MkAt.grow{S:Nat->Prop}{w w9 w8:World}{mb kb:Nat}{ws:List Wd}{F:Nat->Nat}{wv wv9:Value}{u:Wd}(h:MkAt S w mb kb ws F wv)(hS:Low S w)(hg:w.grownBy w9 wv.ownBlock)(hown:w9.ownsRow 0 9 1 wv9 (ws++[u]).length ((ws++[u]).flatMap csT))(hat:∀g,wv9.ownBlock=some g->wv.ownBlock=some g\/w.heap.size<=g)(h8:w8=w9.setCell ⟨mb,0,none⟩ wv9):MkAt S w8 mb kb (ws++[u]) F wv9/\Fr S w w8:=by
 subst h8;have hmb:w9.heap[mb]?=w.heap[mb]?:=hg.block mb h.lt (fun e=>(h.rno mb e.symm).2 rfl);have hkb:w9.heap[kb]?=w.heap[kb]?:=hg.block kb (hS _ h.sk) (fun e=>(h.rno kb e.symm).1 h.sk);have hkm:kb≠mb:=fun e=>h.no (by rw[<- e];exact h.sk)
 have hr9:∀g,wv9.ownBlock=some g->¬S g/\g≠mb:=fun g hg9=>by
  rcases hat g hg9 with h1|h1
  . exact h.rno g h1
  . exact⟨fun e=>by have:=hS _ e;omega,by have:=h.lt;omega⟩
 have c09:w9.cell? ⟨mb,0,none⟩=some wv:=by have:=h.c0;simpa only[World.cell?,hmb]using this
 refine⟨⟨h.no,h.sk,?_,?_,?_,?_,?_,?_,?_,hr9⟩,?_⟩
 . have:=h.lt;have:=hg.size;simp;omega
 . rw[zL _ _ _ _ (by exact hkm),hkb];exact h.map
 . exact World.cell?_setCell_same _ _ _ c09
 . rw[World.frozen?_setCell];have:=h.f0;simpa only[World.frozen?,hmb]using this
 . rw[World.cell?_setCell_other _ _ _ _ (fun e=>by injection e with e1 e2;cases e2)];have:=h.c25;simpa only[World.cell?,hmb]using this
 . intro j hj;rw[World.cell?_setCell_other _ _ _ _ (fun e=>by injection e with e1 e2;omega),World.frozen?_setCell];exact(h.fol.keep hmb) j hj
 . exact owns_key hown (fun g o hg9 ho=>(zL _ _ _ _ (by exact (hr9 g hg9).2)).trans ho)
 . have hfr:Fr S w w9:=(Fr.refl S w).grown hS hg (fun g e=>(h.rno g e).1);exact hfr.setCell h.no _
theorem grown_at{w3 w9:World}{o:Obj}{row:Option Nat}{mb:Nat}(hg:(w3.alloc o).grownBy w9 row)(hlt:mb<w3.heap.size)(hne:row≠some mb):w9.heap[mb]?=w3.heap[mb]?:=by
 rw[hg.block mb (by simp;omega) (fun e=>hne e.symm),heap_alloc_old _ _ hlt]
theorem cell_of{w w':World}{b i:Nat}{v:Value}(h:w'.heap[b]?=w.heap[b]?)(hc:w.cell? ⟨b,i,none⟩=some v):w'.cell? ⟨b,i,none⟩=some v:=by simpa only[World.cell?,h]using hc
theorem froz_of{w w':World}{b i:Nat}(h:w'.heap[b]?=w.heap[b]?)(hc:w.frozen? ⟨b,i,none⟩=false):w'.frozen? ⟨b,i,none⟩=false:=by simpa only[World.frozen?,h]using hc
set_option maxHeartbeats 2000000 in
theorem addWord_any{k:Int}{wd:Wd}{v:Value}(hk:k=1)(hw16:wd.length<=1000):AddF 71 ⟨k,wd,v,[]⟩:=by
 intro S w mb kb ws ps F wv hS hm hf hv hl;obtain⟨i0,hi0,hz0,hz1,hz2⟩:=info_parts infoStr;obtain⟨ao,cap,hvv⟩:=hv.parts.1.slice;have hwl:=hv.parts.2.1;dsimp only at hvv hwl;subst hvv;rw[Vt.pt_mk,List.map_nil,leaves_mk,if_pos hk]at hl;rw[Vt.pt_mk,List.map_nil,prtOf_mk,kindC,if_pos hk];obtain⟨X,hX⟩:∃X:Prt,X=⟨[wd],[0],[0],[],false⟩:=⟨_,rfl⟩
 rw[<- hX];simp only[List.length_nil]at hv ⊢;obtain⟨wa,wc,hwv⟩:=own_slice hm.row;subst hwv;obtain⟨n,hn⟩:∃n,n=ws.length:=⟨_,rfl⟩
 obtain⟨W1,hW1⟩:∃W,W=(w.alloc (.cells #[.int .i64 k,.string ⟨wd.toArray⟩,.slice ao 0 cap] 28)).alloc (.cells #[.int .u32 0,.int .u32 0,.bool false] 108):=⟨_,rfl⟩
 have hbW:Below w.heap.size w W1:=by rw[hW1];exact((zF _ _).alloc (zD _) _).alloc (by simp) _
 have hsz:W1.heap.size=w.heap.size+2:=by rw[hW1];simp
 have hcb:W1.heap[w.heap.size+1]?=some (.cells #[.int .u32 0,.int .u32 0,.bool false] 108 (0,0)):=by rw[hW1];exact(by simpa using heap_alloc_new (w.alloc (.cells #[.int .i64 k,.string ⟨wd.toArray⟩,.slice ao 0 cap] 28)) _)
 have hLowP:Low (Plus S w.heap.size (w.heap.size+2)) W1:=by have:=hS.plus hbW.size;rw[hsz]at this;exact this
 have hm1:=hm.plus hS hbW (w.heap.size+2);have hFrW:Fr S w W1:=fr_below hS hbW;have hkS:S kb:=hm.sk;have hn24:n<24:=by omega
 have CO:=zA (fun u=>only_any n u hn24);have hlt:=hm.lt;have q0:=hm1.c0;have q1:=hm1.f0;have q0w:=hm.c0;rw[<- hn]at q0 q0w;obtain⟨q,hq⟩:∃q,q=2^n:=⟨_,rfl⟩
 rw[<- hq]at CO;have HQ:Hid (BitsOf q [n]):=zA (by rw[hq];exact BitsOf.one hn24);have HROW:=zA hm1.row;have HNE:Hid (∀u,(Value.slice wa u wc).ownBlock≠some mb):=zA (fun u e=>(hm1.rno mb (by cases wa<;>exact e)).2 rfl);have HM1:=zA hm1;have CC:=zA (clone_any ⟨wd.toArray⟩ W1.drew (by have:(ByteArray.mk wd.toArray).size=wd.length:=(by simp[ByteArray.size]);omega));have HW1:=zA hW1;have HFW:=zA hFrW;have HCB:=zA hcb;have HSZ:=zA hsz;have HLOW:=zA hS;have HLOWP:=zA hLowP;have HSK:=zA hkS;have HN:=zA hn;have HX:=zA hX;have HF:=zA hf;have hszm:mb<W1.heap.size:=hm1.lt;obtain⟨b0,b1,b2⟩:W1.cell? ⟨w.heap.size,0,none⟩=some (.int .i64 k)/\W1.cell? ⟨w.heap.size,1,none⟩=some (.string ⟨wd.toArray⟩)/\W1.cell? ⟨w.heap.size,2,none⟩=some (.slice ao 0 cap):=by rw[hW1];simp
 have HBX:=zA (And.intro b0 (And.intro b1 b2));rw[<- hn]at HROW;clear hv hm hf hl hbW hsz hcb hLowP hFrW hkS hW1 hX hS hm1 hq hn hk b0 b1 b2;show Calls Tryz.prog _ #[_,.agg #[.int .i64 k,.string ⟨wd.toArray⟩,.slice ao 0 cap]] w _;go_enter Tryz.func71,Tryz.ntmps71;go_wp2_with fail;rw[<- HW1.out];refine(CO.out _).mono ?_;rintro e w2 ⟨rfl,hw2⟩;subst hw2;clear q0w;obtain⟨b0,b1,b2⟩:=HBX.out;have hszw:w.heap.size<w2.heap.size:=by have:=HSZ.out;omega
 go_wp2_with fail;go_region_law (first
  |(go_simp;refine CC.out.mono ?_;rintro e w3 ⟨rfl,hb3⟩;have q03:=(hb3.cell (p:=⟨mb,0,none⟩) hszm).trans q0;have q13:=(hb3.frozen (p:=⟨mb,0,none⟩) hszm).trans q1;have hm3l:mb<w3.heap.size:=zO hszm hb3.size)
  |(refine step_append_lies _ (by rfl) _ _ _ (by rfl) 0 9 i0 _ 1 16 Tryz.underlying30 hi0 hz0 hz1 hz2 rfl (by decide) (.slice wa n wc) _ _ (by rfl) ((owns_below HROW.out.drew hb3).alloc _) ⟨w3.heap.size,0,none⟩ 1 1 (csT wd) (by rfl) (by rfl) (World.news_of_block (cs:=#[.string ⟨wd.toArray⟩]) (t:=9) (fr:=(0,0)) (heap_alloc_new w3 _)) (by simp[Value.oneCell']) (by decide) (by unfold maxLen;omega) (by omega) (by omega) (w3.heap.size+1) (by simp) ?_;intro gg cap2 w9 hown9 hgrow9 hat9 hlt9;have hh9:=grown_at hgrow9 (zO hszm hb3.size) (HNE.out _);have q09:=cell_of hh9 q03;have q19:=froz_of hh9 q13))
 all_goals (
  have hLD:Low (Plus S w.heap.size (w.heap.size+2)) w2.drew:=HLOWP.out;have hmA:=(HM1.out.drew.below hLD hb3).below (hLD.below hb3) ((zF w3.heap.size w3).alloc (zD _) (.cells #[.string ⟨wd.toArray⟩] 9));have hLA:Low (Plus S w.heap.size (w.heap.size+2)) (w3.alloc (.cells #[.string ⟨wd.toArray⟩] 9)):=fun k hk=>by have:=HLOWP.out k hk;have h2:w2.heap.size<=w3.heap.size:=hb3.size;simp;omega
  obtain⟨hm8,hf8⟩:=MkAt.grow (u:=wd) (wv9:=.slice (some ⟨gg,0,none⟩) (n+1) cap2) hmA hLA (by rw[<- HN.out];exact hgrow9) (by
   rw[zG,<- HN.out,zT];simpa using hown9) (fun g hg=>by
   have hgg:gg=g:=by simpa[Value.ownBlock]using hg
   subst hgg;rcases hat9 with h1|h1
   . left;rw[<- HN.out];exact h1
   . right;simp;omega) rfl
  have hfA:Fr (Plus S w.heap.size (w.heap.size+2)) w2 (w3.alloc (.cells #[.string ⟨wd.toArray⟩] 9)):=((Fr.refl _ w2).drew.next HLOWP.out hb3).alloc HLOWP.out _;have hfr8:=hfA.trans hf8;have e8:=(hfr8.block (w.heap.size+1) (.inr ⟨by omega,by omega⟩)).trans HCB.out;obtain⟨⟨r0,r1,r2⟩,⟨f0,f1,f2⟩⟩:=three_cells e8;obtain⟨hmF,hfF⟩:=add_end2 (b:=w.heap.size+1) (c0:=.int .u32 (q:Int)) (c1:=.int .u32 (q:Int)) (c2:=.bool false) HLOW.out HFW.out hfr8 hm8 HSK.out (by omega) (by omega);have hE:AddE S w mb kb ws ps X (.returned (ptV q q false)) (set3P (w9.setCell ⟨mb,0,none⟩ (.slice (some ⟨gg,0,none⟩) (n+1) cap2)) (w.heap.size+1) (.int .u32 (q:Int)) (.int .u32 (q:Int)) (.bool false)):=by
   rw[HX.out];exact⟨q,q,F,_,rfl,HQ.out.congr (fun k=>by rw[HN.out];simp[up]),HQ.out.congr (fun k=>by rw[HN.out];simp[up]),hmF,HF.out.congr (fun p=>by simp[upP]),hfF⟩
  obtain⟨⟨z0,z1,z2⟩,_⟩:=three_cells (set3P_at (c0:=.int .u32 (q:Int)) (c1:=.int .u32 (q:Int)) (c2:=.bool false) e8);have HE:=zA hE;have Z0:=zA z0;have Z1:=zA z1;have Z2:=zA z2;clear hE z0 z1 z2 hmF hfF hm8 hf8 hfr8 hfA hLA hmA hLD e8 hown9 hgrow9 hat9 hlt9 hh9 q09 q19 q03 q13;unfold set3P at HE Z0 Z1 Z2;obtain⟨w8,hw8⟩:∃W,W=w9.setCell ⟨mb,0,none⟩ (.slice (some ⟨gg,0,none⟩) (n+1) cap2):=⟨_,rfl⟩
  rw[<- hw8]at HE Z0 Z1 Z2 r0 r1 r2 f0 f1 f2 ⊢;clear hw8;go_wp2;refine bodyPost_ret (v:=ptV q q false) ?_ rfl HE.out;simp[results,Tryz.results71,go_sem,Z0.out,Z1.out,Z2.out])
def foldK(c:Prt->Prt->Prt)(e:Bool)(l:List Vt):Prt:=(l.map fun x=>prtOf x.pt).foldl c (prt0 e)
theorem foldK_succ{c:Prt->Prt->Prt}{e:Bool}{l:List Vt}{i:Nat}{x:Vt}(h:l[i]?=some x):foldK c e (l.take (i+1))=c (foldK c e (l.take i)) (prtOf x.pt):=by
 unfold foldK;rw[zU,h,yL,List.foldl_append];rfl
theorem foldK_words{c:Prt->Prt->Prt}(hc:∀x y,(c x y).words=x.words++y.words){e:Bool}(l:List Vt):(foldK c e l).words.length=(l.map fun x=>leaves x.pt).sum:=by
 unfold foldK;rw[fold_words hc];simp only[prt0,List.nil_append,List.length_flatten,List.map_map];congr 1;apply yQ;intro x _;exact prt_words_len x.pt
theorem leaves_take{l:List Vt}{i:Nat}{x:Vt}(h:l[i]?=some x):((l.take i).map fun x=>leaves x.pt).sum+leaves x.pt<=(l.map fun x=>leaves x.pt).sum:=by
 have:l.take i++(x::l.drop (i+1))=l:=by
  have h2:l.drop i=x::l.drop (i+1):=by
   rw[List.drop_eq_getElem_cons (zE.1 h).1];rw[(zE.1 h).2]
  rw[<- h2,List.take_append_drop]
 conv=>rhs;rw[<- this]
 rw[yL,List.sum_append,List.map_cons,List.sum_cons];omega
theorem round_end{S:Nat->Prop}{w W1 wr w1:World}{mb kb b hi:Nat}{ws:List Wd}{F:Nat->Nat}{wv c0 c1 c2:Value}(o ok:Obj)(hS:Low S w)(hsz:W1.heap.size=hi)(hb:b+1=hi)(hwb:w.heap.size<=b)(hFW:Fr S w W1)
 (hfr:Fr (Plus S w.heap.size b) W1 wr) (hfr1:Fr (Plus S w.heap.size hi) (wr.alloc ok) w1) (hm:MkAt (Plus S w.heap.size hi) w1 mb kb ws F wv) (hkb:S kb):
 MkAt (Plus S w.heap.size hi) ((set3P w1 b c0 c1 c2).alloc o) mb kb ws F wv/\Fr (Plus S w.heap.size b) W1 ((set3P w1 b c0 c1 c2).alloc o):=by
 have hk:=hS kb hkb;have hLowb:Low (Plus S w.heap.size b) W1:=fun k hk=>by
  rcases hk with hk|hk
  . have:=hS k hk;have:=hFW.size;omega
  . omega
 have hLow1:Low (Plus S w.heap.size hi) w1:=fun k hk=>by
  have h1:=hfr1.size;have h2:=hfr.size;simp at h1;rcases hk with hk|hk
  . have:=hS k hk;have:=hFW.size;omega
  . omega
 have hm2:=hm.set3P (b:=b) (.inr ⟨hwb,by omega⟩) (by omega) c0 c1 c2;have hz:(set3P w1 b c0 c1 c2).heap.size=w1.heap.size:=by simp[Go.Proofs.YtkbgmcmcpbegjabGreatDoor.set3P]
 refine⟨hm2.below (fun k hk=>by rw[hz];exact hLow1 k hk) ((zF _ _).alloc (zD _) o),?_⟩;refine Fr.alloc (Fr.set3P ((hfr.alloc hLowb ok).trans (hfr1.sub (fun k hk=>?_))) (fun h=>?_) c0 c1 c2) hLowb o
 . rcases hk with hk|hk
   . exact .inl hk
   . exact .inr ⟨hk.1,by omega⟩
 . rcases h with h|h
   . have:=hS _ h;omega
   . omega
set_option maxHeartbeats 4000000 in
theorem addAlt_any{k:Int}{wd:Wd}{v:Value}{kids:List Vt}(hx:∀x∈kids,AddF 50 x):AddG 73 ⟨k,wd,v,kids⟩ (foldK altC false kids) ((kids.map fun x=>leaves x.pt).sum):=by
 intro S w mb kb ws ps F wv hS hm hf hv hl;obtain⟨ao,cap,hvv⟩:=hv.parts.1.slice;have hkl:=hv.parts.2.2.1;dsimp only at hvv hkl;subst hvv;have HX:=zA hx;have HKIDS:=zA hv.parts.1;have HKV:=zA hv.parts.2.2.2;dsimp only at HKIDS HKV;obtain⟨n,hn⟩:∃n,n=kids.length:=⟨_,rfl⟩
 rw[<- hn]at HKIDS hkl ⊢;have HN:=zA hn;obtain⟨W1,hW1⟩:∃W,W=((w.alloc (.cells #[.int .i64 k,.string ⟨wd.toArray⟩,.slice ao n cap] 28)).alloc (.cells #[.int .u32 0,.int .u32 0,.bool false] 108)).alloc (.cells #[.int .u32 0,.int .u32 0,.bool false] 108):=⟨_,rfl⟩
 have hbW:Below w.heap.size w W1:=by rw[hW1];exact(((zF _ _).alloc (zD _) _).alloc (by simp) _).alloc (by simp;omega) _
 have hsz:W1.heap.size=w.heap.size+2+1:=by rw[hW1];simp
 have hcb1:W1.heap[w.heap.size+1]?=some (.cells #[.int .u32 0,.int .u32 0,.bool false] 108 (0,0)):=by
  rw[hW1,heap_alloc_old _ _ (by simp)];exact(by simpa using heap_alloc_new (w.alloc (.cells #[.int .i64 k,.string ⟨wd.toArray⟩,.slice ao n cap] 28)) _)
 have hcb2:W1.heap[w.heap.size+2]?=some (.cells #[.int .u32 0,.int .u32 0,.bool false] 108 (0,0)):=by
  rw[hW1];exact(by simpa using heap_alloc_new ((w.alloc (.cells #[.int .i64 k,.string ⟨wd.toArray⟩,.slice ao n cap] 28)).alloc (.cells #[.int .u32 0,.int .u32 0,.bool false] 108)) _)
 have HM1:=zA (hm.plus hS hbW (w.heap.size+2+1));have hFrW:Fr S w W1:=fr_below hS hbW;have HSUM:Hid (ws.length+(kids.map fun x=>leaves x.pt).sum<=24):=zA hl;have HSK:=zA hm.sk;have HW1:=zA hW1;have HFW:=zA hFrW;have HCB1:=zA hcb1;have HCB2:=zA hcb2;have HSZ:=zA hsz;have HLOW:=zA hS;have HF:=zA hf;obtain⟨R,hR⟩:∃R,R=foldK altC false kids:=⟨_,rfl⟩
 rw[<- hR];have HR:=zA hR;clear hv hm hf hl hx hbW hsz hcb1 hcb2 hFrW hW1 hS hn hR;show Calls Tryz.prog _ #[_,.agg #[.int .i64 k,.string ⟨wd.toArray⟩,.slice ao n cap]] w _;go_enter Tryz.func73,Tryz.ntmps73;go_wp2_with fail;rw[<- HW1.out];go_loopw [12] (fun c wr=>∃(i f l:Nat) (G:Nat->Nat) (wu:Value),i<=n/\c=.int .i64 i/\BitsOf f (up ws.length (foldK altC false (kids.take i)).first)/\BitsOf l (up ws.length (foldK altC false (kids.take i)).last)/\MkAt (Plus S w.heap.size (w.heap.size+2+1)) wr mb kb (ws++(foldK altC false (kids.take i)).words) G wu/\FolOf G (ps++upP ws.length (foldK altC false (kids.take i)).pairs)/\
  wr.heap[w.heap.size+2]?=some (.cells #[.int .u32 (f:Int),.int .u32 (l:Int),.bool (foldK altC false (kids.take i)).empty] 108 (0,0))/\Fr (Plus S w.heap.size (w.heap.size+2)) W1 wr) (fun c _=>n-(intOf c).toNat)
 case atStart=>
  refine⟨0,0,0,F,wv,zR _,rfl,?_,?_,?_,?_,?_,Fr.refl _ _⟩
  . exact BitsOf.none.congr (fun k=>by simp[foldK,prt0,up])
  . exact BitsOf.none.congr (fun k=>by simp[foldK,prt0,up])
  . simpa[foldK,prt0]using HM1.out
  . exact HF.out.congr (fun p=>by simp[foldK,prt0,upP])
  . exact HCB2.out
 case round=>
  obtain⟨i,f,l,G,wu,hi,rfl,hbf,hbl,hmk,hfo,hc2,hfr⟩:=hrel;obtain⟨X,hX⟩:∃X,X=foldK altC false (kids.take i):=⟨_,rfl⟩
  rw[<- hX]at hbf hbl hmk hfo hc2;have hXw:X.words.length=((kids.take i).map fun x=>leaves x.pt).sum:=by rw[hX];exact foldK_words (fun _ _=>rfl) _
  obtain⟨em,hem⟩:∃b,b=X.empty:=⟨_,rfl⟩
  rw[<- hem]at hc2;have HEM:=zA hem;have HXX:=zA hX;have HBF:=zA hbf;have HBL:=zA hbl;have HMK:=zA hmk;have HFO:=zA hfo;have HC2:=zA hc2;have HFR:=zA hfr;have HXW:=zA hXw;have HFS:Hid (Fr S w wr):=zA (HFW.out.trans (hfr.sub (fun k hk=>.inl hk)));clear hX hbf hbl hmk hfo hc2 hfr hXw hem;by_cases hlt:i<n
  . have hltI:(i:Int)<(n:Int):=by omega
    obtain⟨x,hx⟩:∃x,kids[i]?=some x:=⟨_,zB (by rw[<- HN.out];exact hlt)⟩
    have hxm:=zC hx;obtain⟨g,off,rfl,hgS,hgl,hcell⟩:=(HKIDS.out.fr HFS.out).get hx;obtain⟨q0,q1,q2⟩:=getN hcell;have hxv:=(HKV.out x hxm).fr HFS.out;obtain⟨xa,xc,hxs⟩:=hxv.parts.1.slice;have hsum:=leaves_take hx;have hstep:=foldK_succ (c:=altC) (e:=false) hx;have hadd:=HX.out x hxm;obtain⟨Y,hY⟩:∃Y,Y=prtOf x.pt:=⟨_,rfl⟩
    have hYw:Y.words.length=leaves x.pt:=by rw[hY];exact prt_words_len _
    have hkl2:=hxv.parts.2.2.1;have hszr:w.heap.size+2<wr.heap.size:=lt_of_block HC2.out;have hLr:Low (Plus S w.heap.size (w.heap.size+2+1)) wr:=fun k hk=>by
     rcases hk with hk|hk
     . have:=HLOW.out k hk;omega
     . omega
    obtain⟨ok,hok⟩:∃o,o=Obj.cells #[.int .i64 x.kind,.string ⟨x.word.toArray⟩,x.val] 28:=⟨_,rfl⟩
    have hC:=hadd (Plus S w.heap.size (w.heap.size+2+1)) (wr.alloc ok) mb kb (ws++X.words) (ps++upP ws.length X.pairs) G wu (fun k hk=>by have:=hLr k hk;simp;omega) (HMK.out.below hLr ((zF _ _).alloc (zD _) ok)) HFO.out ((hxv.below ((zF _ _).alloc (zD _) ok)).sub (fun b hb _=>.inl hb)) (by
     have h1:=HXW.out;have h2:=HSUM.out;rw[zG];omega)
    rw[<- hY]at hC hstep;obtain⟨kk,kw,kv,kks⟩:=x;dsimp only at hxs q0 q1 q2 hok hkl2;subst hxs;have C:=zA hC;rw[hok]at C;have HOK:=zA hok;have HSTEP:=zA hstep;have HLR:=zA hLr;clear hx hxm hcell hxv hsum hstep hadd hY hYw hC hok hLr;go_wp2_with fail;refine C.out.mono ?_;rintro e w1 ⟨f2,l2,F2,wv2,rfl,hb1,hb2,hm2,hf2,hfr2⟩;have e2:=(hfr2.block (w.heap.size+2) (.inr ⟨by omega,by omega⟩)).trans ((heap_alloc_old _ _ hszr).trans HC2.out);have hsz1:w.heap.size+2<w1.heap.size:=lt_of_block e2;obtain⟨⟨r0,r1,r2⟩,⟨p0,p1,p2⟩⟩:=three_cells e2;have ho1:bits .or .u32 (f:Int) (f2:Int)=((f ||| f2:Nat):Int):=u32_or_nat f f2 (by have:=HBF.out.1;omega) (by have:=hb1.1;omega);have ho2:bits .or .u32 (l:Int) (l2:Int)=((l ||| l2:Nat):Int):=u32_or_nat l l2 (by have:=HBL.out.1;omega) (by have:=hb2.1;omega);obtain⟨f3,hf3⟩:∃q,q=f ||| f2:=⟨_,rfl⟩
    obtain⟨l3,hl3⟩:∃q,q=l ||| l2:=⟨_,rfl⟩
    rw[<- hf3]at ho1;rw[<- hl3]at ho2;obtain⟨ey,hey⟩:∃b,b=Y.empty:=⟨_,rfl⟩
    rw[<- hey];have hEND:∀b,b=(em||ey)->(∃(f l:Nat) (G:Nat->Nat) (wu:Value),Value.int .u32 (f3:Int)=.int .u32 (f:Int)/\BitsOf f (up ws.length (foldK altC false (kids.take (i+1))).first)/\BitsOf l (up ws.length (foldK altC false (kids.take (i+1))).last)/\MkAt (Plus S w.heap.size (w.heap.size+2+1)) ((set3P w1 (w.heap.size+2) (.int .u32 (f3:Int)) (.int .u32 (l3:Int)) (.bool b)).alloc (.cells #[.int .u32 (f2:Int),.int .u32 (l2:Int),.bool ey] 108)) mb kb (ws++(foldK altC false (kids.take (i+1))).words) G wu/\FolOf G (ps++upP ws.length (foldK altC false (kids.take (i+1))).pairs)/\
     ((set3P w1 (w.heap.size+2) (.int .u32 (f3:Int)) (.int .u32 (l3:Int)) (.bool b)).alloc (.cells #[.int .u32 (f2:Int),.int .u32 (l2:Int),.bool ey] 108)).heap[w.heap.size+2]?=some (.cells #[.int .u32 (f:Int),.int .u32 (l:Int),.bool (foldK altC false (kids.take (i+1))).empty] 108 (0,0))/\Fr (Plus S w.heap.size (w.heap.size+2)) W1 ((set3P w1 (w.heap.size+2) (.int .u32 (f3:Int)) (.int .u32 (l3:Int)) (.bool b)).alloc (.cells #[.int .u32 (f2:Int),.int .u32 (l2:Int),.bool ey] 108))):=fun b hbe=>by
     obtain⟨hmE,hfE⟩:=round_end (c0:=.int .u32 (f3:Int)) (c1:=.int .u32 (l3:Int)) (c2:=.bool b) (.cells #[.int .u32 (f2:Int),.int .u32 (l2:Int),.bool ey] 108) _ HLOW.out HSZ.out rfl (by omega) HFW.out HFR.out hfr2 hm2 HSK.out;rw[HSTEP.out,<- HXX.out];refine⟨f3,l3,F2,wv2,rfl,?_,?_,?_,?_,?_,hfE⟩
     . rw[hf3];exact(HBF.out.or hb1).congr (fun k=>by rw[altC,up_append,up_up,zG])
     . rw[hl3];exact(HBL.out.or hb2).congr (fun k=>by rw[altC,up_append,up_up,zG])
     . rw[show (altC X Y).words=X.words++Y.words from rfl,<- List.append_assoc];exact hmE
     . exact hf2.congr (fun p=>by rw[altC,upP_append,upP_upP,zG,List.append_assoc])
     . have hz:(set3P w1 (w.heap.size+2) (.int .u32 (f3:Int)) (.int .u32 (l3:Int)) (.bool b)).heap.size=w1.heap.size:=by simp[set3P]
       rw[heap_alloc_old _ _ (by rw[hz];exact hsz1),hbe,HEM.out,hey];exact set3P_at e2
    have HEND:=zA hEND;clear hEND hb1 hb2 hm2 hf2 hfr2 e2 hf3 hl3 hey C;unfold set3P at HEND;cases em with
    |true=>
     go_wp2;go_roundw
     case rel=>
      obtain⟨f,l,G,wu,_,h1,h2,h3,h4,h5,h6⟩:=HEND.out true rfl;exact⟨i+1,f,l,G,wu,by omega,by go_num,h1,h2,h3,h4,h5,h6⟩
     case measure=>simp[intOf];omega
    |false=>
     go_wp2;go_roundw
     case rel=>
      obtain⟨f,l,G,wu,_,h1,h2,h3,h4,h5,h6⟩:=HEND.out ey (by simp);exact⟨i+1,f,l,G,wu,by omega,by go_num,h1,h2,h3,h4,h5,h6⟩
     case measure=>simp[intOf];omega
  . have hltI:¬(i:Int)<(n:Int):=by omega
    have HXR:Hid (X=R):=zA (by rw[HXX.out,HR.out,zK (by rw[<- HN.out];omega)]);have e1:=(HFR.out.block (w.heap.size+1) (.inr ⟨by omega,by omega⟩)).trans HCB1.out;obtain⟨⟨r0,r1,r2⟩,⟨p0,p1,p2⟩⟩:=three_cells e1;obtain⟨⟨s0,s1,s2⟩,_⟩:=three_cells HC2.out;obtain⟨hmF,hfF⟩:=add_end2 (b:=w.heap.size+1) (hi:=w.heap.size+2) (c0:=.int .u32 (f:Int)) (c1:=.int .u32 (l:Int)) (c2:=.bool em) HLOW.out HFW.out HFR.out (HMK.out.sub (fun k hk=>by
     rcases hk with hk|hk
     . exact .inl hk
     . exact .inr ⟨hk.1,by omega⟩) (.inl HSK.out)) HSK.out (by omega) (by omega)
    have hE:AddE S w mb kb ws ps R (.returned (ptV f l em)) (set3P wr (w.heap.size+1) (.int .u32 (f:Int)) (.int .u32 (l:Int)) (.bool em)):=by
     rw[<- HXR.out];exact⟨f,l,G,wu,by rw[HEM.out],HBF.out,HBL.out,hmF,HFO.out,hfF⟩
    obtain⟨⟨z0,z1,z2⟩,_⟩:=three_cells (set3P_at (c0:=.int .u32 (f:Int)) (c1:=.int .u32 (l:Int)) (c2:=.bool em) e1);have HE:=zA hE;have Z0:=zA z0;have Z1:=zA z1;have Z2:=zA z2;clear hE z0 z1 z2 hmF hfF e1;unfold set3P at HE Z0 Z1 Z2;go_wp2;refine bodyPost_ret (v:=ptV f l em) ?_ rfl HE.out;simp[results,Tryz.results73,go_sem,Z0.out,Z1.out,Z2.out]
end Go.Proofs.YtkbgmcmcpbegjabGreatDoor
