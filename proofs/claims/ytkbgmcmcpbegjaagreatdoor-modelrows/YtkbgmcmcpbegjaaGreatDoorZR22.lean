/- BMk, BAdd, BAddW, MOpen. -/
import Derived.Test.YtkbgmcmcpbegjaaGreatDoorZR11
import Derived.Test.YtkbgmcmcpbegjaaGreatDoorZR18
set_option maxRecDepth 100000
set_option maxHeartbeats 2000000
namespace Go.Proofs.YtkbgmcmcpbegjaaGreatDoor
open Go.RowKit
def jaA(s:Nat)(L:List Nat):Prop:=s<16777216/\∀k,s.testBit k=true↔k∈L
def jda(F:Nat->Nat)(ps:List (Nat×Nat)):Prop:=∀i,i<24->F i<16777216/\∀j,(F i).testBit j=true↔(i,j)∈ps
theorem jaA.congr{s:Nat}{L M:List Nat}(h:jaA s L)(hm:∀k,k∈L↔k∈M):jaA s M:=⟨h.1,fun k=>(h.2 k).trans (hm k)⟩
theorem jda.congr{F:Nat->Nat}{ps qs:List (Nat×Nat)}(h:jda F ps)(hm:∀p,p∈ps↔p∈qs):jda F qs:=fun i hi=>⟨(h i hi).1,fun j=>((h i hi).2 j).trans (hm _)⟩
theorem jaA.or{s t:Nat}{L M:List Nat}(h:jaA s L)(g:jaA t M):jaA (s ||| t) (L++M):=
 ⟨jek h.1 g.1,fun k=>by rw[Nat.testBit_or,Bool.or_eq_true,h.2,g.2,zL]⟩
theorem jaA.one{p:Nat}(hp:p<24):jaA (2^p) [p]:=⟨jb7 hp,fun k=>by
 rw[Nat.testBit_two_pow,decide_eq_true_eq,zK];exact⟨fun h=>h.symm,fun h=>h.symm⟩⟩
theorem jaA.none:jaA 0 []:=⟨by omega,fun k=>by simp⟩
def jeZ(F:Nat->Nat)(a b:Nat)(i:Nat):Nat:=if a.testBit i=true then F i ||| b else F i
theorem jda.link{F:Nat->Nat}{ps:List (Nat×Nat)}{a b:Nat}{A B:List Nat}(h:jda F ps)(ha:jaA a A)(hb:jaA b B):jda (jeZ F a b) (ps++je0 A B):=fun i hi=>by
 unfold jeZ;split
 . rename_i hbit;refine⟨jek (h i hi).1 hb.1,fun j=>?_⟩;rw[Nat.testBit_or,Bool.or_eq_true,(h i hi).2,hb.2,zL,jbl];simp[(ha.2 i).1 hbit]
 . rename_i hbit;refine⟨(h i hi).1,fun j=>?_⟩;rw[(h i hi).2,zL,jbl];constructor
   . exact .inl
   . rintro (h1|⟨h1,_⟩)
     . exact h1
     . exact absurd ((ha.2 i).2 h1) hbit
structure jeW (w w':World) (b o:Nat):Prop where
 os:w'.os=w.os
 tape:w'.tape=w.tape
 output:w'.output=w.output
 size:w'.heap.size=w.heap.size
 block:∀k,k≠b->w'.heap[k]?=w.heap[k]?
 cell:∀i,(i<o\/o+24<=i)->w'.cell? ⟨b,i,none⟩=w.cell? ⟨b,i,none⟩
 froz:∀i,w'.frozen? ⟨b,i,none⟩=w.frozen? ⟨b,i,none⟩
theorem jeW.refl(w:World)(b o:Nat):jeW w w b o:=⟨rfl,rfl,rfl,rfl,fun _ _=>rfl,fun _ _=>rfl,fun _=>rfl⟩
theorem jeW.set{w w':World}{b o i:Nat}(h:jeW w w' b o)(hi:i<24)(v:Value):jeW w (w'.setCell ⟨b,o+i,none⟩ v).drew b o:=
 ⟨h.os,h.tape,h.output,by simpa using h.size,fun k hk=>(zM w' ⟨b,o+i,none⟩ v k hk).trans (h.block k hk),fun j hj=>by
  show (w'.setCell ⟨b,o+i,none⟩ v).cell? ⟨b,j,none⟩=_;rw[World.cell?_setCell_other _ _ _ _ (fun e=>by injection e with e1 e2;omega)];exact h.cell j hj,fun j=>by
  show (w'.setCell ⟨b,o+i,none⟩ v).frozen? ⟨b,j,none⟩=_;rw[World.frozen?_setCell];exact h.froz j⟩
theorem jhX{w:World}{b o:Nat}{F:Nat->Nat}(h:jbH w b o F)(hF:∀i,i<24->F i<16777216)(x y:Nat)(hx:x<16777216)(hy:y<16777216):
 Calls Tryz.prog 104 #[.pointer (some ⟨b,o,none⟩),.int .u32 (x:Int),.int .u32 (y:Int)] w fun e w'=>e=.returned (.tuple #[])/\jbH w' b o (jeZ F x y)/\jeW w w' b o:=by
 have H:=zA h;have HF:=zA hF;clear h hF;go_enter Tryz.func104,Tryz.ntmps104;go_wp2_with fail;go_loopw [7] (fun c wr=>∃i:Nat,i<=24/\c=.int .i64 i/\jbH wr b o (fun j=>if j<i then jeZ F x y j else F j)/\jeW w wr b o) (fun c _=>24-(intOf c).toNat)
 case atStart=>exact⟨0,zO _,rfl,jbH.congr H.out (fun j _=>by simp),jeW.refl _ _ _⟩
 case round=>
  obtain⟨i,hi,rfl,ac,ah⟩:=hrel;have aa:=zA ac;have ad:=zA ah;clear ac ah;by_cases hlt:i<24
  . have ae:(i:Int)<24:=by omega
    obtain⟨q0,q1⟩:=aa.out i hlt;simp only[Nat.lt_irrefl,if_false]at q0;have ai:=HF.out i hlt;have C:=zA (fun wr=>jjn x i wr hx hlt);obtain⟨f,hf⟩:=eX (F i);rw[<- hf]at q0 ai;have aj:=zA hf;clear hf;cases hbit:x.testBit i with
    |true=>
     rw[hbit]at C;have hb:bits .or .u32 (f:Int) (y:Int)=((f ||| y:Nat):Int):=u32_or_nat f y (by omega) (by omega);have HS:Hid (jeZ F x y i=f ||| y):=zA (by rw[jeZ,if_pos hbit,aj.out]);have ab:Hid (jbH (wr.setCell ⟨b,o+i,none⟩ (.int .u32 ((f ||| y:Nat):Int))).drew b o (fun j=>if j<i+1 then jeZ F x y j else F j)):=zA (by
      have h1:=jbH.set (x:=f ||| y) aa.out hlt;refine jbH.congr h1 (fun j _=>?_);by_cases e:j=i
      . subst e;rw[if_pos rfl,if_pos (by omega),HS.out]
      . rw[if_neg e];by_cases e2:j<i
        . rw[if_pos e2,if_pos (by omega)]
        . rw[if_neg e2,if_neg (by omega)])
     have ag:=zA (ad.out.set hlt (.int .u32 ((f ||| y:Nat):Int)));obtain⟨fy,af⟩:=eX (f ||| y);rw[<- af]at hb ab ag;clear hbit af HS;go_wp2_with fail;refine(C.out _).mono ?_;rintro e w1 ⟨rfl,rfl⟩;go_wp2_with fail;go_region;go_wp2;go_roundw
     case rel=>exact⟨i+1,by omega,by go_num,ab.out,ag.out⟩
     case measure=>simp[intOf];omega
    |false=>
     rw[hbit]at C;have ab:Hid (jbH wr b o (fun j=>if j<i+1 then jeZ F x y j else F j)):=zA (by
      refine jbH.congr aa.out (fun j _=>?_);by_cases e:j=i
      . subst e;rw[if_neg (by omega),if_pos (by omega),jeZ,if_neg (by rw[hbit];decide)]
      . by_cases e2:j<i
        . rw[if_pos e2,if_pos (by omega)]
        . rw[if_neg e2,if_neg (by omega)])
     clear hbit;go_wp2_with fail;refine(C.out _).mono ?_;rintro e w1 ⟨rfl,rfl⟩;go_wp2;go_roundw
     case rel=>exact⟨i+1,by omega,by go_num,ab.out,ad.out⟩
     case measure=>simp[intOf];omega
  . have ae:¬(i:Int)<24:=by omega
    have ab:Hid (jbH wr b o (jeZ F x y)):=zA (jbH.congr aa.out (fun j hj=>by rw[if_pos (by omega)]));go_wp2;go_end0;exact⟨rfl,ab.out,ad.out⟩
structure MkAt (S:Nat->Prop) (w:World) (mb kb:Nat) (ws:List Wd) (F:Nat->Nat) (wv:Value):Prop where
 no:¬S mb
 sk:S kb
 lt:mb<w.heap.size
 map:w.heap[kb]?=some (.map (jfz mb) 6)
 c0:w.cell? ⟨mb,0,none⟩=some wv
 f0:w.frozen? ⟨mb,0,none⟩=false
 c25:w.cell? ⟨mb,25,none⟩=some (.map (some kb))
 fol:jbH w mb 1 F
 row:w.ownsRow 0 9 1 wv ws.length (ws.flatMap csT)
 rno:∀g,wv.ownBlock=some g->¬S g/\g≠mb
theorem MkAt.keep{S:Nat->Prop}{w w':World}{mb kb:Nat}{ws:List Wd}{F:Nat->Nat}{wv:Value}(h:MkAt S w mb kb ws F wv)(hz:w.heap.size<=w'.heap.size)(hb:w'.heap[mb]?=w.heap[mb]?)(hk:w'.heap[kb]?=w.heap[kb]?)(hr:∀g,wv.ownBlock=some g->w'.heap[g]?=w.heap[g]?):MkAt S w' mb kb ws F wv:=
 ⟨h.no,h.sk,zQ h.lt hz,hk.trans h.map,by have:=h.c0;simpa only[World.cell?,hb]using this,by have:=h.f0;simpa only[World.frozen?,hb]using this,by have:=h.c25;simpa only[World.cell?,hb]using this,h.fol.keep hb,jae h.row (fun g o hg ho=>(hr g hg).trans ho),h.rno⟩
theorem MkAt.below{S:Nat->Prop}{w w':World}{mb kb:Nat}{ws:List Wd}{F:Nat->Nat}{wv:Value}(h:MkAt S w mb kb ws F wv)(hS:Low S w)(hb:Below w.heap.size w w'):MkAt S w' mb kb ws F wv:=
 h.keep hb.size (hb.block _ h.lt) (hb.block _ (hS _ h.sk)) (fun g hg=>hb.block g (h.row.lt g hg).2)
theorem MkAt.setS{S:Nat->Prop}{w:World}{mb kb:Nat}{ws:List Wd}{F:Nat->Nat}{wv:Value}(h:MkAt S w mb kb ws F wv){b i:Nat}(hs:S b)(hk:b≠kb)(v:Value):MkAt S (w.setCell ⟨b,i,none⟩ v) mb kb ws F wv:=
 h.keep (by simp) (zM _ _ _ _ (fun e=>h.no (by rw[show mb=b from e];exact hs))) (zM _ _ _ _ (fun e=>hk (show kb=b from e).symm)) (fun g hg=>zM _ _ _ _ (fun e=>(h.rno g hg).1 (by rw[show g=b from e];exact hs)))
theorem MkAt.drew{S:Nat->Prop}{w:World}{mb kb:Nat}{ws:List Wd}{F:Nat->Nat}{wv:Value}(h:MkAt S w mb kb ws F wv):MkAt S w.drew mb kb ws F wv:=h.keep (zD _) rfl rfl (fun _ _=>rfl)
theorem MkAt.plus{S:Nat->Prop}{w w':World}{mb kb:Nat}{ws:List Wd}{F:Nat->Nat}{wv:Value}(h:MkAt S w mb kb ws F wv)(hS:Low S w)(hb:Below w.heap.size w w')(hi:Nat):MkAt (Plus S w.heap.size hi) w' mb kb ws F wv:=by
 have h2:=h.below hS hb;refine⟨?_,.inl h.sk,h2.lt,h2.map,h2.c0,h2.f0,h2.c25,h2.fol,h2.row,fun g hg=>⟨?_,(h.rno g hg).2⟩⟩
 . rintro (e|e)
   . exact h.no e
   . have:=h.lt;omega
 . rintro (e|e)
   . exact(h.rno g hg).1 e
   . have:=(h.row.lt g hg).2;omega
theorem MkAt.sub{S T:Nat->Prop}{w:World}{mb kb:Nat}{ws:List Wd}{F:Nat->Nat}{wv:Value}(h:MkAt S w mb kb ws F wv)(hs:∀k,T k->S k)(hk:T kb):MkAt T w mb kb ws F wv:=
 ⟨fun e=>h.no (hs _ e),hk,h.lt,h.map,h.c0,h.f0,h.c25,h.fol,h.row,fun g hg=>⟨fun e=>(h.rno g hg).1 (hs _ e),(h.rno g hg).2⟩⟩
theorem MkAt.link{S:Nat->Prop}{w w':World}{mb kb:Nat}{ws:List Wd}{F G:Nat->Nat}{wv:Value}(h:MkAt S w mb kb ws F wv)(hl:jeW w w' mb 1)(hf:jbH w' mb 1 G):MkAt S w' mb kb ws G wv:=
 ⟨h.no,h.sk,by rw[hl.size];exact h.lt,(hl.block kb (fun e=>h.no (by rw[<- e];exact h.sk))).trans h.map,(hl.cell 0 (by omega)).trans h.c0,(hl.froz 0).trans h.f0,(hl.cell 25 (by omega)).trans h.c25,hf,
  jae h.row (fun g o hg ho=>(hl.block g (h.rno g hg).2).trans ho),h.rno⟩
theorem Fr.link{S:Nat->Prop}{w w1 w':World}{b o:Nat}(h:Fr S w w1)(hl:jeW w1 w' b o)(hb:¬S b):Fr S w w':=
 ⟨hl.os.trans h.os,hl.tape.trans h.tape,hl.output.trans h.output,by rw[hl.size];exact h.size,fun k hk=>(hl.block k (fun e=>hb (by rw[<- e];exact hk))).trans (h.block k hk)⟩
theorem Fr.drew{S:Nat->Prop}{w w1:World}(h:Fr S w w1):Fr S w w1.drew:=⟨h.os,h.tape,h.output,h.size,h.block⟩
theorem jag{w:World}{b:Nat}{c0 c1 c2:Value}{t:TypeId}(h:w.heap[b]?=some (.cells #[c0,c1,c2] t (0,0))):
 (w.cell? ⟨b,0,none⟩=some c0/\w.cell? ⟨b,1,none⟩=some c1/\w.cell? ⟨b,2,none⟩=some c2)/\(w.frozen? ⟨b,0,none⟩=false/\w.frozen? ⟨b,1,none⟩=false/\w.frozen? ⟨b,2,none⟩=false):=by
 simp[World.cell?,World.frozen?,h]
def set3P(w:World)(b:Nat)(c0 c1 c2:Value):World:=((w.setCell ⟨b,0,none⟩ c0).setCell ⟨b,1,none⟩ c1).setCell ⟨b,2,none⟩ c2
theorem ja8{w:World}{b:Nat}{x y z c0 c1 c2:Value}{t:TypeId}(h:w.heap[b]?=some (.cells #[x,y,z] t (0,0))):(set3P w b c0 c1 c2).heap[b]?=some (.cells #[c0,c1,c2] t (0,0)):=by
 simp[set3P,World.setCell,Array.getElem?_modify,h]
theorem Fr.set3P{S:Nat->Prop}{w w':World}{b:Nat}(h:Fr S w w')(hb:¬S b)(c0 c1 c2:Value):Fr S w (set3P w' b c0 c1 c2):=((h.setCell hb c0).setCell hb c1).setCell hb c2
theorem MkAt.set3P{S:Nat->Prop}{w:World}{mb kb:Nat}{ws:List Wd}{F:Nat->Nat}{wv:Value}(h:MkAt S w mb kb ws F wv){b:Nat}(hs:S b)(hk:b≠kb)(c0 c1 c2:Value):MkAt S (set3P w b c0 c1 c2) mb kb ws F wv:=((h.setS hs hk c0).setS hs hk c1).setS hs hk c2
theorem Fr.alloc{S:Nat->Prop}{w w':World}(h:Fr S w w')(hS:Low S w)(o:Obj):Fr S w (w'.alloc o):=h.next hS ((zF _ _).alloc (zD _) o)
abbrev ptV(f l:Nat)(e:Bool):Value:=.agg #[.int .u32 (f:Int),.int .u32 (l:Int),.bool e]
def AddE(S:Nat->Prop)(w:World)(mb kb:Nat)(ws:List Wd)(ps:List (Nat×Nat))(x:Prt)(e:Ending)(w':World):Prop:=
 ∃f l F wv,e=.returned (ptV f l x.empty)/\jaA f (up ws.length x.first)/\jaA l (up ws.length x.last)/\MkAt S w' mb kb (ws++x.words) F wv/\jda F (ps++upP ws.length x.pairs)/\Fr S w w'
def AddG(fn:FuncId)(t:Vt)(X:Prt)(need:Nat):Prop:=∀(S:Nat->Prop) (w:World) (mb kb:Nat) (ws:List Wd) (ps:List (Nat×Nat)) (F:Nat->Nat) (wv:Value),Low S w->MkAt S w mb kb ws F wv->jda F ps->VOk S w t->ws.length+need<=24->
 Calls Tryz.prog fn #[.pointer (some ⟨mb,0,none⟩),encN t] w (AddE S w mb kb ws ps X)
def AddF(fn:FuncId)(t:Vt):Prop:=AddG fn t (jay t.pt) (jap t.pt)
theorem jjv{S:Nat->Prop}{w W1 w1:World}{mb kb b hi:Nat}{ws:List Wd}{F:Nat->Nat}{wv c0 c1 c2:Value}(o:Obj)(hS:Low S w)(hsz:W1.heap.size=hi)(hFW:Fr S w W1)(hfr:Fr (Plus S w.heap.size hi) W1 w1)(hm:MkAt (Plus S w.heap.size hi) w1 mb kb ws F wv)(hkb:S kb)(h1:w.heap.size<=b)(h2:b<hi):
 MkAt S ((set3P w1 b c0 c1 c2).alloc o) mb kb ws F wv/\Fr S w ((set3P w1 b c0 c1 c2).alloc o):=by
 have hk:=hS kb hkb;have aa:Low (Plus S w.heap.size hi) w1:=Low.fr (w:=W1) (fun k hk=>by
  rcases hk with hk|hk
  . have:=hS k hk;have:=hFW.size;omega
  . omega) hfr
 have ab:=hm.set3P (b:=b) (.inr ⟨h1,h2⟩) (by omega) c0 c1 c2;have hz:(set3P w1 b c0 c1 c2).heap.size=w1.heap.size:=by simp[Go.Proofs.YtkbgmcmcpbegjaaGreatDoor.set3P]
 refine⟨(ab.below (fun k hk=>by rw[hz];exact aa k hk) ((zF _ _).alloc (zD _) o)).sub (fun k hk=>.inl hk) hkb,?_⟩;exact Fr.alloc (Fr.set3P (hFW.trans (hfr.sub (fun k hk=>.inl hk))) (fun h=>by have:=hS _ h;omega) c0 c1 c2) hS o
theorem jbp{S:Nat->Prop}{w W1 w1:World}{mb kb b hi:Nat}{ws:List Wd}{F:Nat->Nat}{wv c0 c1 c2:Value}(hS:Low S w)(hFW:Fr S w W1)(hfr:Fr (Plus S w.heap.size hi) W1 w1)(hm:MkAt (Plus S w.heap.size hi) w1 mb kb ws F wv)(hkb:S kb)(h1:w.heap.size<=b)(h2:b<hi):
 MkAt S (set3P w1 b c0 c1 c2) mb kb ws F wv/\Fr S w (set3P w1 b c0 c1 c2):=by
 have hk:=hS kb hkb;exact⟨(hm.set3P (b:=b) (.inr ⟨h1,h2⟩) (by omega) c0 c1 c2).sub (fun k hk=>.inl hk) hkb,Fr.set3P (hFW.trans (hfr.sub (fun k hk=>.inl hk))) (fun h=>by have:=hS _ h;omega) c0 c1 c2⟩
theorem jg1{w1:World}{b:Nat}{x y z c0 c1 c2:Value}{t:TypeId}(o:Obj)(h:w1.heap[b]?=some (.cells #[x,y,z] t (0,0))):
 (((set3P w1 b c0 c1 c2).alloc o).cell? ⟨b,0,none⟩=some c0/\((set3P w1 b c0 c1 c2).alloc o).cell? ⟨b,1,none⟩=some c1/\((set3P w1 b c0 c1 c2).alloc o).cell? ⟨b,2,none⟩=some c2):=by
 have hz:(set3P w1 b c0 c1 c2).heap.size=w1.heap.size:=by simp[Go.Proofs.YtkbgmcmcpbegjaaGreatDoor.set3P]
 have h2:((set3P w1 b c0 c1 c2).alloc o).heap[b]?=some (.cells #[c0,c1,c2] t (0,0)):=by
  rw[heap_alloc_old _ _ (by rw[hz];exact lt_of_block h)];exact ja8 h
 exact(jag h2).1
theorem jhG{k:Int}{wd:Wd}{v:Value}{x:Vt}(h:k=4\/k=5\/k=6):jay (Vt.pt ⟨k,wd,v,[x]⟩)=if k=4 then jel (jdI (jay x.pt))else if k=5 then jdI (jay x.pt)else jel (jay x.pt):=by
 rw[Vt.pt_mk,jcC,List.map_cons,List.map_cons,List.map_nil,List.map_nil,jev];rcases h with rfl|rfl|rfl<;>simp[altC,prt0,up,upP]
theorem jdw{k:Int}{wd:Wd}{v:Value}{x:Vt}(h:k≠1):jap (Vt.pt ⟨k,wd,v,[x]⟩)=jap x.pt:=by
 rw[Vt.pt_mk,jaJ,if_neg h];simp
theorem jci(t:Pt):(jay t).words.length=jap t:=(jdc t).2
theorem jgq{k:Int}{wd:Wd}{v:Value}{x:Vt}(hx:AddF 53 x):AddG 86 ⟨k,wd,v,[x]⟩ (jel (jay x.pt)) (jap x.pt):=by
 intro S w mb kb ws ps F wv hS hm hf hv hl;obtain⟨ao,ah,ap⟩:=hv.parts.1.slice;obtain⟨X,hX⟩:=eX (jay x.pt);rw[<- hX];dsimp only at ap;subst ap;have HV:=zA hv;obtain⟨g,am,rfl,hgS,hgl,aa⟩:=hv.parts.1.get (j:=0) (x:=x) rfl;obtain⟨q0,q1,q2⟩:=getN aa;rw[Nat.zero_mul,yA]at q0 q1 q2;have ag:=hv.parts.2.2.2 x (by simp);obtain⟨xa,xc,ay⟩:=ag.parts.1.slice;have HX:=zA hx;obtain⟨kk,kw,kv,kl⟩:=x;dsimp only at ay q0 q1 q2;subst ay;have aG:=ag.parts.2.2.1;dsimp only at aG;obtain⟨W1,ae⟩:=eX ((w.alloc (.cells #[.int .i64 k,.string ⟨wd.toArray⟩,.slice (some ⟨g,am,none⟩) 1 ah] 25)).alloc (.cells #[.int .u32 0,.int .u32 0,.bool false] 103));have ad:Below w.heap.size w W1:=by rw[ae];exact((zF _ _).alloc (zD _) _).alloc (by simp) _
 have ai:W1.heap.size=w.heap.size+2:=by rw[ae];simp
 have av:W1.heap[w.heap.size+1]?=some (.cells #[.int .u32 0,.int .u32 0,.bool false] 103 (0,0)):=by rw[ae];exact(by simpa using heap_alloc_new (w.alloc (.cells #[.int .i64 k,.string ⟨wd.toArray⟩,.slice (some ⟨g,am,none⟩) 1 ah] 25)) _)
 have ab:Low (Plus S w.heap.size (w.heap.size+2)) W1:=by have:=hS.plus ad.size;rw[ai]at this;exact this
 have aA:=zA (hm.plus hS ad (w.heap.size+2));have af:Fr S w W1:=jaK hS ad;have aj:S kb:=hm.sk;have ak:kb<w.heap.size:=hS _ aj;have C:=zA (HX.out (Plus S w.heap.size (w.heap.size+2)) W1 mb kb ws ps F wv ab aA.out hf ((ag.below ad).sub (fun b hb _=>.inl hb)) hl);have aB:=zA ae;have az:=zA af;have aD:=zA av;have aC:=zA ai;have HXX:=zA hX;have al:=zA hS;have aF:=zA aj;rw[<- hX]at C;clear hv hm hf hl ag hx aa ad ai av ab af aj ak ae hX HX hS;show Calls Tryz.prog _ #[_,.agg #[.int .i64 k,.string ⟨wd.toArray⟩,.slice (some ⟨g,am,none⟩) 1 ah]] w _;go_enter Tryz.func86,Tryz.ntmps86;go_wp2_with fail;rw[<- aB.out];refine C.out.mono ?_;rintro e w1 ⟨f,l,F2,aE,rfl,an,ax,aw,aq,ac⟩;have e1:=(ac.block (w.heap.size+1) (.inr ⟨by omega,by omega⟩)).trans aD.out;have hlt1:w.heap.size+1<w1.heap.size:=lt_of_block e1;obtain⟨⟨r0,r1,r2⟩,⟨f0,f1,f2⟩⟩:=jag e1;obtain⟨ar,au⟩:=jjv (b:=w.heap.size+1) (c0:=.int .u32 (f:Int)) (c1:=.int .u32 (l:Int)) (c2:=.bool true) (.cells #[.int .u32 (f:Int),.int .u32 (l:Int),.bool true] 103) al.out aC.out az.out ac aw aF.out (by omega) (by omega);have hE:AddE S w mb kb ws ps (jel X) (.returned (ptV f l true)) _:=⟨f,l,F2,aE,rfl,an,ax,ar,aq,au⟩
 obtain⟨z0,z1,z2⟩:=jg1 (c0:=.int .u32 (f:Int)) (c1:=.int .u32 (l:Int)) (c2:=.bool true) (.cells #[.int .u32 (f:Int),.int .u32 (l:Int),.bool true] 103) e1;have HE:=zA hE;have Z0:=zA z0;have Z1:=zA z1;have Z2:=zA z2;clear hE z0 z1 z2 an ax aw aq ac e1 ar au;unfold set3P at HE Z0 Z1 Z2;go_wp2;refine bodyPost_ret (v:=ptV f l true) ?_ rfl HE.out;simp[results,Tryz.results86,go_sem,Z0.out,Z1.out,Z2.out]
theorem jeA{k:Int}{wd:Wd}{v:Value}{x:Vt}(hx:AddF 53 x):AddG 85 ⟨k,wd,v,[x]⟩ (jdI (jay x.pt)) (jap x.pt):=by
 intro S w mb kb ws ps F wv hS hm hf hv hl;obtain⟨ao,ay,aK⟩:=hv.parts.1.slice;obtain⟨X,hX⟩:=eX (jay x.pt);rw[<- hX];dsimp only at aK;subst aK;have HV:=zA hv;obtain⟨g,aG,rfl,hgS,hgl,ac⟩:=hv.parts.1.get (j:=0) (x:=x) rfl;obtain⟨q0,q1,q2⟩:=getN ac;rw[Nat.zero_mul,yA]at q0 q1 q2;have aq:=hv.parts.2.2.2 x (by simp);obtain⟨xa,xc,aU⟩:=aq.parts.1.slice;have HX:=zA hx;obtain⟨kk,kw,kv,kl⟩:=x;dsimp only at aU q0 q1 q2;subst aU;have a5:=aq.parts.2.2.1;dsimp only at a5;obtain⟨W1,am⟩:=eX ((w.alloc (.cells #[.int .i64 k,.string ⟨wd.toArray⟩,.slice (some ⟨g,aG,none⟩) 1 ay] 25)).alloc (.cells #[.int .u32 0,.int .u32 0,.bool false] 103));have ak:Below w.heap.size w W1:=by rw[am];exact((zF _ _).alloc (zD _) _).alloc (by simp) _
 have az:W1.heap.size=w.heap.size+2:=by rw[am];simp
 have aQ:W1.heap[w.heap.size+1]?=some (.cells #[.int .u32 0,.int .u32 0,.bool false] 103 (0,0)):=by rw[am];exact(by simpa using heap_alloc_new (w.alloc (.cells #[.int .i64 k,.string ⟨wd.toArray⟩,.slice (some ⟨g,aG,none⟩) 1 ay] 25)) _)
 have ad:Low (Plus S w.heap.size (w.heap.size+2)) W1:=by have:=hS.plus ak.size;rw[az]at this;exact this
 have aX:=zA (hm.plus hS ak (w.heap.size+2));have an:Fr S w W1:=jaK hS ak;have aA:S kb:=hm.sk;have aB:kb<w.heap.size:=hS _ aA;have C:=zA (HX.out (Plus S w.heap.size (w.heap.size+2)) W1 mb kb ws ps F wv ad aX.out hf ((aq.below ak).sub (fun b hb _=>.inl hb)) hl);have a0:=zA am;have aw:=zA an;have a2:=zA aQ;have aR:=zA az;have HXX:=zA hX;have ah:=zA hS;have a4:=zA aA;rw[<- hX]at C;clear hv hm hf hl aq hx ac ak az aQ ad an aA aB am hX HX hS;show Calls Tryz.prog _ #[_,.agg #[.int .i64 k,.string ⟨wd.toArray⟩,.slice (some ⟨g,aG,none⟩) 1 ay]] w _;go_enter Tryz.func85,Tryz.ntmps85;go_wp2_with fail;rw[<- a0.out];refine C.out.mono ?_;rintro e w1 ⟨f,l,F2,a3,rfl,av,aD,ar,ax,ab⟩;have e1:=(ab.block (w.heap.size+1) (.inr ⟨by omega,by omega⟩)).trans a2.out;have ag:w.heap.size+1<w1.heap.size:=lt_of_block e1;have ae:Low (Plus S w.heap.size (w.heap.size+2)) w1:=Low.fr (w:=W1) (fun k hk=>by
  rcases hk with hk|hk
  . have:=ah.out k hk;have:=aw.out.size;omega
  . have:=aR.out;omega) ab
 obtain⟨o3,aM⟩:=eX (Obj.cells #[.int .u32 (f:Int),.int .u32 (l:Int),.bool X.empty] 103);have aE:=(ar.below ae ((zF _ _).alloc (zD _) o3)).drew;have al:=(ab.alloc (fun k hk=>by
  rcases hk with hk|hk
  . have:=ah.out k hk;have:=aw.out.size;omega
  . have:=aR.out;omega) o3).drew
 have aP:(w1.alloc o3).drew.heap[w1.heap.size]?=some o3:=heap_alloc_new w1 o3;have aj:mb≠w1.heap.size:=by have:=ar.lt;omega
 have e3:(w1.alloc o3).drew.heap[w.heap.size+1]?=some (.cells #[.int .u32 0,.int .u32 0,.bool false] 103 (0,0)):=by
  show (w1.alloc o3).heap[w.heap.size+1]?=_;rw[heap_alloc_old _ _ ag];exact e1
 have ai:mb≠w.heap.size+1:=fun e=>ar.no (.inr ⟨by omega,by omega⟩)
 have CL:=zA (jhX aE.fol (fun i hi=>(ax i hi).1) l f aD.1 av.1);have aL:=zA aE;have aF:=zA al;have aW:=zA aP;have aT:=zA av;have aS:=zA aD;have aZ:=zA ax;have a1:=zA e3;have aV:=zA aj;have aH:=zA ai;have au:=zA aM;have HLT1:=zA ag;obtain⟨em,aC⟩:=eX X.empty;rw[<- aC]at au ⊢;have aY:=zA aC;rw[au.out]at CL;clear aC aE al aP av aD ax e3 aj aM ar ab ae e1 ai ag;go_wp2_with fail;go_region_law (go_simp;refine CL.out.mono ?_;rintro e w4 ⟨rfl,af,aa⟩);all_goals (
  rw[<- au.out]at aa;have aJ:=aL.out.link aa af;have ap:=aF.out.link aa aL.out.no;have aI:=(aa.block w1.heap.size aV.out.symm).trans aW.out;have e4:=(aa.block (w.heap.size+1) aH.out.symm).trans a1.out;rw[au.out]at aI;obtain⟨⟨r0,r1,r2⟩,⟨f0,f1,f2⟩⟩:=jag e4;obtain⟨⟨s0,s1,s2⟩,_⟩:=jag aI;obtain⟨aN,aO⟩:=jbp (b:=w.heap.size+1) (c0:=.int .u32 (f:Int)) (c1:=.int .u32 (l:Int)) (c2:=.bool em) ah.out aw.out ap aJ a4.out (by omega) (by omega);have hE:AddE S w mb kb ws ps (jdI X) (.returned (ptV f l em)) _:=⟨f,l,_,a3,by rw[aY.out];rfl,aT.out,aS.out,aN,jda.congr (aZ.out.link aS.out aT.out) (fun p=>by rw[jdI,jcy,jh4,List.append_assoc]),aO⟩
  obtain⟨⟨z0,z1,z2⟩,_⟩:=jag (ja8 (c0:=.int .u32 (f:Int)) (c1:=.int .u32 (l:Int)) (c2:=.bool em) e4);have HE:=zA hE;have Z0:=zA z0;have Z1:=zA z1;have Z2:=zA z2;clear hE z0 z1 z2 aN aO aJ ap aI e4 af aa;unfold set3P at HE Z0 Z1 Z2;go_wp2;refine bodyPost_ret (v:=ptV f l em) ?_ rfl HE.out;simp[results,Tryz.results85,go_sem,Z0.out,Z1.out,Z2.out])
theorem jhc{k:Int}{wd:Wd}{v:Value}{x:Vt}(hx:AddF 53 x):AddG 84 ⟨k,wd,v,[x]⟩ (jel (jdI (jay x.pt))) (jap x.pt):=by
 intro S w mb kb ws ps F wv hS hm hf hv hl;obtain⟨ao,ag,ak⟩:=hv.parts.1.slice;have af:=jeA (k:=k) (wd:=wd) (v:=v) hx;obtain⟨X,hX⟩:=eX (jdI (jay x.pt));rw[<- hX]at af ⊢;dsimp only at ak;subst ak;simp only[yI,List.length_nil,Nat.zero_add]at af hv ⊢;obtain⟨W1,ad⟩:=eX ((w.alloc (.cells #[.int .i64 k,.string ⟨wd.toArray⟩,.slice ao 1 ag] 25)).alloc (.cells #[.int .u32 0,.int .u32 0,.bool false] 103));have ac:Below w.heap.size w W1:=by rw[ad];exact((zF _ _).alloc (zD _) _).alloc (by simp) _
 have ah:W1.heap.size=w.heap.size+2:=by rw[ad];simp
 have aq:W1.heap[w.heap.size+1]?=some (.cells #[.int .u32 0,.int .u32 0,.bool false] 103 (0,0)):=by rw[ad];exact(by simpa using heap_alloc_new (w.alloc (.cells #[.int .i64 k,.string ⟨wd.toArray⟩,.slice ao 1 ag] 25)) _)
 have aa:Low (Plus S w.heap.size (w.heap.size+2)) W1:=by have:=hS.plus ac.size;rw[ah]at this;exact this
 have aw:=zA (hm.plus hS ac (w.heap.size+2));have ae:Fr S w W1:=jaK hS ac;have ap:S kb:=hm.sk;have C:=zA (af (Plus S w.heap.size (w.heap.size+2)) W1 mb kb ws ps F wv aa aw.out hf ((hv.below ac).sub (fun b hb _=>.inl hb)) hl);have ax:=zA ad;have av:=zA ae;have az:=zA aq;have ay:=zA ah;have ai:=zA hS;have aB:=zA ap;clear hv hm hf hl hx ac ah aq aa ae ap ad hX hS af;show Calls Tryz.prog _ #[_,.agg #[.int .i64 k,.string ⟨wd.toArray⟩,.slice ao 1 ag]] w _;go_enter Tryz.func84,Tryz.ntmps84;go_wp2_with fail;rw[<- ax.out];refine C.out.mono ?_;rintro e w1 ⟨f,l,F2,aA,rfl,aj,au,ar,al,ab⟩;have e1:=(ab.block (w.heap.size+1) (.inr ⟨by omega,by omega⟩)).trans az.out;have hlt1:w.heap.size+1<w1.heap.size:=lt_of_block e1;obtain⟨⟨r0,r1,r2⟩,⟨f0,f1,f2⟩⟩:=jag e1;obtain⟨am,an⟩:=jjv (b:=w.heap.size+1) (c0:=.int .u32 (f:Int)) (c1:=.int .u32 (l:Int)) (c2:=.bool true) (.cells #[.int .u32 (f:Int),.int .u32 (l:Int),.bool true] 103) ai.out ay.out av.out ab ar aB.out (by omega) (by omega);have hE:AddE S w mb kb ws ps (jel X) (.returned (ptV f l true)) _:=⟨f,l,F2,aA,rfl,aj,au,am,al,an⟩
 obtain⟨z0,z1,z2⟩:=jg1 (c0:=.int .u32 (f:Int)) (c1:=.int .u32 (l:Int)) (c2:=.bool true) (.cells #[.int .u32 (f:Int),.int .u32 (l:Int),.bool true] 103) e1;have HE:=zA hE;have Z0:=zA z0;have Z1:=zA z1;have Z2:=zA z2;clear hE z0 z1 z2 aj au ar al ab e1 am an;unfold set3P at HE Z0 Z1 Z2;go_wp2;refine bodyPost_ret (v:=ptV f l true) ?_ rfl HE.out;simp[results,Tryz.results84,go_sem,Z0.out,Z1.out,Z2.out]
theorem jlH:(Tryz.prog.info? 9).map (fun i=>(i.zero,i.size,i.bytes))=some (some (.string ⟨#[]⟩),1,16):=by kernel_rfl
theorem MkAt.grow{S:Nat->Prop}{w w9 w8:World}{mb kb:Nat}{ws:List Wd}{F:Nat->Nat}{wv wv9:Value}{u:Wd}(h:MkAt S w mb kb ws F wv)(hS:Low S w)(hg:w.grownBy w9 wv.ownBlock)(hown:w9.ownsRow 0 9 1 wv9 (ws++[u]).length ((ws++[u]).flatMap csT))(hat:∀g,wv9.ownBlock=some g->wv.ownBlock=some g\/w.heap.size<=g)(h8:w8=w9.setCell ⟨mb,0,none⟩ wv9):MkAt S w8 mb kb (ws++[u]) F wv9/\Fr S w w8:=by
 subst h8;have aa:w9.heap[mb]?=w.heap[mb]?:=hg.block mb h.lt (fun e=>(h.rno mb e.symm).2 rfl);have ae:w9.heap[kb]?=w.heap[kb]?:=hg.block kb (hS _ h.sk) (fun e=>(h.rno kb e.symm).1 h.sk);have ad:kb≠mb:=fun e=>h.no (by rw[<- e];exact h.sk)
 have ab:∀g,wv9.ownBlock=some g->¬S g/\g≠mb:=fun g hg9=>by
  rcases hat g hg9 with h1|h1
  . exact h.rno g h1
  . exact⟨fun e=>by have:=hS _ e;omega,by have:=h.lt;omega⟩
 have af:w9.cell? ⟨mb,0,none⟩=some wv:=by have:=h.c0;simpa only[World.cell?,aa]using this
 refine⟨⟨h.no,h.sk,?_,?_,?_,?_,?_,?_,?_,ab⟩,?_⟩
 . have:=h.lt;have:=hg.size;simp;omega
 . rw[zM _ _ _ _ (by exact ad),ae];exact h.map
 . exact World.cell?_setCell_same _ _ _ af
 . rw[World.frozen?_setCell];have:=h.f0;simpa only[World.frozen?,aa]using this
 . rw[World.cell?_setCell_other _ _ _ _ (fun e=>by injection e with e1 e2;cases e2)];have:=h.c25;simpa only[World.cell?,aa]using this
 . intro j hj;rw[World.cell?_setCell_other _ _ _ _ (fun e=>by injection e with e1 e2;omega),World.frozen?_setCell];exact(h.fol.keep aa) j hj
 . exact jae hown (fun g o hg9 ho=>(zM _ _ _ _ (by exact (ab g hg9).2)).trans ho)
 . have ac:Fr S w w9:=(Fr.refl S w).grown hS hg (fun g e=>(h.rno g e).1);exact ac.setCell h.no _
theorem jb9{w3 w9:World}{o:Obj}{row:Option Nat}{mb:Nat}(hg:(w3.alloc o).grownBy w9 row)(hlt:mb<w3.heap.size)(hne:row≠some mb):w9.heap[mb]?=w3.heap[mb]?:=by
 rw[hg.block mb (by simp;omega) (fun e=>hne e.symm),heap_alloc_old _ _ hlt]
theorem jfU{w w':World}{b i:Nat}{v:Value}(h:w'.heap[b]?=w.heap[b]?)(hc:w.cell? ⟨b,i,none⟩=some v):w'.cell? ⟨b,i,none⟩=some v:=by simpa only[World.cell?,h]using hc
theorem jf7{w w':World}{b i:Nat}(h:w'.heap[b]?=w.heap[b]?)(hc:w.frozen? ⟨b,i,none⟩=false):w'.frozen? ⟨b,i,none⟩=false:=by simpa only[World.frozen?,h]using hc
theorem jg5{k:Int}{wd:Wd}{v:Value}(hk:k=1)(hw16:wd.length<=1000):AddF 81 ⟨k,wd,v,[]⟩:=by
 intro S w mb kb ws ps F wv hS hm hf hv hl;obtain⟨i0,aX,aP,a2,aZ⟩:=info_parts jlH;obtain⟨ao,ap,ay⟩:=hv.parts.1.slice;have aW:=hv.parts.2.1;dsimp only at ay aW;subst ay;rw[Vt.pt_mk,List.map_nil,jaJ,if_pos hk]at hl;rw[Vt.pt_mk,List.map_nil,jcC,jev,if_pos hk];obtain⟨X,hX⟩:=eX (⟨[wd],[0],[0],[],false⟩:Prt);rw[<- hX];simp only[List.length_nil]at hv ⊢;obtain⟨wa,wc,a0⟩:=jab hm.row;subst a0;obtain⟨n,hn⟩:=eX ws.length;obtain⟨W1,aj⟩:=eX ((w.alloc (.cells #[.int .i64 k,.string ⟨wd.toArray⟩,.slice ao 0 ap] 25)).alloc (.cells #[.int .u32 0,.int .u32 0,.bool false] 103));have aq:Below w.heap.size w W1:=by rw[aj];exact((zF _ _).alloc (zD _) _).alloc (by simp) _
 have ar:W1.heap.size=w.heap.size+2:=by rw[aj];simp
 have aE:W1.heap[w.heap.size+1]?=some (.cells #[.int .u32 0,.int .u32 0,.bool false] 103 (0,0)):=by rw[aj];exact(by simpa using heap_alloc_new (w.alloc (.cells #[.int .i64 k,.string ⟨wd.toArray⟩,.slice ao 0 ap] 25)) _)
 have af:Low (Plus S w.heap.size (w.heap.size+2)) W1:=by have:=hS.plus aq.size;rw[ar]at this;exact this
 have ai:=hm.plus hS aq (w.heap.size+2);have an:Fr S w W1:=jaK hS aq;have aD:S kb:=hm.sk;have ak:n<24:=by omega
 have CO:=zA (fun u=>jhL n u ak);have hlt:=hm.lt;have q0:=ai.c0;have q1:=ai.f0;have aH:=hm.c0;rw[<- hn]at q0 aH;obtain⟨q,hq⟩:=eX (2^n);rw[<- hq]at CO;have HQ:Hid (jaA q [n]):=zA (by rw[hq];exact jaA.one ak);have am:=zA ai.row;have aO:Hid (∀u,(Value.slice wa u wc).ownBlock≠some mb):=zA (fun u e=>(ai.rno mb (by cases wa<;>exact e)).2 rfl);have aN:=zA ai;have CC:=zA (jc9 ⟨wd.toArray⟩ W1.drew (by have:(ByteArray.mk wd.toArray).size=wd.length:=(by simp[ByteArray.size]);omega));have aS:=zA aj;have aM:=zA an;have aV:=zA aE;have aU:=zA ar;have ax:=zA hS;have ab:=zA af;have a1:=zA aD;have HN:=zA hn;have HX:=zA hX;have HF:=zA hf;have ad:mb<W1.heap.size:=ai.lt;obtain⟨b0,b1,b2⟩:W1.cell? ⟨w.heap.size,0,none⟩=some (.int .i64 k)/\W1.cell? ⟨w.heap.size,1,none⟩=some (.string ⟨wd.toArray⟩)/\W1.cell? ⟨w.heap.size,2,none⟩=some (.slice ao 0 ap):=by rw[aj];simp
 have aT:=zA (And.intro b0 (And.intro b1 b2));rw[<- hn]at am;clear hv hm hf hl aq ar aE af an aD aj hX hS ai hq hn hk b0 b1 b2;show Calls Tryz.prog _ #[_,.agg #[.int .i64 k,.string ⟨wd.toArray⟩,.slice ao 0 ap]] w _;go_enter Tryz.func81,Tryz.ntmps81;go_wp2_with fail;rw[<- aS.out];refine(CO.out _).mono ?_;rintro e w2 ⟨rfl,aR⟩;subst aR;clear aH;obtain⟨b0,b1,b2⟩:=aT.out;have hszw:w.heap.size<w2.heap.size:=by have:=aU.out;omega
 go_wp2_with fail;go_region_law (first
  |(go_simp;refine CC.out.mono ?_;rintro e w3 ⟨rfl,ac⟩;have aJ:=(ac.cell (p:=⟨mb,0,none⟩) ad).trans q0;have aA:=(ac.frozen (p:=⟨mb,0,none⟩) ad).trans q1;have hm3l:mb<w3.heap.size:=zQ ad ac.size)
  |(refine step_append_lies _ (by rfl) _ _ _ (by rfl) 0 9 i0 _ 1 16 Tryz.underlying34 aX aP a2 aZ rfl (by decide) (.slice wa n wc) _ _ (by rfl) ((jao am.out.drew ac).alloc _) ⟨w3.heap.size,0,none⟩ 1 1 (csT wd) (by rfl) (by rfl) (World.news_of_block (cs:=#[.string ⟨wd.toArray⟩]) (t:=9) (fr:=(0,0)) (heap_alloc_new w3 _)) (by simp[Value.oneCell']) (by decide) (by unfold maxLen;omega) (by omega) (by omega) (w3.heap.size+1) (by simp) ?_;intro gg ah w9 ae aa al au;have av:=jb9 aa (zQ ad ac.size) (aO.out _);have a3:=jfU av aJ;have aY:=jf7 av aA))
 all_goals (
  have aw:Low (Plus S w.heap.size (w.heap.size+2)) w2.drew:=ab.out;have az:=(aN.out.drew.below aw ac).below (aw.below ac) ((zF w3.heap.size w3).alloc (zD _) (.cells #[.string ⟨wd.toArray⟩] 9));have aI:Low (Plus S w.heap.size (w.heap.size+2)) (w3.alloc (.cells #[.string ⟨wd.toArray⟩] 9)):=fun k hk=>by have:=ab.out k hk;have h2:w2.heap.size<=w3.heap.size:=ac.size;simp;omega
  obtain⟨aK,aF⟩:=MkAt.grow (u:=wd) (wv9:=.slice (some ⟨gg,0,none⟩) (n+1) ah) az aI (by rw[<- HN.out];exact aa) (by
   rw[zG,<- HN.out,zP];simpa using ae) (fun g hg=>by
   have aQ:gg=g:=by simpa[Value.ownBlock]using hg
   subst aQ;rcases al with h1|h1
   . left;rw[<- HN.out];exact h1
   . right;simp;omega) rfl
  have aG:Fr (Plus S w.heap.size (w.heap.size+2)) w2 (w3.alloc (.cells #[.string ⟨wd.toArray⟩] 9)):=((Fr.refl _ w2).drew.next ab.out ac).alloc ab.out _;have ag:=aG.trans aF;have e8:=(ag.block (w.heap.size+1) (.inr ⟨by omega,by omega⟩)).trans aV.out;obtain⟨⟨r0,r1,r2⟩,⟨f0,f1,f2⟩⟩:=jag e8;obtain⟨aB,aC⟩:=jbp (b:=w.heap.size+1) (c0:=.int .u32 (q:Int)) (c1:=.int .u32 (q:Int)) (c2:=.bool false) ax.out aM.out ag aK a1.out (by omega) (by omega);have hE:AddE S w mb kb ws ps X (.returned (ptV q q false)) (set3P (w9.setCell ⟨mb,0,none⟩ (.slice (some ⟨gg,0,none⟩) (n+1) ah)) (w.heap.size+1) (.int .u32 (q:Int)) (.int .u32 (q:Int)) (.bool false)):=by
   rw[HX.out];exact⟨q,q,F,_,rfl,HQ.out.congr (fun k=>by rw[HN.out];simp[up]),HQ.out.congr (fun k=>by rw[HN.out];simp[up]),aB,HF.out.congr (fun p=>by simp[upP]),aC⟩
  obtain⟨⟨z0,z1,z2⟩,_⟩:=jag (ja8 (c0:=.int .u32 (q:Int)) (c1:=.int .u32 (q:Int)) (c2:=.bool false) e8);have HE:=zA hE;have Z0:=zA z0;have Z1:=zA z1;have Z2:=zA z2;clear hE z0 z1 z2 aB aC aK aF ag aG aI az aw e8 ae aa al au av a3 aY aJ aA;unfold set3P at HE Z0 Z1 Z2;obtain⟨w8,aL⟩:=eX (w9.setCell ⟨mb,0,none⟩ (.slice (some ⟨gg,0,none⟩) (n+1) ah));rw[<- aL]at HE Z0 Z1 Z2 r0 r1 r2 f0 f1 f2 ⊢;clear aL;go_wp2;refine bodyPost_ret (v:=ptV q q false) ?_ rfl HE.out;simp[results,Tryz.results81,go_sem,Z0.out,Z1.out,Z2.out])
theorem jju:Tryz.prog.cellsOf 48=3:=by kernel_rfl
theorem jjl{H:Type}{enc:TypeId×Value->H}{W:World}{fuel:Nat}{cs:List Value}{x:DataW H×List MemPlace}
 (hf:DataW.trod enc Tryz.prog W 0 (fun _=>true) true fuel 48 cs=some x) (hw:∀m∈x.1.weights Tryz.prog 48,m<=reachBytes):∃t:Fa,cs=csF t/\t.1.length<=140737488351232/\t.2.1.length<=140737488351232/\t.2.2.length<=140737488351232:=by
 obtain⟨y0,y1,y2,n,hx,aa,h0,h1,h2⟩:=Go.Deep.trod_struct3 Tryz.underlying48 hf;rw[jju]at aa;obtain⟨c0,c1,c2,rfl⟩:∃c0 c1 c2,cs=[c0,c1,c2]:=by
  match cs,aa with
  |[c0,c1,c2],_=>exact⟨c0,c1,c2,rfl⟩
 simp only[jfG,List.drop_zero,List.drop_succ_cons,List.take_succ_cons,List.take_zero]at h0 h1 h2;obtain⟨s0,k0,e0,l0⟩:=DataW.trod_string Tryz.underlying9 h0;obtain⟨s1,k1,e1,l1⟩:=DataW.trod_string Tryz.underlying9 h1;obtain⟨s2,k2,e2,l2⟩:=DataW.trod_string Tryz.underlying9 h2;simp only[List.cons.injEq,and_true]at k0 k1 k2;subst k0 k1 k2;rw[hx]at hw;simp only[DataW.weights,Tryz.underlying48,List.map_cons,List.map_nil,DataW.weightsEach,List.append_nil]at hw;refine⟨(s0.data.toList,s1.data.toList,s2.data.toList),rfl,?_,?_,?_⟩
 . exact hw _ (by rw[e0];simp[DataW.weights])
 . exact hw _ (by rw[e1];simp[DataW.weights])
 . exact hw _ (by rw[e2];simp[DataW.weights])
theorem open_facts{H:Type}{enc:TypeId×Value->H}{W:World}{fuel:Nat}{v:Value}{x:DataW H×List MemPlace}
 (hf:DataW.trod enc Tryz.prog W 0 (fun _=>true) true fuel 22 [v]=some x) (hw:∀m∈x.1.weights Tryz.prog 22,m<=reachBytes):
 ∃L:List Fa,FasS (fun _=>True) W v L/\(∀t∈L,t.1.length<=140737488351232/\t.2.1.length<=140737488351232/\t.2.2.length<=140737488351232)/\L.length<=maxLen/\CapS v L.length:=
 jd0 (en:=csF) ([],[],[]) ji3 (by decide) Tryz.underlying22 jju (fun t=>t.1.length<=140737488351232/\t.2.1.length<=140737488351232/\t.2.2.length<=140737488351232) (fun _ cs y _ h hq=>jjl h hq) hf hw
def FinF(v:Value)(L:List Fa):Prop:=L.length<=9223372036854775807/\(∀t∈L,t.1.length<=140737488351232/\t.2.1.length<=140737488351232/\t.2.2.length<=140737488351232)/\CapS v L.length
theorem jgS{t el:TypeId}(ht:Tryz.prog.underlying t=some (.slice el)){H:Type}{enc:TypeId×Value->H}{W:World}{fuel:Nat}{v:Value}{x:DataW H×List MemPlace}
 (hf:DataW.trod enc Tryz.prog W 0 (fun _=>true) true fuel t [v]=some x) (hw:∀m∈x.1.weights Tryz.prog t,m<=reachBytes) {ao:Option Addr} {N c:Nat} (hv:v=.slice ao N c):N*Tryz.prog.bytesOf el<=reachBytes:=by
 subst hv;rcases Go.Deep.open_slice ht hf with⟨aa,_⟩|⟨a,len,cap,m,n,D,Pl,aa,_,hl,hm,hmm,hx,hcell⟩
 . simp only[List.cons.injEq,and_true]at aa;injection aa with _ h2 _;rw[h2,Nat.zero_mul];exact zO _
 . simp only[List.cons.injEq,and_true]at aa;injection aa with _ h2 _;subst h2;have h3:=hw ((((List.range N).map D).length+((List.range (m-N)).map fun j=>D (N+j)).length)*Tryz.prog.bytesOf el) (by
    rw[hx];simp only[DataW.weights,ht];exact zN ..)
   rw[zH,List.length_range]at h3;exact zT (Nat.mul_le_mul_right _ (Nat.le_add_right _ _)) h3
theorem jlv:Tryz.prog.bytesOf 55=96:=by kernel_rfl
theorem jlR:Tryz.prog.cellsOf 38=2:=by kernel_rfl
theorem jj9:Tryz.prog.cellsOf 55=7:=by kernel_rfl
theorem jlO:Tryz.prog.cellsOf 53=2:=by kernel_rfl
theorem jlE:Tryz.prog.cellsOf 36=1:=by kernel_rfl
theorem jlp:Tryz.prog.cellsOf 34=1:=by kernel_rfl
theorem jgp{H:Type}{enc:TypeId×Value->H}{W:World}{fuel:Nat}{c0 c1:Value}{x:DataW H×List MemPlace}
 (hf:DataW.trod enc Tryz.prog W 0 (fun _=>true) true fuel 53 [c0,c1]=some x) (hw:∀m∈x.1.weights Tryz.prog 53,m<=reachBytes):∃t:Tm,c0=.bool t.1/\c1=.string ⟨t.2.toArray⟩/\t.2.length<=140737488351232:=by
 obtain⟨y0,y1,n,hx,hlen,h0,h1⟩:=Go.ChangeShapes.trod_struct2 Tryz.underlying53 hf;simp only[jll,jfG,List.drop_zero,List.drop_succ_cons,List.take_succ_cons,List.take_zero]at h0 h1;obtain⟨g,k0,_⟩:=DataW.trod_bool Tryz.underlying4 h0;obtain⟨s1,k1,e1,l1⟩:=DataW.trod_string Tryz.underlying9 h1;simp only[List.cons.injEq,and_true]at k0 k1;subst k0 k1;rw[hx]at hw;simp only[DataW.weights,Tryz.underlying53,List.map_cons,List.map_nil,DataW.weightsEach,List.append_nil]at hw;refine⟨(g,s1.data.toList),rfl,rfl,?_⟩;exact hw _ (by rw[e1];simp[DataW.weights])
theorem jjI{H:Type}{enc:TypeId×Value->H}{W:World}{fuel:Nat}{cs:List Value}{x:DataW H×List MemPlace}
 (hf:DataW.trod enc Tryz.prog W 0 (fun _=>true) true fuel 55 cs=some x) (hw:∀m∈x.1.weights Tryz.prog 55,m<=reachBytes):∃a:Am,cs=csA a/\VOk (fun _=>True) W a.2.1/\jlU a:=by
 obtain⟨y0,y1,y2,n,hx,aa,h0,h1,h2⟩:=Go.Deep.trod_struct3 Tryz.underlying55 hf;rw[jj9]at aa;obtain⟨c0,c1,c2,c3,c4,c5,c6,rfl⟩:∃c0 c1 c2 c3 c4 c5 c6,cs=[c0,c1,c2,c3,c4,c5,c6]:=by
  match cs,aa with
  |[c0,c1,c2,c3,c4,c5,c6],_=>exact⟨c0,c1,c2,c3,c4,c5,c6,rfl⟩
 simp only[jlO,jhm,List.drop_zero,List.drop_succ_cons,List.take_succ_cons,List.take_zero]at h0 h1 h2;rw[hx]at hw;simp only[DataW.weights,Tryz.underlying55,List.map_cons,List.map_nil,DataW.weightsEach,List.append_nil]at hw;obtain⟨t0,e0,e1,l0⟩:=jgp h0 (fun m hm=>hw m (by simp[hm]));obtain⟨p,e2,hp⟩:=ji6 h1 (fun m hm=>hw m (by simp[hm]));obtain⟨t2,e3,e4,l2⟩:=jgp h2 (fun m hm=>hw m (by simp[hm]));simp only[csN,List.cons.injEq,and_true]at e2;obtain⟨e5,e6,e7⟩:=e2;exact⟨(t0,p,t2),by rw[e0,e1,e3,e4,e5,e6,e7],hp,l0,l2⟩
theorem open_query{H:Type}{enc:TypeId×Value->H}{W:World}{fuel:Nat}{cs:List Value}{x:DataW H×List MemPlace}
 (hf:DataW.trod enc Tryz.prog W 0 (fun _=>true) true fuel 38 cs=some x) (hw:∀m∈x.1.weights Tryz.prog 38,m<=reachBytes):∃q:Qm,cs=[q.vv,q.av]/\QOk (fun _=>True) W q/\CapS q.av q.atoms.length/\q.atoms.length<=1500000000000:=by
 obtain⟨y0,y1,n,hx,aa,h0,h1⟩:=Go.ChangeShapes.trod_struct2 Tryz.underlying38 hf;rw[jlR]at aa;obtain⟨c0,c1,rfl⟩:∃c0 c1,cs=[c0,c1]:=by
  match cs,aa with
  |[c0,c1],_=>exact⟨c0,c1,rfl⟩
 simp only[jlp,jlE,List.drop_zero,List.drop_succ_cons,List.take_succ_cons,List.take_zero]at h0 h1;rw[hx]at hw;simp only[DataW.weights,Tryz.underlying38,List.map_cons,List.map_nil,DataW.weightsEach,List.append_nil]at hw;obtain⟨vs,v1,v2,v3,v4⟩:=jjA h0 (fun m hm=>hw m (by simp[hm]));obtain⟨al,a1,a2,a3,a4⟩:=jd0 (en:=csA) ((false,[]),⟨0,[],.slice none 0 0,[]⟩,(false,[])) jj2 (by decide) Tryz.underlying36 jj9 (fun a=>VOk (fun _=>True) W a.2.1/\jlU a) (fun _ cs y _ h hq=>jjI h hq) h1 (fun m hm=>hw m (by simp[hm]));obtain⟨wa,wc,ac⟩:=a1.slice;have ab:=jgS Tryz.underlying36 h1 (fun m hm=>hw m (by simp[hm])) ac;rw[jlv]at ab;exact⟨⟨c0,vs,c1,al⟩,rfl,⟨v1,v2,v3,v4,a1,fun a ha=>(a2 a ha).1,fun a ha=>(a2 a ha).2,a3⟩,a4,by unfold reachBytes at ab;show al.length<=_;omega⟩
end Go.Proofs.YtkbgmcmcpbegjaaGreatDoor
