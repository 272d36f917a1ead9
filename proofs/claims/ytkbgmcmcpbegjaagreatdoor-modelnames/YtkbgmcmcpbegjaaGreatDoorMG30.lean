/- BAdd, BAddW, BAddA, BAddS, BAddT, BAddI, BAuto. -/
import Derived.Test.YtkbgmcmcpbegjaaGreatDoorMG20
set_option maxRecDepth 100000
namespace Go.Proofs.YtkbgmcmcpbegjaaGreatDoor
open Go.RowKit
theorem three_cells{w:World}{b:Nat}{c0 c1 c2:Value}{t:TypeId}(h:w.heap[b]?=some (.cells #[c0,c1,c2] t (0,0))):
 (w.cell? ⟨b,0,none⟩=some c0/\w.cell? ⟨b,1,none⟩=some c1/\w.cell? ⟨b,2,none⟩=some c2)/\(w.frozen? ⟨b,0,none⟩=false/\w.frozen? ⟨b,1,none⟩=false/\w.frozen? ⟨b,2,none⟩=false):=by
 simp[World.cell?,World.frozen?,h]
def set3P(w:World)(b:Nat)(c0 c1 c2:Value):World:=((w.setCell ⟨b,0,none⟩ c0).setCell ⟨b,1,none⟩ c1).setCell ⟨b,2,none⟩ c2
theorem set3P_at{w:World}{b:Nat}{x y z c0 c1 c2:Value}{t:TypeId}(h:w.heap[b]?=some (.cells #[x,y,z] t (0,0))):(set3P w b c0 c1 c2).heap[b]?=some (.cells #[c0,c1,c2] t (0,0)):=by
 simp[set3P,World.setCell,Array.getElem?_modify,h]
theorem Fr.set3P{S:Nat->Prop}{w w':World}{b:Nat}(h:Fr S w w')(hb:¬S b)(c0 c1 c2:Value):Fr S w (set3P w' b c0 c1 c2):=((h.setCell hb c0).setCell hb c1).setCell hb c2
theorem MkAt.set3P{S:Nat->Prop}{w:World}{mb kb:Nat}{ws:List Wd}{F:Nat->Nat}{wv:Value}(h:MkAt S w mb kb ws F wv){b:Nat}(hs:S b)(hk:b≠kb)(c0 c1 c2:Value):MkAt S (set3P w b c0 c1 c2) mb kb ws F wv:=((h.setS hs hk c0).setS hs hk c1).setS hs hk c2
theorem Fr.alloc{S:Nat->Prop}{w w':World}(h:Fr S w w')(hS:Low S w)(o:Obj):Fr S w (w'.alloc o):=h.next hS ((zE _ _).alloc (zD _) o)
abbrev ptV(f l:Nat)(e:Bool):Value:=.agg #[.int .u32 (f:Int),.int .u32 (l:Int),.bool e]
def AddE(S:Nat->Prop)(w:World)(mb kb:Nat)(ws:List Wd)(ps:List (Nat×Nat))(x:Prt)(e:Ending)(w':World):Prop:=
 ∃f l F wv,e=.returned (ptV f l x.empty)/\BitsOf f (up ws.length x.first)/\BitsOf l (up ws.length x.last)/\MkAt S w' mb kb (ws++x.words) F wv/\FolOf F (ps++upP ws.length x.pairs)/\Fr S w w'
def AddG(fn:FuncId)(t:Vt)(X:Prt)(need:Nat):Prop:=∀(S:Nat->Prop) (w:World) (mb kb:Nat) (ws:List Wd) (ps:List (Nat×Nat)) (F:Nat->Nat) (wv:Value),Low S w->MkAt S w mb kb ws F wv->FolOf F ps->VOk S w t->ws.length+need<=24->
 Calls Tryz.prog fn #[.pointer (some ⟨mb,0,none⟩),encN t] w (AddE S w mb kb ws ps X)
def AddF(fn:FuncId)(t:Vt):Prop:=AddG fn t (prtOf t.pt) (leaves t.pt)
theorem add_end{S:Nat->Prop}{w W1 w1:World}{mb kb b hi:Nat}{ws:List Wd}{F:Nat->Nat}{wv c0 c1 c2:Value}(o:Obj)(hS:Low S w)(hsz:W1.heap.size=hi)(hFW:Fr S w W1)(hfr:Fr (Plus S w.heap.size hi) W1 w1)(hm:MkAt (Plus S w.heap.size hi) w1 mb kb ws F wv)(hkb:S kb)(h1:w.heap.size<=b)(h2:b<hi):
 MkAt S ((set3P w1 b c0 c1 c2).alloc o) mb kb ws F wv/\Fr S w ((set3P w1 b c0 c1 c2).alloc o):=by
 have hk:=hS kb hkb;have hLow:Low (Plus S w.heap.size hi) w1:=Low.fr (w:=W1) (fun k hk=>by
  rcases hk with hk|hk
  . have:=hS k hk;have:=hFW.size;omega
  . omega) hfr
 have hm2:=hm.set3P (b:=b) (.inr ⟨h1,h2⟩) (by omega) c0 c1 c2;have hz:(set3P w1 b c0 c1 c2).heap.size=w1.heap.size:=by simp[Go.Proofs.YtkbgmcmcpbegjaaGreatDoor.set3P]
 refine⟨(hm2.below (fun k hk=>by rw[hz];exact hLow k hk) ((zE _ _).alloc (zD _) o)).sub (fun k hk=>.inl hk) hkb,?_⟩;exact Fr.alloc (Fr.set3P (hFW.trans (hfr.sub (fun k hk=>.inl hk))) (fun h=>by have:=hS _ h;omega) c0 c1 c2) hS o
theorem add_end2{S:Nat->Prop}{w W1 w1:World}{mb kb b hi:Nat}{ws:List Wd}{F:Nat->Nat}{wv c0 c1 c2:Value}(hS:Low S w)(hFW:Fr S w W1)(hfr:Fr (Plus S w.heap.size hi) W1 w1)(hm:MkAt (Plus S w.heap.size hi) w1 mb kb ws F wv)(hkb:S kb)(h1:w.heap.size<=b)(h2:b<hi):
 MkAt S (set3P w1 b c0 c1 c2) mb kb ws F wv/\Fr S w (set3P w1 b c0 c1 c2):=by
 have hk:=hS kb hkb;exact⟨(hm.set3P (b:=b) (.inr ⟨h1,h2⟩) (by omega) c0 c1 c2).sub (fun k hk=>.inl hk) hkb,Fr.set3P (hFW.trans (hfr.sub (fun k hk=>.inl hk))) (fun h=>by have:=hS _ h;omega) c0 c1 c2⟩
theorem end_cells{w1:World}{b:Nat}{x y z c0 c1 c2:Value}{t:TypeId}(o:Obj)(h:w1.heap[b]?=some (.cells #[x,y,z] t (0,0))):
 (((set3P w1 b c0 c1 c2).alloc o).cell? ⟨b,0,none⟩=some c0/\((set3P w1 b c0 c1 c2).alloc o).cell? ⟨b,1,none⟩=some c1/\((set3P w1 b c0 c1 c2).alloc o).cell? ⟨b,2,none⟩=some c2):=by
 have hz:(set3P w1 b c0 c1 c2).heap.size=w1.heap.size:=by simp[Go.Proofs.YtkbgmcmcpbegjaaGreatDoor.set3P]
 have h2:((set3P w1 b c0 c1 c2).alloc o).heap[b]?=some (.cells #[c0,c1,c2] t (0,0)):=by
  rw[heap_alloc_old _ _ (by rw[hz];exact lt_of_block h)];exact set3P_at h
 exact(three_cells h2).1
theorem prt_one{k:Int}{wd:Wd}{v:Value}{x:Vt}(h:k=4\/k=5\/k=6):prtOf (Vt.pt ⟨k,wd,v,[x]⟩)=if k=4 then mayC2 (loopC (prtOf x.pt))else if k=5 then loopC (prtOf x.pt)else mayC2 (prtOf x.pt):=by
 rw[Vt.pt_mk,prtOf_mk,List.map_cons,List.map_cons,List.map_nil,List.map_nil,kindC];rcases h with rfl|rfl|rfl<;>simp[altC,prt0,up,upP]
theorem leaves_one{k:Int}{wd:Wd}{v:Value}{x:Vt}(h:k≠1):leaves (Vt.pt ⟨k,wd,v,[x]⟩)=leaves x.pt:=by
 rw[Vt.pt_mk,leaves_mk,if_neg h];simp
theorem prt_words_len(t:Pt):(prtOf t).words.length=leaves t:=(prt_words t).2
set_option maxHeartbeats 2000000 in
theorem addMaybe_any{k:Int}{wd:Wd}{v:Value}{x:Vt}(hx:AddF 53 x):AddG 86 ⟨k,wd,v,[x]⟩ (mayC2 (prtOf x.pt)) (leaves x.pt):=by
 intro S w mb kb ws ps F wv hS hm hf hv hl;obtain⟨ao,cap,hvv⟩:=hv.parts.1.slice;obtain⟨X,hX⟩:∃X,X=prtOf x.pt:=⟨_,rfl⟩
 rw[<- hX];dsimp only at hvv;subst hvv;have HV:=zA hv;obtain⟨g,off,rfl,hgS,hgl,hcell⟩:=hv.parts.1.get (j:=0) (x:=x) rfl;obtain⟨q0,q1,q2⟩:=getN hcell;rw[Nat.zero_mul,yA]at q0 q1 q2;have hxv:=hv.parts.2.2.2 x (by simp);obtain⟨xa,xc,hxs⟩:=hxv.parts.1.slice;have HX:=zA hx;obtain⟨kk,kw,kv,kl⟩:=x;dsimp only at hxs q0 q1 q2;subst hxs;have hkl:=hxv.parts.2.2.1;dsimp only at hkl;obtain⟨W1,hW1⟩:∃W,W=(w.alloc (.cells #[.int .i64 k,.string ⟨wd.toArray⟩,.slice (some ⟨g,off,none⟩) 1 cap] 25)).alloc (.cells #[.int .u32 0,.int .u32 0,.bool false] 103):=⟨_,rfl⟩
 have hbW:Below w.heap.size w W1:=by rw[hW1];exact((zE _ _).alloc (zD _) _).alloc (by simp) _
 have hsz:W1.heap.size=w.heap.size+2:=by rw[hW1];simp
 have hcb:W1.heap[w.heap.size+1]?=some (.cells #[.int .u32 0,.int .u32 0,.bool false] 103 (0,0)):=by rw[hW1];exact(by simpa using heap_alloc_new (w.alloc (.cells #[.int .i64 k,.string ⟨wd.toArray⟩,.slice (some ⟨g,off,none⟩) 1 cap] 25)) _)
 have hLowP:Low (Plus S w.heap.size (w.heap.size+2)) W1:=by have:=hS.plus hbW.size;rw[hsz]at this;exact this
 have HM1:=zA (hm.plus hS hbW (w.heap.size+2));have hFrW:Fr S w W1:=fr_below hS hbW;have hkS:S kb:=hm.sk;have hkl2:kb<w.heap.size:=hS _ hkS;have C:=zA (HX.out (Plus S w.heap.size (w.heap.size+2)) W1 mb kb ws ps F wv hLowP HM1.out hf ((hxv.below hbW).sub (fun b hb _=>.inl hb)) hl);have HW1:=zA hW1;have HFW:=zA hFrW;have HCB:=zA hcb;have HSZ:=zA hsz;have HXX:=zA hX;have HLOW:=zA hS;have HSK:=zA hkS;rw[<- hX]at C;clear hv hm hf hl hxv hx hcell hbW hsz hcb hLowP hFrW hkS hkl2 hW1 hX HX hS;show Calls Tryz.prog _ #[_,.agg #[.int .i64 k,.string ⟨wd.toArray⟩,.slice (some ⟨g,off,none⟩) 1 cap]] w _;go_enter Tryz.func86,Tryz.ntmps86;go_wp2_with fail;rw[<- HW1.out];refine C.out.mono ?_;rintro e w1 ⟨f,l,F2,wv2,rfl,hb1,hb2,hm2,hf2,hfr2⟩;have e1:=(hfr2.block (w.heap.size+1) (.inr ⟨by omega,by omega⟩)).trans HCB.out;have hlt1:w.heap.size+1<w1.heap.size:=lt_of_block e1;obtain⟨⟨r0,r1,r2⟩,⟨f0,f1,f2⟩⟩:=three_cells e1;obtain⟨hmF,hfF⟩:=add_end (b:=w.heap.size+1) (c0:=.int .u32 (f:Int)) (c1:=.int .u32 (l:Int)) (c2:=.bool true) (.cells #[.int .u32 (f:Int),.int .u32 (l:Int),.bool true] 103) HLOW.out HSZ.out HFW.out hfr2 hm2 HSK.out (by omega) (by omega);have hE:AddE S w mb kb ws ps (mayC2 X) (.returned (ptV f l true)) _:=⟨f,l,F2,wv2,rfl,hb1,hb2,hmF,hf2,hfF⟩
 obtain⟨z0,z1,z2⟩:=end_cells (c0:=.int .u32 (f:Int)) (c1:=.int .u32 (l:Int)) (c2:=.bool true) (.cells #[.int .u32 (f:Int),.int .u32 (l:Int),.bool true] 103) e1;have HE:=zA hE;have Z0:=zA z0;have Z1:=zA z1;have Z2:=zA z2;clear hE z0 z1 z2 hb1 hb2 hm2 hf2 hfr2 e1 hmF hfF;unfold set3P at HE Z0 Z1 Z2;go_wp2;refine bodyPost_ret (v:=ptV f l true) ?_ rfl HE.out;simp[results,Tryz.results86,go_sem,Z0.out,Z1.out,Z2.out]
set_option maxHeartbeats 2000000 in
theorem addPlus_any{k:Int}{wd:Wd}{v:Value}{x:Vt}(hx:AddF 53 x):AddG 85 ⟨k,wd,v,[x]⟩ (loopC (prtOf x.pt)) (leaves x.pt):=by
 intro S w mb kb ws ps F wv hS hm hf hv hl;obtain⟨ao,cap,hvv⟩:=hv.parts.1.slice;obtain⟨X,hX⟩:∃X,X=prtOf x.pt:=⟨_,rfl⟩
 rw[<- hX];dsimp only at hvv;subst hvv;have HV:=zA hv;obtain⟨g,off,rfl,hgS,hgl,hcell⟩:=hv.parts.1.get (j:=0) (x:=x) rfl;obtain⟨q0,q1,q2⟩:=getN hcell;rw[Nat.zero_mul,yA]at q0 q1 q2;have hxv:=hv.parts.2.2.2 x (by simp);obtain⟨xa,xc,hxs⟩:=hxv.parts.1.slice;have HX:=zA hx;obtain⟨kk,kw,kv,kl⟩:=x;dsimp only at hxs q0 q1 q2;subst hxs;have hkl:=hxv.parts.2.2.1;dsimp only at hkl;obtain⟨W1,hW1⟩:∃W,W=(w.alloc (.cells #[.int .i64 k,.string ⟨wd.toArray⟩,.slice (some ⟨g,off,none⟩) 1 cap] 25)).alloc (.cells #[.int .u32 0,.int .u32 0,.bool false] 103):=⟨_,rfl⟩
 have hbW:Below w.heap.size w W1:=by rw[hW1];exact((zE _ _).alloc (zD _) _).alloc (by simp) _
 have hsz:W1.heap.size=w.heap.size+2:=by rw[hW1];simp
 have hcb:W1.heap[w.heap.size+1]?=some (.cells #[.int .u32 0,.int .u32 0,.bool false] 103 (0,0)):=by rw[hW1];exact(by simpa using heap_alloc_new (w.alloc (.cells #[.int .i64 k,.string ⟨wd.toArray⟩,.slice (some ⟨g,off,none⟩) 1 cap] 25)) _)
 have hLowP:Low (Plus S w.heap.size (w.heap.size+2)) W1:=by have:=hS.plus hbW.size;rw[hsz]at this;exact this
 have HM1:=zA (hm.plus hS hbW (w.heap.size+2));have hFrW:Fr S w W1:=fr_below hS hbW;have hkS:S kb:=hm.sk;have hkl2:kb<w.heap.size:=hS _ hkS;have C:=zA (HX.out (Plus S w.heap.size (w.heap.size+2)) W1 mb kb ws ps F wv hLowP HM1.out hf ((hxv.below hbW).sub (fun b hb _=>.inl hb)) hl);have HW1:=zA hW1;have HFW:=zA hFrW;have HCB:=zA hcb;have HSZ:=zA hsz;have HXX:=zA hX;have HLOW:=zA hS;have HSK:=zA hkS;rw[<- hX]at C;clear hv hm hf hl hxv hx hcell hbW hsz hcb hLowP hFrW hkS hkl2 hW1 hX HX hS;show Calls Tryz.prog _ #[_,.agg #[.int .i64 k,.string ⟨wd.toArray⟩,.slice (some ⟨g,off,none⟩) 1 cap]] w _;go_enter Tryz.func85,Tryz.ntmps85;go_wp2_with fail;rw[<- HW1.out];refine C.out.mono ?_;rintro e w1 ⟨f,l,F2,wv2,rfl,hb1,hb2,hm2,hf2,hfr2⟩;have e1:=(hfr2.block (w.heap.size+1) (.inr ⟨by omega,by omega⟩)).trans HCB.out;have hlt1:w.heap.size+1<w1.heap.size:=lt_of_block e1;have hLow1:Low (Plus S w.heap.size (w.heap.size+2)) w1:=Low.fr (w:=W1) (fun k hk=>by
  rcases hk with hk|hk
  . have:=HLOW.out k hk;have:=HFW.out.size;omega
  . have:=HSZ.out;omega) hfr2
 obtain⟨o3,ho3⟩:∃o,o=Obj.cells #[.int .u32 (f:Int),.int .u32 (l:Int),.bool X.empty] 103:=⟨_,rfl⟩
 have hm3:=(hm2.below hLow1 ((zE _ _).alloc (zD _) o3)).drew;have hfr3:=(hfr2.alloc (fun k hk=>by
  rcases hk with hk|hk
  . have:=HLOW.out k hk;have:=HFW.out.size;omega
  . have:=HSZ.out;omega) o3).drew
 have hb3:(w1.alloc o3).drew.heap[w1.heap.size]?=some o3:=heap_alloc_new w1 o3;have hmbn:mb≠w1.heap.size:=by have:=hm2.lt;omega
 have e3:(w1.alloc o3).drew.heap[w.heap.size+1]?=some (.cells #[.int .u32 0,.int .u32 0,.bool false] 103 (0,0)):=by
  show (w1.alloc o3).heap[w.heap.size+1]?=_;rw[heap_alloc_old _ _ hlt1];exact e1
 have hmb1:mb≠w.heap.size+1:=fun e=>hm2.no (.inr ⟨by omega,by omega⟩)
 have CL:=zA (link_any hm3.fol (fun i hi=>(hf2 i hi).1) l f hb2.1 hb1.1);have HM3:=zA hm3;have HFR3:=zA hfr3;have HB3:=zA hb3;have HB1:=zA hb1;have HB2:=zA hb2;have HF2:=zA hf2;have HE3:=zA e3;have HMN:=zA hmbn;have HMN1:=zA hmb1;have HO3:=zA ho3;have HLT1:=zA hlt1;obtain⟨em,hem⟩:∃b,b=X.empty:=⟨_,rfl⟩
 rw[<- hem]at HO3 ⊢;have HEM:=zA hem;rw[HO3.out]at CL;clear hem hm3 hfr3 hb3 hb1 hb2 hf2 e3 hmbn ho3 hm2 hfr2 hLow1 e1 hmb1 hlt1;go_wp2_with fail;go_region_law (go_simp;refine CL.out.mono ?_;rintro e w4 ⟨rfl,hfol4,hlk4⟩);all_goals (
  rw[<- HO3.out]at hlk4;have hm4:=HM3.out.link hlk4 hfol4;have hfr4:=HFR3.out.link hlk4 HM3.out.no;have hb4:=(hlk4.block w1.heap.size HMN.out.symm).trans HB3.out;have e4:=(hlk4.block (w.heap.size+1) HMN1.out.symm).trans HE3.out;rw[HO3.out]at hb4;obtain⟨⟨r0,r1,r2⟩,⟨f0,f1,f2⟩⟩:=three_cells e4;obtain⟨⟨s0,s1,s2⟩,_⟩:=three_cells hb4;obtain⟨hmF,hfF⟩:=add_end2 (b:=w.heap.size+1) (c0:=.int .u32 (f:Int)) (c1:=.int .u32 (l:Int)) (c2:=.bool em) HLOW.out HFW.out hfr4 hm4 HSK.out (by omega) (by omega);have hE:AddE S w mb kb ws ps (loopC X) (.returned (ptV f l em)) _:=⟨f,l,_,wv2,by rw[HEM.out];rfl,HB1.out,HB2.out,hmF,FolOf.congr (HF2.out.link HB2.out HB1.out) (fun p=>by rw[loopC,upP_append,cross_up,List.append_assoc]),hfF⟩
  obtain⟨⟨z0,z1,z2⟩,_⟩:=three_cells (set3P_at (c0:=.int .u32 (f:Int)) (c1:=.int .u32 (l:Int)) (c2:=.bool em) e4);have HE:=zA hE;have Z0:=zA z0;have Z1:=zA z1;have Z2:=zA z2;clear hE z0 z1 z2 hmF hfF hm4 hfr4 hb4 e4 hfol4 hlk4;unfold set3P at HE Z0 Z1 Z2;go_wp2;refine bodyPost_ret (v:=ptV f l em) ?_ rfl HE.out;simp[results,Tryz.results85,go_sem,Z0.out,Z1.out,Z2.out])
set_option maxHeartbeats 2000000 in
theorem addStar_any{k:Int}{wd:Wd}{v:Value}{x:Vt}(hx:AddF 53 x):AddG 84 ⟨k,wd,v,[x]⟩ (mayC2 (loopC (prtOf x.pt))) (leaves x.pt):=by
 intro S w mb kb ws ps F wv hS hm hf hv hl;obtain⟨ao,cap,hvv⟩:=hv.parts.1.slice;have hpl:=addPlus_any (k:=k) (wd:=wd) (v:=v) hx;obtain⟨X,hX⟩:∃X,X=loopC (prtOf x.pt):=⟨_,rfl⟩
 rw[<- hX]at hpl ⊢;dsimp only at hvv;subst hvv;simp only[yG,List.length_nil,Nat.zero_add]at hpl hv ⊢;obtain⟨W1,hW1⟩:∃W,W=(w.alloc (.cells #[.int .i64 k,.string ⟨wd.toArray⟩,.slice ao 1 cap] 25)).alloc (.cells #[.int .u32 0,.int .u32 0,.bool false] 103):=⟨_,rfl⟩
 have hbW:Below w.heap.size w W1:=by rw[hW1];exact((zE _ _).alloc (zD _) _).alloc (by simp) _
 have hsz:W1.heap.size=w.heap.size+2:=by rw[hW1];simp
 have hcb:W1.heap[w.heap.size+1]?=some (.cells #[.int .u32 0,.int .u32 0,.bool false] 103 (0,0)):=by rw[hW1];exact(by simpa using heap_alloc_new (w.alloc (.cells #[.int .i64 k,.string ⟨wd.toArray⟩,.slice ao 1 cap] 25)) _)
 have hLowP:Low (Plus S w.heap.size (w.heap.size+2)) W1:=by have:=hS.plus hbW.size;rw[hsz]at this;exact this
 have HM1:=zA (hm.plus hS hbW (w.heap.size+2));have hFrW:Fr S w W1:=fr_below hS hbW;have hkS:S kb:=hm.sk;have C:=zA (hpl (Plus S w.heap.size (w.heap.size+2)) W1 mb kb ws ps F wv hLowP HM1.out hf ((hv.below hbW).sub (fun b hb _=>.inl hb)) hl);have HW1:=zA hW1;have HFW:=zA hFrW;have HCB:=zA hcb;have HSZ:=zA hsz;have HLOW:=zA hS;have HSK:=zA hkS;clear hv hm hf hl hx hbW hsz hcb hLowP hFrW hkS hW1 hX hS hpl;show Calls Tryz.prog _ #[_,.agg #[.int .i64 k,.string ⟨wd.toArray⟩,.slice ao 1 cap]] w _;go_enter Tryz.func84,Tryz.ntmps84;go_wp2_with fail;rw[<- HW1.out];refine C.out.mono ?_;rintro e w1 ⟨f,l,F2,wv2,rfl,hb1,hb2,hm2,hf2,hfr2⟩;have e1:=(hfr2.block (w.heap.size+1) (.inr ⟨by omega,by omega⟩)).trans HCB.out;have hlt1:w.heap.size+1<w1.heap.size:=lt_of_block e1;obtain⟨⟨r0,r1,r2⟩,⟨f0,f1,f2⟩⟩:=three_cells e1;obtain⟨hmF,hfF⟩:=add_end (b:=w.heap.size+1) (c0:=.int .u32 (f:Int)) (c1:=.int .u32 (l:Int)) (c2:=.bool true) (.cells #[.int .u32 (f:Int),.int .u32 (l:Int),.bool true] 103) HLOW.out HSZ.out HFW.out hfr2 hm2 HSK.out (by omega) (by omega);have hE:AddE S w mb kb ws ps (mayC2 X) (.returned (ptV f l true)) _:=⟨f,l,F2,wv2,rfl,hb1,hb2,hmF,hf2,hfF⟩
 obtain⟨z0,z1,z2⟩:=end_cells (c0:=.int .u32 (f:Int)) (c1:=.int .u32 (l:Int)) (c2:=.bool true) (.cells #[.int .u32 (f:Int),.int .u32 (l:Int),.bool true] 103) e1;have HE:=zA hE;have Z0:=zA z0;have Z1:=zA z1;have Z2:=zA z2;clear hE z0 z1 z2 hb1 hb2 hm2 hf2 hfr2 e1 hmF hfF;unfold set3P at HE Z0 Z1 Z2;go_wp2;refine bodyPost_ret (v:=ptV f l true) ?_ rfl HE.out;simp[results,Tryz.results84,go_sem,Z0.out,Z1.out,Z2.out]
theorem infoStr:(Tryz.prog.info? 9).map (fun i=>(i.zero,i.size,i.bytes))=some (some (.string ⟨#[]⟩),1,16):=by kernel_rfl
theorem MkAt.grow{S:Nat->Prop}{w w9 w8:World}{mb kb:Nat}{ws:List Wd}{F:Nat->Nat}{wv wv9:Value}{u:Wd}(h:MkAt S w mb kb ws F wv)(hS:Low S w)(hg:w.grownBy w9 wv.ownBlock)(hown:w9.ownsRow 0 9 1 wv9 (ws++[u]).length ((ws++[u]).flatMap csT))(hat:∀g,wv9.ownBlock=some g->wv.ownBlock=some g\/w.heap.size<=g)(h8:w8=w9.setCell ⟨mb,0,none⟩ wv9):MkAt S w8 mb kb (ws++[u]) F wv9/\Fr S w w8:=by
 subst h8;have hmb:w9.heap[mb]?=w.heap[mb]?:=hg.block mb h.lt (fun e=>(h.rno mb e.symm).2 rfl);have hkb:w9.heap[kb]?=w.heap[kb]?:=hg.block kb (hS _ h.sk) (fun e=>(h.rno kb e.symm).1 h.sk);have hkm:kb≠mb:=fun e=>h.no (by rw[<- e];exact h.sk)
 have hr9:∀g,wv9.ownBlock=some g->¬S g/\g≠mb:=fun g hg9=>by
  rcases hat g hg9 with h1|h1
  . exact h.rno g h1
  . exact⟨fun e=>by have:=hS _ e;omega,by have:=h.lt;omega⟩
 have c09:w9.cell? ⟨mb,0,none⟩=some wv:=by have:=h.c0;simpa only[World.cell?,hmb]using this
 refine⟨⟨h.no,h.sk,?_,?_,?_,?_,?_,?_,?_,hr9⟩,?_⟩
 . have:=h.lt;have:=hg.size;simp;omega
 . rw[zN _ _ _ _ (by exact hkm),hkb];exact h.map
 . exact World.cell?_setCell_same _ _ _ c09
 . rw[World.frozen?_setCell];have:=h.f0;simpa only[World.frozen?,hmb]using this
 . rw[World.cell?_setCell_other _ _ _ _ (fun e=>by injection e with e1 e2;cases e2)];have:=h.c25;simpa only[World.cell?,hmb]using this
 . intro j hj;rw[World.cell?_setCell_other _ _ _ _ (fun e=>by injection e with e1 e2;omega),World.frozen?_setCell];exact(h.fol.keep hmb) j hj
 . exact owns_key hown (fun g o hg9 ho=>(zN _ _ _ _ (by exact (hr9 g hg9).2)).trans ho)
 . have hfr:Fr S w w9:=(Fr.refl S w).grown hS hg (fun g e=>(h.rno g e).1);exact hfr.setCell h.no _
theorem grown_at{w3 w9:World}{o:Obj}{row:Option Nat}{mb:Nat}(hg:(w3.alloc o).grownBy w9 row)(hlt:mb<w3.heap.size)(hne:row≠some mb):w9.heap[mb]?=w3.heap[mb]?:=by
 rw[hg.block mb (by simp;omega) (fun e=>hne e.symm),heap_alloc_old _ _ hlt]
theorem cell_of{w w':World}{b i:Nat}{v:Value}(h:w'.heap[b]?=w.heap[b]?)(hc:w.cell? ⟨b,i,none⟩=some v):w'.cell? ⟨b,i,none⟩=some v:=by simpa only[World.cell?,h]using hc
theorem froz_of{w w':World}{b i:Nat}(h:w'.heap[b]?=w.heap[b]?)(hc:w.frozen? ⟨b,i,none⟩=false):w'.frozen? ⟨b,i,none⟩=false:=by simpa only[World.frozen?,h]using hc
set_option maxHeartbeats 2000000 in
theorem addWord_any{k:Int}{wd:Wd}{v:Value}(hk:k=1)(hw16:wd.length<=1000):AddF 81 ⟨k,wd,v,[]⟩:=by
 intro S w mb kb ws ps F wv hS hm hf hv hl;obtain⟨i0,hi0,hz0,hz1,hz2⟩:=info_parts infoStr;obtain⟨ao,cap,hvv⟩:=hv.parts.1.slice;have hwl:=hv.parts.2.1;dsimp only at hvv hwl;subst hvv;rw[Vt.pt_mk,List.map_nil,leaves_mk,if_pos hk]at hl;rw[Vt.pt_mk,List.map_nil,prtOf_mk,kindC,if_pos hk];obtain⟨X,hX⟩:∃X:Prt,X=⟨[wd],[0],[0],[],false⟩:=⟨_,rfl⟩
 rw[<- hX];simp only[List.length_nil]at hv ⊢;obtain⟨wa,wc,hwv⟩:=own_slice hm.row;subst hwv;obtain⟨n,hn⟩:∃n,n=ws.length:=⟨_,rfl⟩
 obtain⟨W1,hW1⟩:∃W,W=(w.alloc (.cells #[.int .i64 k,.string ⟨wd.toArray⟩,.slice ao 0 cap] 25)).alloc (.cells #[.int .u32 0,.int .u32 0,.bool false] 103):=⟨_,rfl⟩
 have hbW:Below w.heap.size w W1:=by rw[hW1];exact((zE _ _).alloc (zD _) _).alloc (by simp) _
 have hsz:W1.heap.size=w.heap.size+2:=by rw[hW1];simp
 have hcb:W1.heap[w.heap.size+1]?=some (.cells #[.int .u32 0,.int .u32 0,.bool false] 103 (0,0)):=by rw[hW1];exact(by simpa using heap_alloc_new (w.alloc (.cells #[.int .i64 k,.string ⟨wd.toArray⟩,.slice ao 0 cap] 25)) _)
 have hLowP:Low (Plus S w.heap.size (w.heap.size+2)) W1:=by have:=hS.plus hbW.size;rw[hsz]at this;exact this
 have hm1:=hm.plus hS hbW (w.heap.size+2);have hFrW:Fr S w W1:=fr_below hS hbW;have hkS:S kb:=hm.sk;have hn24:n<24:=by omega
 have CO:=zA (fun u=>only_any n u hn24);have hlt:=hm.lt;have q0:=hm1.c0;have q1:=hm1.f0;have q0w:=hm.c0;rw[<- hn]at q0 q0w;obtain⟨q,hq⟩:∃q,q=2^n:=⟨_,rfl⟩
 rw[<- hq]at CO;have HQ:Hid (BitsOf q [n]):=zA (by rw[hq];exact BitsOf.one hn24);have HROW:=zA hm1.row;have HNE:Hid (∀u,(Value.slice wa u wc).ownBlock≠some mb):=zA (fun u e=>(hm1.rno mb (by cases wa<;>exact e)).2 rfl);have HM1:=zA hm1;have CC:=zA (clone_any ⟨wd.toArray⟩ W1.drew (by have:(ByteArray.mk wd.toArray).size=wd.length:=(by simp[ByteArray.size]);omega));have HW1:=zA hW1;have HFW:=zA hFrW;have HCB:=zA hcb;have HSZ:=zA hsz;have HLOW:=zA hS;have HLOWP:=zA hLowP;have HSK:=zA hkS;have HN:=zA hn;have HX:=zA hX;have HF:=zA hf;have hszm:mb<W1.heap.size:=hm1.lt;obtain⟨b0,b1,b2⟩:W1.cell? ⟨w.heap.size,0,none⟩=some (.int .i64 k)/\W1.cell? ⟨w.heap.size,1,none⟩=some (.string ⟨wd.toArray⟩)/\W1.cell? ⟨w.heap.size,2,none⟩=some (.slice ao 0 cap):=by rw[hW1];simp
 have HBX:=zA (And.intro b0 (And.intro b1 b2));rw[<- hn]at HROW;clear hv hm hf hl hbW hsz hcb hLowP hFrW hkS hW1 hX hS hm1 hq hn hk b0 b1 b2;show Calls Tryz.prog _ #[_,.agg #[.int .i64 k,.string ⟨wd.toArray⟩,.slice ao 0 cap]] w _;go_enter Tryz.func81,Tryz.ntmps81;go_wp2_with fail;rw[<- HW1.out];refine(CO.out _).mono ?_;rintro e w2 ⟨rfl,hw2⟩;subst hw2;clear q0w;obtain⟨b0,b1,b2⟩:=HBX.out;have hszw:w.heap.size<w2.heap.size:=by have:=HSZ.out;omega
 go_wp2_with fail;go_region_law (first
  |(go_simp;refine CC.out.mono ?_;rintro e w3 ⟨rfl,hb3⟩;have q03:=(hb3.cell (p:=⟨mb,0,none⟩) hszm).trans q0;have q13:=(hb3.frozen (p:=⟨mb,0,none⟩) hszm).trans q1;have hm3l:mb<w3.heap.size:=zQ hszm hb3.size)
  |(refine step_append_lies _ (by rfl) _ _ _ (by rfl) 0 9 i0 _ 1 16 Tryz.underlying34 hi0 hz0 hz1 hz2 rfl (by decide) (.slice wa n wc) _ _ (by rfl) ((owns_below HROW.out.drew hb3).alloc _) ⟨w3.heap.size,0,none⟩ 1 1 (csT wd) (by rfl) (by rfl) (World.news_of_block (cs:=#[.string ⟨wd.toArray⟩]) (t:=9) (fr:=(0,0)) (heap_alloc_new w3 _)) (by simp[Value.oneCell']) (by decide) (by unfold maxLen;omega) (by omega) (by omega) (w3.heap.size+1) (by simp) ?_;intro gg cap2 w9 hown9 hgrow9 hat9 hlt9;have hh9:=grown_at hgrow9 (zQ hszm hb3.size) (HNE.out _);have q09:=cell_of hh9 q03;have q19:=froz_of hh9 q13))
 all_goals (
  have hLD:Low (Plus S w.heap.size (w.heap.size+2)) w2.drew:=HLOWP.out;have hmA:=(HM1.out.drew.below hLD hb3).below (hLD.below hb3) ((zE w3.heap.size w3).alloc (zD _) (.cells #[.string ⟨wd.toArray⟩] 9));have hLA:Low (Plus S w.heap.size (w.heap.size+2)) (w3.alloc (.cells #[.string ⟨wd.toArray⟩] 9)):=fun k hk=>by have:=HLOWP.out k hk;have h2:w2.heap.size<=w3.heap.size:=hb3.size;simp;omega
  obtain⟨hm8,hf8⟩:=MkAt.grow (u:=wd) (wv9:=.slice (some ⟨gg,0,none⟩) (n+1) cap2) hmA hLA (by rw[<- HN.out];exact hgrow9) (by
   rw[zG,<- HN.out,zR];simpa using hown9) (fun g hg=>by
   have hgg:gg=g:=by simpa[Value.ownBlock]using hg
   subst hgg;rcases hat9 with h1|h1
   . left;rw[<- HN.out];exact h1
   . right;simp;omega) rfl
  have hfA:Fr (Plus S w.heap.size (w.heap.size+2)) w2 (w3.alloc (.cells #[.string ⟨wd.toArray⟩] 9)):=((Fr.refl _ w2).drew.next HLOWP.out hb3).alloc HLOWP.out _;have hfr8:=hfA.trans hf8;have e8:=(hfr8.block (w.heap.size+1) (.inr ⟨by omega,by omega⟩)).trans HCB.out;obtain⟨⟨r0,r1,r2⟩,⟨f0,f1,f2⟩⟩:=three_cells e8;obtain⟨hmF,hfF⟩:=add_end2 (b:=w.heap.size+1) (c0:=.int .u32 (q:Int)) (c1:=.int .u32 (q:Int)) (c2:=.bool false) HLOW.out HFW.out hfr8 hm8 HSK.out (by omega) (by omega);have hE:AddE S w mb kb ws ps X (.returned (ptV q q false)) (set3P (w9.setCell ⟨mb,0,none⟩ (.slice (some ⟨gg,0,none⟩) (n+1) cap2)) (w.heap.size+1) (.int .u32 (q:Int)) (.int .u32 (q:Int)) (.bool false)):=by
   rw[HX.out];exact⟨q,q,F,_,rfl,HQ.out.congr (fun k=>by rw[HN.out];simp[up]),HQ.out.congr (fun k=>by rw[HN.out];simp[up]),hmF,HF.out.congr (fun p=>by simp[upP]),hfF⟩
  obtain⟨⟨z0,z1,z2⟩,_⟩:=three_cells (set3P_at (c0:=.int .u32 (q:Int)) (c1:=.int .u32 (q:Int)) (c2:=.bool false) e8);have HE:=zA hE;have Z0:=zA z0;have Z1:=zA z1;have Z2:=zA z2;clear hE z0 z1 z2 hmF hfF hm8 hf8 hfr8 hfA hLA hmA hLD e8 hown9 hgrow9 hat9 hlt9 hh9 q09 q19 q03 q13;unfold set3P at HE Z0 Z1 Z2;obtain⟨w8,hw8⟩:∃W,W=w9.setCell ⟨mb,0,none⟩ (.slice (some ⟨gg,0,none⟩) (n+1) cap2):=⟨_,rfl⟩
  rw[<- hw8]at HE Z0 Z1 Z2 r0 r1 r2 f0 f1 f2 ⊢;clear hw8;go_wp2;refine bodyPost_ret (v:=ptV q q false) ?_ rfl HE.out;simp[results,Tryz.results81,go_sem,Z0.out,Z1.out,Z2.out])
def foldK(c:Prt->Prt->Prt)(e:Bool)(l:List Vt):Prt:=(l.map fun x=>prtOf x.pt).foldl c (prt0 e)
theorem foldK_succ{c:Prt->Prt->Prt}{e:Bool}{l:List Vt}{i:Nat}{x:Vt}(h:l[i]?=some x):foldK c e (l.take (i+1))=c (foldK c e (l.take i)) (prtOf x.pt):=by
 unfold foldK;rw[zS,h,yK,List.foldl_append];rfl
theorem foldK_words{c:Prt->Prt->Prt}(hc:∀x y,(c x y).words=x.words++y.words){e:Bool}(l:List Vt):(foldK c e l).words.length=(l.map fun x=>leaves x.pt).sum:=by
 unfold foldK;rw[fold_words hc];simp only[prt0,List.nil_append,List.length_flatten,List.map_map];congr 1;apply yS;intro x _;exact prt_words_len x.pt
theorem leaves_take{l:List Vt}{i:Nat}{x:Vt}(h:l[i]?=some x):((l.take i).map fun x=>leaves x.pt).sum+leaves x.pt<=(l.map fun x=>leaves x.pt).sum:=by
 have:l.take i++(x::l.drop (i+1))=l:=by
  have h2:l.drop i=x::l.drop (i+1):=by
   rw[List.drop_eq_getElem_cons (zF.1 h).1];rw[(zF.1 h).2]
  rw[<- h2,List.take_append_drop]
 conv=>rhs;rw[<- this]
 rw[yK,List.sum_append,List.map_cons,List.sum_cons];omega
theorem round_end{S:Nat->Prop}{w W1 wr w1:World}{mb kb b hi:Nat}{ws:List Wd}{F:Nat->Nat}{wv c0 c1 c2:Value}(o ok:Obj)(hS:Low S w)(hsz:W1.heap.size=hi)(hb:b+1=hi)(hwb:w.heap.size<=b)(hFW:Fr S w W1)
 (hfr:Fr (Plus S w.heap.size b) W1 wr) (hfr1:Fr (Plus S w.heap.size hi) (wr.alloc ok) w1) (hm:MkAt (Plus S w.heap.size hi) w1 mb kb ws F wv) (hkb:S kb):
 MkAt (Plus S w.heap.size hi) ((set3P w1 b c0 c1 c2).alloc o) mb kb ws F wv/\Fr (Plus S w.heap.size b) W1 ((set3P w1 b c0 c1 c2).alloc o):=by
 have hk:=hS kb hkb;have hLowb:Low (Plus S w.heap.size b) W1:=fun k hk=>by
  rcases hk with hk|hk
  . have:=hS k hk;have:=hFW.size;omega
  . omega
 have hLow1:Low (Plus S w.heap.size hi) w1:=fun k hk=>by
  have h1:=hfr1.size;have h2:=hfr.size;simp at h1;rcases hk with hk|hk
  . have:=hS k hk;have:=hFW.size;omega
  . omega
 have hm2:=hm.set3P (b:=b) (.inr ⟨hwb,by omega⟩) (by omega) c0 c1 c2;have hz:(set3P w1 b c0 c1 c2).heap.size=w1.heap.size:=by simp[Go.Proofs.YtkbgmcmcpbegjaaGreatDoor.set3P]
 refine⟨hm2.below (fun k hk=>by rw[hz];exact hLow1 k hk) ((zE _ _).alloc (zD _) o),?_⟩;refine Fr.alloc (Fr.set3P ((hfr.alloc hLowb ok).trans (hfr1.sub (fun k hk=>?_))) (fun h=>?_) c0 c1 c2) hLowb o
 . rcases hk with hk|hk
   . exact .inl hk
   . exact .inr ⟨hk.1,by omega⟩
 . rcases h with h|h
   . have:=hS _ h;omega
   . omega
set_option maxHeartbeats 4000000 in
theorem addAlt_any{k:Int}{wd:Wd}{v:Value}{kids:List Vt}(hx:∀x∈kids,AddF 53 x):AddG 83 ⟨k,wd,v,kids⟩ (foldK altC false kids) ((kids.map fun x=>leaves x.pt).sum):=by
 intro S w mb kb ws ps F wv hS hm hf hv hl;obtain⟨ao,cap,hvv⟩:=hv.parts.1.slice;have hkl:=hv.parts.2.2.1;dsimp only at hvv hkl;subst hvv;have HX:=zA hx;have HKIDS:=zA hv.parts.1;have HKV:=zA hv.parts.2.2.2;dsimp only at HKIDS HKV;obtain⟨n,hn⟩:∃n,n=kids.length:=⟨_,rfl⟩
 rw[<- hn]at HKIDS hkl ⊢;have HN:=zA hn;obtain⟨W1,hW1⟩:∃W,W=((w.alloc (.cells #[.int .i64 k,.string ⟨wd.toArray⟩,.slice ao n cap] 25)).alloc (.cells #[.int .u32 0,.int .u32 0,.bool false] 103)).alloc (.cells #[.int .u32 0,.int .u32 0,.bool false] 103):=⟨_,rfl⟩
 have hbW:Below w.heap.size w W1:=by rw[hW1];exact(((zE _ _).alloc (zD _) _).alloc (by simp) _).alloc (by simp;omega) _
 have hsz:W1.heap.size=w.heap.size+2+1:=by rw[hW1];simp
 have hcb1:W1.heap[w.heap.size+1]?=some (.cells #[.int .u32 0,.int .u32 0,.bool false] 103 (0,0)):=by
  rw[hW1,heap_alloc_old _ _ (by simp)];exact(by simpa using heap_alloc_new (w.alloc (.cells #[.int .i64 k,.string ⟨wd.toArray⟩,.slice ao n cap] 25)) _)
 have hcb2:W1.heap[w.heap.size+2]?=some (.cells #[.int .u32 0,.int .u32 0,.bool false] 103 (0,0)):=by
  rw[hW1];exact(by simpa using heap_alloc_new ((w.alloc (.cells #[.int .i64 k,.string ⟨wd.toArray⟩,.slice ao n cap] 25)).alloc (.cells #[.int .u32 0,.int .u32 0,.bool false] 103)) _)
 have HM1:=zA (hm.plus hS hbW (w.heap.size+2+1));have hFrW:Fr S w W1:=fr_below hS hbW;have HSUM:Hid (ws.length+(kids.map fun x=>leaves x.pt).sum<=24):=zA hl;have HSK:=zA hm.sk;have HW1:=zA hW1;have HFW:=zA hFrW;have HCB1:=zA hcb1;have HCB2:=zA hcb2;have HSZ:=zA hsz;have HLOW:=zA hS;have HF:=zA hf;obtain⟨R,hR⟩:∃R,R=foldK altC false kids:=⟨_,rfl⟩
 rw[<- hR];have HR:=zA hR;clear hv hm hf hl hx hbW hsz hcb1 hcb2 hFrW hW1 hS hn hR;show Calls Tryz.prog _ #[_,.agg #[.int .i64 k,.string ⟨wd.toArray⟩,.slice ao n cap]] w _;go_enter Tryz.func83,Tryz.ntmps83;go_wp2_with fail;rw[<- HW1.out];go_loopw [12] (fun c wr=>∃(i f l:Nat) (G:Nat->Nat) (wu:Value),i<=n/\c=.int .i64 i/\BitsOf f (up ws.length (foldK altC false (kids.take i)).first)/\BitsOf l (up ws.length (foldK altC false (kids.take i)).last)/\MkAt (Plus S w.heap.size (w.heap.size+2+1)) wr mb kb (ws++(foldK altC false (kids.take i)).words) G wu/\FolOf G (ps++upP ws.length (foldK altC false (kids.take i)).pairs)/\
  wr.heap[w.heap.size+2]?=some (.cells #[.int .u32 (f:Int),.int .u32 (l:Int),.bool (foldK altC false (kids.take i)).empty] 103 (0,0))/\Fr (Plus S w.heap.size (w.heap.size+2)) W1 wr) (fun c _=>n-(intOf c).toNat)
 case atStart=>
  refine⟨0,0,0,F,wv,zO _,rfl,?_,?_,?_,?_,?_,Fr.refl _ _⟩
  . exact BitsOf.none.congr (fun k=>by simp[foldK,prt0,up])
  . exact BitsOf.none.congr (fun k=>by simp[foldK,prt0,up])
  . simpa[foldK,prt0]using HM1.out
  . exact HF.out.congr (fun p=>by simp[foldK,prt0,upP])
  . exact HCB2.out
 case round=>
  obtain⟨i,f,l,G,wu,hi,rfl,hbf,hbl,hmk,hfo,hc2,hfr⟩:=hrel;obtain⟨X,hX⟩:∃X,X=foldK altC false (kids.take i):=⟨_,rfl⟩
  rw[<- hX]at hbf hbl hmk hfo hc2;have hXw:X.words.length=((kids.take i).map fun x=>leaves x.pt).sum:=by rw[hX];exact foldK_words (fun _ _=>rfl) _
  obtain⟨em,hem⟩:∃b,b=X.empty:=⟨_,rfl⟩
  rw[<- hem]at hc2;have HEM:=zA hem;have HXX:=zA hX;have HBF:=zA hbf;have HBL:=zA hbl;have HMK:=zA hmk;have HFO:=zA hfo;have HC2:=zA hc2;have HFR:=zA hfr;have HXW:=zA hXw;have HFS:Hid (Fr S w wr):=zA (HFW.out.trans (hfr.sub (fun k hk=>.inl hk)));clear hX hbf hbl hmk hfo hc2 hfr hXw hem;by_cases hlt:i<n
  . have hltI:(i:Int)<(n:Int):=by omega
    obtain⟨x,hx⟩:∃x,kids[i]?=some x:=⟨_,zB (by rw[<- HN.out];exact hlt)⟩
    have hxm:=zC hx;obtain⟨g,off,rfl,hgS,hgl,hcell⟩:=(HKIDS.out.fr HFS.out).get hx;obtain⟨q0,q1,q2⟩:=getN hcell;have hxv:=(HKV.out x hxm).fr HFS.out;obtain⟨xa,xc,hxs⟩:=hxv.parts.1.slice;have hsum:=leaves_take hx;have hstep:=foldK_succ (c:=altC) (e:=false) hx;have hadd:=HX.out x hxm;obtain⟨Y,hY⟩:∃Y,Y=prtOf x.pt:=⟨_,rfl⟩
    have hYw:Y.words.length=leaves x.pt:=by rw[hY];exact prt_words_len _
    have hkl2:=hxv.parts.2.2.1;have hszr:w.heap.size+2<wr.heap.size:=lt_of_block HC2.out;have hLr:Low (Plus S w.heap.size (w.heap.size+2+1)) wr:=fun k hk=>by
     rcases hk with hk|hk
     . have:=HLOW.out k hk;omega
     . omega
    obtain⟨ok,hok⟩:∃o,o=Obj.cells #[.int .i64 x.kind,.string ⟨x.word.toArray⟩,x.val] 25:=⟨_,rfl⟩
    have hC:=hadd (Plus S w.heap.size (w.heap.size+2+1)) (wr.alloc ok) mb kb (ws++X.words) (ps++upP ws.length X.pairs) G wu (fun k hk=>by have:=hLr k hk;simp;omega) (HMK.out.below hLr ((zE _ _).alloc (zD _) ok)) HFO.out ((hxv.below ((zE _ _).alloc (zD _) ok)).sub (fun b hb _=>.inl hb)) (by
     have h1:=HXW.out;have h2:=HSUM.out;rw[zG];omega)
    rw[<- hY]at hC hstep;obtain⟨kk,kw,kv,kks⟩:=x;dsimp only at hxs q0 q1 q2 hok hkl2;subst hxs;have C:=zA hC;rw[hok]at C;have HOK:=zA hok;have HSTEP:=zA hstep;have HLR:=zA hLr;clear hx hxm hcell hxv hsum hstep hadd hY hYw hC hok hLr;go_wp2_with fail;refine C.out.mono ?_;rintro e w1 ⟨f2,l2,F2,wv2,rfl,hb1,hb2,hm2,hf2,hfr2⟩;have e2:=(hfr2.block (w.heap.size+2) (.inr ⟨by omega,by omega⟩)).trans ((heap_alloc_old _ _ hszr).trans HC2.out);have hsz1:w.heap.size+2<w1.heap.size:=lt_of_block e2;obtain⟨⟨r0,r1,r2⟩,⟨p0,p1,p2⟩⟩:=three_cells e2;have ho1:bits .or .u32 (f:Int) (f2:Int)=((f ||| f2:Nat):Int):=u32_or_nat f f2 (by have:=HBF.out.1;omega) (by have:=hb1.1;omega);have ho2:bits .or .u32 (l:Int) (l2:Int)=((l ||| l2:Nat):Int):=u32_or_nat l l2 (by have:=HBL.out.1;omega) (by have:=hb2.1;omega);obtain⟨f3,hf3⟩:∃q,q=f ||| f2:=⟨_,rfl⟩
    obtain⟨l3,hl3⟩:∃q,q=l ||| l2:=⟨_,rfl⟩
    rw[<- hf3]at ho1;rw[<- hl3]at ho2;obtain⟨ey,hey⟩:∃b,b=Y.empty:=⟨_,rfl⟩
    rw[<- hey];have hEND:∀b,b=(em||ey)->(∃(f l:Nat) (G:Nat->Nat) (wu:Value),Value.int .u32 (f3:Int)=.int .u32 (f:Int)/\BitsOf f (up ws.length (foldK altC false (kids.take (i+1))).first)/\BitsOf l (up ws.length (foldK altC false (kids.take (i+1))).last)/\MkAt (Plus S w.heap.size (w.heap.size+2+1)) ((set3P w1 (w.heap.size+2) (.int .u32 (f3:Int)) (.int .u32 (l3:Int)) (.bool b)).alloc (.cells #[.int .u32 (f2:Int),.int .u32 (l2:Int),.bool ey] 103)) mb kb (ws++(foldK altC false (kids.take (i+1))).words) G wu/\FolOf G (ps++upP ws.length (foldK altC false (kids.take (i+1))).pairs)/\
     ((set3P w1 (w.heap.size+2) (.int .u32 (f3:Int)) (.int .u32 (l3:Int)) (.bool b)).alloc (.cells #[.int .u32 (f2:Int),.int .u32 (l2:Int),.bool ey] 103)).heap[w.heap.size+2]?=some (.cells #[.int .u32 (f:Int),.int .u32 (l:Int),.bool (foldK altC false (kids.take (i+1))).empty] 103 (0,0))/\Fr (Plus S w.heap.size (w.heap.size+2)) W1 ((set3P w1 (w.heap.size+2) (.int .u32 (f3:Int)) (.int .u32 (l3:Int)) (.bool b)).alloc (.cells #[.int .u32 (f2:Int),.int .u32 (l2:Int),.bool ey] 103))):=fun b hbe=>by
     obtain⟨hmE,hfE⟩:=round_end (c0:=.int .u32 (f3:Int)) (c1:=.int .u32 (l3:Int)) (c2:=.bool b) (.cells #[.int .u32 (f2:Int),.int .u32 (l2:Int),.bool ey] 103) _ HLOW.out HSZ.out rfl (by omega) HFW.out HFR.out hfr2 hm2 HSK.out;rw[HSTEP.out,<- HXX.out];refine⟨f3,l3,F2,wv2,rfl,?_,?_,?_,?_,?_,hfE⟩
     . rw[hf3];exact(HBF.out.or hb1).congr (fun k=>by rw[altC,up_append,up_up,zG])
     . rw[hl3];exact(HBL.out.or hb2).congr (fun k=>by rw[altC,up_append,up_up,zG])
     . rw[show (altC X Y).words=X.words++Y.words from rfl,<- List.append_assoc];exact hmE
     . exact hf2.congr (fun p=>by rw[altC,upP_append,upP_upP,zG,List.append_assoc])
     . have hz:(set3P w1 (w.heap.size+2) (.int .u32 (f3:Int)) (.int .u32 (l3:Int)) (.bool b)).heap.size=w1.heap.size:=by simp[set3P]
       rw[heap_alloc_old _ _ (by rw[hz];exact hsz1),hbe,HEM.out,hey];exact set3P_at e2
    have HEND:=zA hEND;clear hEND hb1 hb2 hm2 hf2 hfr2 e2 hf3 hl3 hey C;unfold set3P at HEND;cases em with
    |true=>
     go_wp2;go_roundw
     case rel=>
      obtain⟨f,l,G,wu,_,h1,h2,h3,h4,h5,h6⟩:=HEND.out true rfl;exact⟨i+1,f,l,G,wu,by omega,by go_num,h1,h2,h3,h4,h5,h6⟩
     case measure=>simp[intOf];omega
    |false=>
     go_wp2;go_roundw
     case rel=>
      obtain⟨f,l,G,wu,_,h1,h2,h3,h4,h5,h6⟩:=HEND.out ey (by simp);exact⟨i+1,f,l,G,wu,by omega,by go_num,h1,h2,h3,h4,h5,h6⟩
     case measure=>simp[intOf];omega
  . have hltI:¬(i:Int)<(n:Int):=by omega
    have HXR:Hid (X=R):=zA (by rw[HXX.out,HR.out,zJ (by rw[<- HN.out];omega)]);have e1:=(HFR.out.block (w.heap.size+1) (.inr ⟨by omega,by omega⟩)).trans HCB1.out;obtain⟨⟨r0,r1,r2⟩,⟨p0,p1,p2⟩⟩:=three_cells e1;obtain⟨⟨s0,s1,s2⟩,_⟩:=three_cells HC2.out;obtain⟨hmF,hfF⟩:=add_end2 (b:=w.heap.size+1) (hi:=w.heap.size+2) (c0:=.int .u32 (f:Int)) (c1:=.int .u32 (l:Int)) (c2:=.bool em) HLOW.out HFW.out HFR.out (HMK.out.sub (fun k hk=>by
     rcases hk with hk|hk
     . exact .inl hk
     . exact .inr ⟨hk.1,by omega⟩) (.inl HSK.out)) HSK.out (by omega) (by omega)
    have hE:AddE S w mb kb ws ps R (.returned (ptV f l em)) (set3P wr (w.heap.size+1) (.int .u32 (f:Int)) (.int .u32 (l:Int)) (.bool em)):=by
     rw[<- HXR.out];exact⟨f,l,G,wu,by rw[HEM.out],HBF.out,HBL.out,hmF,HFO.out,hfF⟩
    obtain⟨⟨z0,z1,z2⟩,_⟩:=three_cells (set3P_at (c0:=.int .u32 (f:Int)) (c1:=.int .u32 (l:Int)) (c2:=.bool em) e1);have HE:=zA hE;have Z0:=zA z0;have Z1:=zA z1;have Z2:=zA z2;clear hE z0 z1 z2 hmF hfF e1;unfold set3P at HE Z0 Z1 Z2;go_wp2;refine bodyPost_ret (v:=ptV f l em) ?_ rfl HE.out;simp[results,Tryz.results83,go_sem,Z0.out,Z1.out,Z2.out]
structure TwoE (w u:World) (b c:Nat):Prop where
 os:u.os=w.os
 tape:u.tape=w.tape
 output:u.output=w.output
 size:u.heap.size=w.heap.size
 block:∀k,k≠b->k≠c->u.heap[k]?=w.heap[k]?
theorem TwoE.refl(w:World)(b c:Nat):TwoE w w b c:=⟨rfl,rfl,rfl,rfl,fun _ _ _=>rfl⟩
theorem TwoE.set1{w u:World}{b c i:Nat}(h:TwoE w u b c)(v:Value):TwoE w (u.setCell ⟨b,i,none⟩ v) b c:=⟨h.os,h.tape,h.output,by simpa using h.size,fun k h1 h2=>(zN u ⟨b,i,none⟩ v k h1).trans (h.block k h1 h2)⟩
theorem TwoE.set2{w u:World}{b c i:Nat}(h:TwoE w u b c)(v:Value):TwoE w (u.setCell ⟨c,i,none⟩ v) b c:=⟨h.os,h.tape,h.output,by simpa using h.size,fun k h1 h2=>(zN u ⟨c,i,none⟩ v k h2).trans (h.block k h1 h2)⟩
theorem heap_set0{w:World}{b:Nat}{c0 c1 c2 v:Value}{t:TypeId}(h:w.heap[b]?=some (.cells #[c0,c1,c2] t (0,0))):(w.setCell ⟨b,0,none⟩ v).heap[b]?=some (.cells #[v,c1,c2] t (0,0)):=by simp[World.setCell,Array.getElem?_modify,h]
theorem heap_set1{w:World}{b:Nat}{c0 c1 c2 v:Value}{t:TypeId}(h:w.heap[b]?=some (.cells #[c0,c1,c2] t (0,0))):(w.setCell ⟨b,1,none⟩ v).heap[b]?=some (.cells #[c0,v,c2] t (0,0)):=by simp[World.setCell,Array.getElem?_modify,h]
theorem heap_set2{w:World}{b:Nat}{c0 c1 c2 v:Value}{t:TypeId}(h:w.heap[b]?=some (.cells #[c0,c1,c2] t (0,0))):(w.setCell ⟨b,2,none⟩ v).heap[b]?=some (.cells #[c0,c1,v] t (0,0)):=by simp[World.setCell,Array.getElem?_modify,h]
set_option maxHeartbeats 4000000 in
theorem addSeq_any{k:Int}{wd:Wd}{v:Value}{kids:List Vt}(hx:∀x∈kids,AddF 53 x):AddG 82 ⟨k,wd,v,kids⟩ (foldK seqC true kids) ((kids.map fun x=>leaves x.pt).sum):=by
 intro S w mb kb ws ps F wv hS hm hf hv hl;obtain⟨ao,cap,hvv⟩:=hv.parts.1.slice;have hkl:=hv.parts.2.2.1;dsimp only at hvv hkl;subst hvv;have HX:=zA hx;have HKIDS:=zA hv.parts.1;have HKV:=zA hv.parts.2.2.2;dsimp only at HKIDS HKV;obtain⟨n,hn⟩:∃n,n=kids.length:=⟨_,rfl⟩
 rw[<- hn]at HKIDS hkl ⊢;have HN:=zA hn;obtain⟨W1,hW1⟩:∃W,W=((w.alloc (.cells #[.int .i64 k,.string ⟨wd.toArray⟩,.slice ao n cap] 25)).alloc (.cells #[.int .u32 0,.int .u32 0,.bool false] 103)).alloc (.cells #[.int .u32 0,.int .u32 0,.bool true] 103):=⟨_,rfl⟩
 have hbW:Below w.heap.size w W1:=by rw[hW1];exact(((zE _ _).alloc (zD _) _).alloc (by simp) _).alloc (by simp;omega) _
 have hsz:W1.heap.size=w.heap.size+2+1:=by rw[hW1];simp
 have hcb1:W1.heap[w.heap.size+1]?=some (.cells #[.int .u32 0,.int .u32 0,.bool false] 103 (0,0)):=by
  rw[hW1,heap_alloc_old _ _ (by simp)];exact(by simpa using heap_alloc_new (w.alloc (.cells #[.int .i64 k,.string ⟨wd.toArray⟩,.slice ao n cap] 25)) _)
 have hcb2:W1.heap[w.heap.size+2]?=some (.cells #[.int .u32 0,.int .u32 0,.bool true] 103 (0,0)):=by
  rw[hW1];exact(by simpa using heap_alloc_new ((w.alloc (.cells #[.int .i64 k,.string ⟨wd.toArray⟩,.slice ao n cap] 25)).alloc (.cells #[.int .u32 0,.int .u32 0,.bool false] 103)) _)
 have HM1:=zA (hm.plus hS hbW (w.heap.size+2+1));have hFrW:Fr S w W1:=fr_below hS hbW;have HSUM:Hid (ws.length+(kids.map fun x=>leaves x.pt).sum<=24):=zA hl;have HSK:=zA hm.sk;have HW1:=zA hW1;have HFW:=zA hFrW;have HCB1:=zA hcb1;have HCB2:=zA hcb2;have HSZ:=zA hsz;have HLOW:=zA hS;have HF:=zA hf;obtain⟨R,hR⟩:∃R,R=foldK seqC true kids:=⟨_,rfl⟩
 rw[<- hR];have HR:=zA hR;clear hv hm hf hl hx hbW hsz hcb1 hcb2 hFrW hW1 hS hn hR;show Calls Tryz.prog _ #[_,.agg #[.int .i64 k,.string ⟨wd.toArray⟩,.slice ao n cap]] w _;go_enter Tryz.func82,Tryz.ntmps82;go_wp2_with fail;rw[<- HW1.out];go_loopw [13] (fun c wr=>∃(i f l:Nat) (G:Nat->Nat) (wu:Value),i<=n/\c=.int .i64 i/\BitsOf f (up ws.length (foldK seqC true (kids.take i)).first)/\BitsOf l (up ws.length (foldK seqC true (kids.take i)).last)/\MkAt (Plus S w.heap.size (w.heap.size+2+1)) wr mb kb (ws++(foldK seqC true (kids.take i)).words) G wu/\FolOf G (ps++upP ws.length (foldK seqC true (kids.take i)).pairs)/\
  wr.heap[w.heap.size+2]?=some (.cells #[.int .u32 (f:Int),.int .u32 (l:Int),.bool (foldK seqC true (kids.take i)).empty] 103 (0,0))/\Fr (Plus S w.heap.size (w.heap.size+2)) W1 wr) (fun c _=>n-(intOf c).toNat)
 case atStart=>
  refine⟨0,0,0,F,wv,zO _,rfl,?_,?_,?_,?_,?_,Fr.refl _ _⟩
  . exact BitsOf.none.congr (fun k=>by simp[foldK,prt0,up])
  . exact BitsOf.none.congr (fun k=>by simp[foldK,prt0,up])
  . simpa[foldK,prt0]using HM1.out
  . exact HF.out.congr (fun p=>by simp[foldK,prt0,upP])
  . exact HCB2.out
 case round=>
  obtain⟨i,f,l,G,wu,hi,rfl,hbf,hbl,hmk,hfo,hc2,hfr⟩:=hrel;obtain⟨X,hX⟩:∃X,X=foldK seqC true (kids.take i):=⟨_,rfl⟩
  rw[<- hX]at hbf hbl hmk hfo hc2;have hXw:X.words.length=((kids.take i).map fun x=>leaves x.pt).sum:=by rw[hX];exact foldK_words (fun _ _=>rfl) _
  obtain⟨em,hem⟩:∃b,b=X.empty:=⟨_,rfl⟩
  rw[<- hem]at hc2;have HEM:=zA hem;have HXX:=zA hX;have HBF:=zA hbf;have HBL:=zA hbl;have HMK:=zA hmk;have HFO:=zA hfo;have HC2:=zA hc2;have HFR:=zA hfr;have HXW:=zA hXw;have HFS:Hid (Fr S w wr):=zA (HFW.out.trans (hfr.sub (fun k hk=>.inl hk)));clear hX hbf hbl hmk hfo hc2 hfr hXw hem;by_cases hlt:i<n
  . have hltI:(i:Int)<(n:Int):=by omega
    obtain⟨x,hx⟩:∃x,kids[i]?=some x:=⟨_,zB (by rw[<- HN.out];exact hlt)⟩
    have hxm:=zC hx;obtain⟨g,off,rfl,hgS,hgl,hcell⟩:=(HKIDS.out.fr HFS.out).get hx;obtain⟨q0,q1,q2⟩:=getN hcell;have hxv:=(HKV.out x hxm).fr HFS.out;obtain⟨xa,xc,hxs⟩:=hxv.parts.1.slice;have hsum:=leaves_take hx;have hstep:=foldK_succ (c:=seqC) (e:=true) hx;have hadd:=HX.out x hxm;obtain⟨Y,hY⟩:∃Y,Y=prtOf x.pt:=⟨_,rfl⟩
    have hYw:Y.words.length=leaves x.pt:=by rw[hY];exact prt_words_len _
    have hkl2:=hxv.parts.2.2.1;have hszr:w.heap.size+2<wr.heap.size:=lt_of_block HC2.out;have hLr:Low (Plus S w.heap.size (w.heap.size+2+1)) wr:=fun k hk=>by
     rcases hk with hk|hk
     . have:=HLOW.out k hk;omega
     . omega
    obtain⟨ok,hok⟩:∃o,o=Obj.cells #[.int .i64 x.kind,.string ⟨x.word.toArray⟩,x.val] 25:=⟨_,rfl⟩
    have hC:=hadd (Plus S w.heap.size (w.heap.size+2+1)) (wr.alloc ok) mb kb (ws++X.words) (ps++upP ws.length X.pairs) G wu (fun k hk=>by have:=hLr k hk;simp;omega) (HMK.out.below hLr ((zE _ _).alloc (zD _) ok)) HFO.out ((hxv.below ((zE _ _).alloc (zD _) ok)).sub (fun b hb _=>.inl hb)) (by
     have h1:=HXW.out;have h2:=HSUM.out;rw[zG];omega)
    rw[<- hY]at hC hstep;obtain⟨kk,kw,kv,kks⟩:=x;dsimp only at hxs q0 q1 q2 hok hkl2;subst hxs;have C:=zA hC;rw[hok]at C;have HOK:=zA hok;have HSTEP:=zA hstep;have HLR:=zA hLr;clear hx hxm hcell hxv hsum hstep hadd hY hYw hC hok hLr;go_wp2_with fail;refine C.out.mono ?_;rintro e w1 ⟨f2,l2,F2,wv2,rfl,hb1,hb2,hm2,hf2,hfr2⟩;have e2:=(hfr2.block (w.heap.size+2) (.inr ⟨by omega,by omega⟩)).trans ((heap_alloc_old _ _ hszr).trans HC2.out);have hsz1:w.heap.size+2<w1.heap.size:=lt_of_block e2;obtain⟨ey,hey⟩:∃b,b=Y.empty:=⟨_,rfl⟩
    rw[<- hey];obtain⟨o3,ho3⟩:∃o,o=Obj.cells #[.int .u32 (f2:Int),.int .u32 (l2:Int),.bool ey] 103:=⟨_,rfl⟩
    have hLow1:Low (Plus S w.heap.size (w.heap.size+2+1)) w1:=fun k hk=>by
     have h1:=hfr2.size;have h2:=HLR.out k hk;simp at h1;omega
    have hm3:=(hm2.below hLow1 ((zE _ _).alloc (zD _) o3)).drew;have hb3:(w1.alloc o3).drew.heap[w1.heap.size]?=some o3:=heap_alloc_new w1 o3;have e3:(w1.alloc o3).drew.heap[w.heap.size+2]?=some (.cells #[.int .u32 (f:Int),.int .u32 (l:Int),.bool em] 103 (0,0)):=by
     show (w1.alloc o3).heap[w.heap.size+2]?=_;rw[heap_alloc_old _ _ hsz1];exact e2
    have hmbn:mb≠w1.heap.size:=by have:=hm2.lt;omega
    have hmbb:mb≠w.heap.size+2:=fun e=>hm2.no (.inr ⟨by omega,by omega⟩)
    have CL:=zA (link_any hm3.fol (fun i hi=>(hf2 i hi).1) l f2 HBL.out.1 hb1.1);obtain⟨⟨t0,t1,t2⟩,_⟩:=three_cells e3;have HFOL2:=zA ((hf2.link HBL.out hb1));have HFR3:Hid (Fr (Plus S w.heap.size (w.heap.size+2)) W1 (w1.alloc o3).drew):=zA (by
     have hLowb:Low (Plus S w.heap.size (w.heap.size+2)) W1:=fun k hk=>by
      rcases hk with hk|hk
      . have:=HLOW.out k hk;have:=HFW.out.size;omega
      . have:=HSZ.out;omega
     refine(Fr.alloc ((HFR.out.alloc hLowb _).trans (hfr2.sub (fun k hk=>?_))) hLowb o3).drew;rcases hk with hk|hk
     . exact .inl hk
     . exact .inr ⟨hk.1,by omega⟩)
    have HM3:=zA hm3;have HRB:Hid (∀g,wv2.ownBlock=some g->g<w1.heap.size):=zA (fun g hg=>(hm2.row.lt g hg).2);have HB3:=zA hb3;have HE3:=zA e3;have HMN:=zA hmbn;have HMB:=zA hmbb;have HO3:=zA ho3;have HB1:=zA hb1;have HB2:=zA hb2;have HEY:=zA hey;rw[HO3.out]at CL;have hLkb:kb<w.heap.size:=HLOW.out _ HSK.out;have HKB:=zA hLkb;clear hey ho3 hm3 hb3 e3 hmbn hmbb hf2 hm2 hfr2 hLow1 e2 C hLkb hb1 hb2 t0 t1 t2;obtain⟨⟨t0,t1,t2⟩,⟨y0,y1,y2⟩⟩:=three_cells HE3.out;rw[HO3.out]at t0 t1 t2;have t0':(w1.alloc (.cells #[.int .u32 (f2:Int),.int .u32 (l2:Int),.bool ey] 103)).cell? ⟨w.heap.size+2,0,none⟩=some (.int .u32 (f:Int)):=t0;have t1':(w1.alloc (.cells #[.int .u32 (f2:Int),.int .u32 (l2:Int),.bool ey] 103)).cell? ⟨w.heap.size+2,1,none⟩=some (.int .u32 (l:Int)):=t1;have s1':w1.cell? ⟨w.heap.size+2,1,none⟩=some (.int .u32 (l:Int)):=by rw[<- t1',World.cell?_alloc_old _ _ _ (by simp;omega)]
    clear t0 t1 t2 y0 y1 y2 t0' t1';go_wp2_with fail;go_region_law (go_simp;refine CL.out.mono ?_;rintro e w4 ⟨rfl,hfol4,hlk4⟩);all_goals (
     rw[<- HO3.out]at hlk4;have hm4:=HM3.out.link hlk4 hfol4;have hfr4:=HFR3.out.link hlk4 (fun h=>HM3.out.no (by
      rcases h with h|h
      . exact .inl h
      . exact .inr ⟨h.1,by omega⟩))
     have e4:=(hlk4.block (w.heap.size+2) HMB.out.symm).trans HE3.out;have n4:=(hlk4.block w1.heap.size HMN.out.symm).trans HB3.out;rw[HO3.out]at n4;obtain⟨⟨r0,r1,r2⟩,⟨p0,p1,p2⟩⟩:=three_cells e4;obtain⟨⟨m0,m1,m2⟩,⟨x0,x1,x2⟩⟩:=three_cells n4;have hne:¬w.heap.size+2=w1.heap.size:=by omega
     have hne2:¬w1.heap.size=w.heap.size+2:=by omega
     have ho1:bits .or .u32 (f:Int) (f2:Int)=((f ||| f2:Nat):Int):=u32_or_nat f f2 (by have:=HBF.out.1;omega) (by have:=HB1.out.1;omega);have ho2:bits .or .u32 (l2:Int) (l:Int)=((l2 ||| l:Nat):Int):=u32_or_nat l2 l (by have:=HB2.out.1;omega) (by have:=HBL.out.1;omega);have HGF:Hid (BitsOf (f ||| f2) (up ws.length X.first++up (ws++X.words).length Y.first)):=zA (HBF.out.or HB1.out);have HGL:Hid (BitsOf (l2 ||| l) (up (ws++X.words).length Y.last++up ws.length X.last)):=zA (HB2.out.or HBL.out);obtain⟨f3,hf3⟩:∃q,q=f ||| f2:=⟨_,rfl⟩
     obtain⟨l3,hl3⟩:∃q,q=l2 ||| l:=⟨_,rfl⟩
     rw[<- hf3]at ho1 HGF;rw[<- hl3]at ho2 HGL;have hEND:∀(u:World) (a b:Nat),TwoE w4 u (w.heap.size+2) w1.heap.size->BitsOf a (if em=true then up ws.length X.first++up (ws++X.words).length Y.first else up ws.length X.first)->BitsOf b (if ey=true then up ws.length X.last++up (ws++X.words).length Y.last else up (ws++X.words).length Y.last)->u.heap[w.heap.size+2]?=some (.cells #[.int .u32 (a:Int),.int .u32 (b:Int),.bool (em&&ey)] 103 (0,0))->
      (∃(f l:Nat) (G:Nat->Nat) (wu:Value),BitsOf f (up ws.length (foldK seqC true (kids.take (i+1))).first)/\BitsOf l (up ws.length (foldK seqC true (kids.take (i+1))).last)/\MkAt (Plus S w.heap.size (w.heap.size+2+1)) u mb kb (ws++(foldK seqC true (kids.take (i+1))).words) G wu/\FolOf G (ps++upP ws.length (foldK seqC true (kids.take (i+1))).pairs)/\
       u.heap[w.heap.size+2]?=some (.cells #[.int .u32 (f:Int),.int .u32 (l:Int),.bool (foldK seqC true (kids.take (i+1))).empty] 103 (0,0))/\Fr (Plus S w.heap.size (w.heap.size+2)) W1 u):=fun u a b hT ha hb hu=>by
      rw[HSTEP.out,<- HXX.out];refine⟨a,b,_,wv2,?_,?_,?_,HFOL2.out.congr (fun p=>?_),?_,?_⟩
      . refine ha.congr (fun k=>?_);rw[HEM.out,seqC,zG];show _↔k∈up ws.length (if X.empty=true then X.first++up X.words.length Y.first else X.first);split
        . rw[up_append,up_up]
        . rfl
      . refine hb.congr (fun k=>?_);rw[HEY.out,seqC,zG];show _↔k∈up ws.length (if Y.empty=true then X.last++up X.words.length Y.last else up X.words.length Y.last);split
        . rw[up_append,up_up]
        . rw[up_up]
      . rw[show (seqC X Y).words=X.words++Y.words from rfl,<- List.append_assoc];exact hm4.keep (by rw[hT.size];omega) (hT.block mb HMB.out HMN.out) (hT.block kb (by have:=HKB.out;omega) (by have:=HKB.out;omega)) (fun g hg=>hT.block g (fun e=>(hm4.rno g hg).1 (.inr ⟨by omega,by omega⟩)) (by have:=HRB.out g hg;omega))
      . rw[seqC,upP_append,upP_append,upP_upP,cross_up,up_up,zG,<- List.append_assoc,<- List.append_assoc]
      . rw[hu,HEM.out,HEY.out];rfl
      . exact hfr4.trans ⟨hT.os,hT.tape,hT.output,by rw[hT.size];exact zD _,fun k hk=>hT.block k (fun e=>by
         rcases hk with hk|hk
         . have:=HLOW.out k hk;omega
         . omega) (fun e=>by
         rcases hk with hk|hk
         . have:=HLOW.out k hk;omega
         . omega)⟩
     have HEND:=zA hEND;have E4:=zA e4;have HFF:=zA hf3;have HLL:=zA hl3;clear hEND hm4 hfr4 e4 n4 hfol4 hlk4 hf3 hl3;cases em with
     |true=>
      cases ey with
      |true=>
       have hD:=HEND.out ((((((((w4).setCell ⟨w.heap.size+2,0,none⟩ (.int .u32 (f3:Int)))).setCell ⟨w1.heap.size,1,none⟩ (.int .u32 (l3:Int)))).setCell ⟨w.heap.size+2,1,none⟩ (.int .u32 (l3:Int)))).setCell ⟨w.heap.size+2,2,none⟩ (.bool true)) f3 l3 (((((TwoE.refl _ _ _).set1 (.int .u32 (f3:Int))).set2 (.int .u32 (l3:Int))).set1 (.int .u32 (l3:Int))).set1 (.bool true)) (by first|exact HGF.out|simpa using HGF.out) (by first|exact(HGL.out.congr (fun k=>by rw[if_pos rfl,zM,zM,or_comm]))|simpa using (HGL.out.congr (fun k=>by rw[if_pos rfl,zM,zM,or_comm]))) (by exact heap_set2 (heap_set1 ((zN _ _ _ _ (by exact hne)).trans (heap_set0 (E4.out)))));have HD:=zA hD;clear hD HEND;go_wp2;go_roundw
       case rel=>
        obtain⟨f,l,G,wu,h1,h2,h3,h4,h5,h6⟩:=HD.out;exact⟨i+1,f,l,G,wu,by omega,by go_num,h1,h2,h3,h4,h5,h6⟩
       case measure=>simp[intOf];omega
      |false=>
       have hD:=HEND.out ((((((w4).setCell ⟨w.heap.size+2,0,none⟩ (.int .u32 (f3:Int)))).setCell ⟨w.heap.size+2,1,none⟩ (.int .u32 (l2:Int)))).setCell ⟨w.heap.size+2,2,none⟩ (.bool false)) f3 l2 ((((TwoE.refl _ _ _).set1 (.int .u32 (f3:Int))).set1 (.int .u32 (l2:Int))).set1 (.bool false)) (by first|exact HGF.out|simpa using HGF.out) (by first|exact(HB2.out)|simpa using (HB2.out)) (by exact heap_set2 (heap_set1 (heap_set0 (E4.out))));have HD:=zA hD;clear hD HEND;go_wp2;go_roundw
       case rel=>
        obtain⟨f,l,G,wu,h1,h2,h3,h4,h5,h6⟩:=HD.out;exact⟨i+1,f,l,G,wu,by omega,by go_num,h1,h2,h3,h4,h5,h6⟩
       case measure=>simp[intOf];omega
     |false=>
      cases ey with
      |true=>
       have hD:=HEND.out ((((((w4).setCell ⟨w1.heap.size,1,none⟩ (.int .u32 (l3:Int)))).setCell ⟨w.heap.size+2,1,none⟩ (.int .u32 (l3:Int)))).setCell ⟨w.heap.size+2,2,none⟩ (.bool false)) f l3 ((((TwoE.refl _ _ _).set2 (.int .u32 (l3:Int))).set1 (.int .u32 (l3:Int))).set1 (.bool false)) (by first|exact HBF.out|simpa using HBF.out) (by first|exact(HGL.out.congr (fun k=>by rw[if_pos rfl,zM,zM,or_comm]))|simpa using (HGL.out.congr (fun k=>by rw[if_pos rfl,zM,zM,or_comm]))) (by exact heap_set2 (heap_set1 ((zN _ _ _ _ (by exact hne)).trans (E4.out))));have HD:=zA hD;clear hD HEND;go_wp2;go_roundw
       case rel=>
        obtain⟨f,l,G,wu,h1,h2,h3,h4,h5,h6⟩:=HD.out;exact⟨i+1,f,l,G,wu,by omega,by go_num,h1,h2,h3,h4,h5,h6⟩
       case measure=>simp[intOf];omega
      |false=>
       have hD:=HEND.out ((((w4).setCell ⟨w.heap.size+2,1,none⟩ (.int .u32 (l2:Int)))).setCell ⟨w.heap.size+2,2,none⟩ (.bool false)) f l2 (((TwoE.refl _ _ _).set1 (.int .u32 (l2:Int))).set1 (.bool false)) (by first|exact HBF.out|simpa using HBF.out) (by first|exact(HB2.out)|simpa using (HB2.out)) (by exact heap_set2 (heap_set1 (E4.out)));have HD:=zA hD;clear hD HEND;go_wp2;go_roundw
       case rel=>
        obtain⟨f,l,G,wu,h1,h2,h3,h4,h5,h6⟩:=HD.out;exact⟨i+1,f,l,G,wu,by omega,by go_num,h1,h2,h3,h4,h5,h6⟩
       case measure=>simp[intOf];omega)
  . have hltI:¬(i:Int)<(n:Int):=by omega
    have HXR:Hid (X=R):=zA (by rw[HXX.out,HR.out,zJ (by rw[<- HN.out];omega)]);have e1:=(HFR.out.block (w.heap.size+1) (.inr ⟨by omega,by omega⟩)).trans HCB1.out;obtain⟨⟨r0,r1,r2⟩,⟨p0,p1,p2⟩⟩:=three_cells e1;obtain⟨⟨s0,s1,s2⟩,_⟩:=three_cells HC2.out;obtain⟨hmF,hfF⟩:=add_end2 (b:=w.heap.size+1) (hi:=w.heap.size+2) (c0:=.int .u32 (f:Int)) (c1:=.int .u32 (l:Int)) (c2:=.bool em) HLOW.out HFW.out HFR.out (HMK.out.sub (fun k hk=>by
     rcases hk with hk|hk
     . exact .inl hk
     . exact .inr ⟨hk.1,by omega⟩) (.inl HSK.out)) HSK.out (by omega) (by omega)
    have hE:AddE S w mb kb ws ps R (.returned (ptV f l em)) (set3P wr (w.heap.size+1) (.int .u32 (f:Int)) (.int .u32 (l:Int)) (.bool em)):=by
     rw[<- HXR.out];exact⟨f,l,G,wu,by rw[HEM.out],HBF.out,HBL.out,hmF,HFO.out,hfF⟩
    obtain⟨⟨z0,z1,z2⟩,_⟩:=three_cells (set3P_at (c0:=.int .u32 (f:Int)) (c1:=.int .u32 (l:Int)) (c2:=.bool em) e1);have HE:=zA hE;have Z0:=zA z0;have Z1:=zA z1;have Z2:=zA z2;clear hE z0 z1 z2 hmF hfF e1;unfold set3P at HE Z0 Z1 Z2;go_wp2;refine bodyPost_ret (v:=ptV f l em) ?_ rfl HE.out;simp[results,Tryz.results82,go_sem,Z0.out,Z1.out,Z2.out]
set_option maxHeartbeats 2000000 in
theorem add_of1{t:Vt}(hK:t.kind=1)(hM:AddF 81 t):AddF 53 t:=by
 intro S w mb kb ws ps F wv hS hm hf hv hl;obtain⟨ao,cap,hvv⟩:=hv.parts.1.slice;have hkl:=hv.parts.2.2.1;obtain⟨j,hfind⟩:=kinds_find mb (k:=1) (by omega) (by omega);have hfn:fnK 1=81:=by rfl
 rw[hfn]at hfind;obtain⟨X,hX⟩:∃X,X=prtOf t.pt:=⟨_,rfl⟩
 have hM2:AddG 81 t X (leaves t.pt):=by rw[hX];exact hM
 obtain⟨W1,hW1⟩:∃W,W=(w.alloc (.cells #[.int .i64 t.kind,.string ⟨t.word.toArray⟩,t.val] 25)).alloc (.cells #[.int .u32 0,.int .u32 0,.bool false] 103):=⟨_,rfl⟩
 have hbW:Below w.heap.size w W1:=by rw[hW1];exact((zE _ _).alloc (zD _) _).alloc (by simp) _
 have hsz:W1.heap.size=w.heap.size+2:=by rw[hW1];simp
 have hcb:W1.heap[w.heap.size+1]?=some (.cells #[.int .u32 0,.int .u32 0,.bool false] 103 (0,0)):=by rw[hW1];exact(by simpa using heap_alloc_new (w.alloc (.cells #[.int .i64 t.kind,.string ⟨t.word.toArray⟩,t.val] 25)) _)
 have hLowP:Low (Plus S w.heap.size (w.heap.size+2)) W1:=by have:=hS.plus hbW.size;rw[hsz]at this;exact this
 have hm1:=(hm.plus hS hbW (w.heap.size+2))
 have hFrW:Fr S w W1:=fr_below hS hbW;have C:=zA (hM2 (Plus S w.heap.size (w.heap.size+2)) W1.drew mb kb ws ps F wv hLowP hm1.drew hf (VOk.keep (S:=S) (w:=W1) (w':=W1.drew) (zD _) (fun b hb _=>⟨Or.inl hb,rfl⟩) t (hv.below hbW)) hl);have hlk:(Instr.lookup 148 (.map (some kb)) (.int .i64 1) false).run Tryz.prog W1.drew=.ok (.func (.func 81) #[.pointer (some ⟨mb,0,none⟩)] #[]) W1.drew:=run_lookup_at underKinds Tryz.underlying3 hm1.drew.map hfind;have q25:=hm1.c25;have HSK:=zA hm.sk;have HW1:=zA hW1;have HFW:=zA hFrW;have HCB:=zA hcb;have HSZ:=zA hsz;have HLOW:=zA hS;rw[<- hX];obtain⟨k,wd,v,kids⟩:=t;dsimp only at hvv hkl HW1 hK;subst hvv hK;obtain⟨b0,b1,b2⟩:W1.cell? ⟨w.heap.size,0,none⟩=some (.int .i64 1)/\W1.cell? ⟨w.heap.size,1,none⟩=some (.string ⟨wd.toArray⟩)/\W1.cell? ⟨w.heap.size,2,none⟩=some (.slice ao kids.length cap):=by rw[HW1.out];simp
 obtain⟨⟨r0,r1,r2⟩,⟨p0,p1,p2⟩⟩:=three_cells HCB.out;clear hv hm hf hl hM hM2 hbW hsz hcb hLowP hFrW hW1 hX hS hm1 hfind hfn;show Calls Tryz.prog _ #[_,.agg #[.int .i64 1,.string ⟨wd.toArray⟩,.slice ao kids.length cap]] w _;go_enter Tryz.func53,Tryz.ntmps53;go_wp2_with fail;rw[<- HW1.out];go_region_law (go_simp;refine C.out.mono ?_;rintro e w1 ⟨f,l,F2,wv2,rfl,hb1,hb2,hm2,hf2,hfr2⟩;have e1:=(hfr2.block (w.heap.size+1) (.inr ⟨by omega,by omega⟩)).trans HCB.out;obtain⟨⟨v0,v1,v2⟩,⟨u0,u1,u2⟩⟩:=three_cells e1);all_goals (
  obtain⟨hmF,hfF⟩:=add_end2 (b:=w.heap.size+1) (c0:=.int .u32 (f:Int)) (c1:=.int .u32 (l:Int)) (c2:=.bool X.empty) HLOW.out HFW.out ((Fr.refl _ W1).drew.trans hfr2) hm2 HSK.out (by omega) (by omega);have hE:AddE S w mb kb ws ps X (.returned (ptV f l X.empty)) (set3P w1 (w.heap.size+1) (.int .u32 (f:Int)) (.int .u32 (l:Int)) (.bool X.empty)):=⟨f,l,F2,wv2,rfl,hb1,hb2,hmF,hf2,hfF⟩
  obtain⟨⟨z0,z1,z2⟩,_⟩:=three_cells (set3P_at (c0:=.int .u32 (f:Int)) (c1:=.int .u32 (l:Int)) (c2:=.bool X.empty) e1);have HE:=zA hE;have Z0:=zA z0;have Z1:=zA z1;have Z2:=zA z2;clear hE z0 z1 z2 hmF hfF hb1 hb2 hm2 hf2 hfr2 e1;unfold set3P at HE Z0 Z1 Z2;go_wp2;refine bodyPost_ret (v:=ptV f l X.empty) ?_ rfl HE.out;simp[results,Tryz.results53,go_sem,Z0.out,Z1.out,Z2.out])
set_option maxHeartbeats 2000000 in
theorem add_of2{t:Vt}(hK:t.kind=2)(hM:AddF 82 t):AddF 53 t:=by
 intro S w mb kb ws ps F wv hS hm hf hv hl;obtain⟨ao,cap,hvv⟩:=hv.parts.1.slice;have hkl:=hv.parts.2.2.1;obtain⟨j,hfind⟩:=kinds_find mb (k:=2) (by omega) (by omega);have hfn:fnK 2=82:=by rfl
 rw[hfn]at hfind;obtain⟨X,hX⟩:∃X,X=prtOf t.pt:=⟨_,rfl⟩
 have hM2:AddG 82 t X (leaves t.pt):=by rw[hX];exact hM
 obtain⟨W1,hW1⟩:∃W,W=(w.alloc (.cells #[.int .i64 t.kind,.string ⟨t.word.toArray⟩,t.val] 25)).alloc (.cells #[.int .u32 0,.int .u32 0,.bool false] 103):=⟨_,rfl⟩
 have hbW:Below w.heap.size w W1:=by rw[hW1];exact((zE _ _).alloc (zD _) _).alloc (by simp) _
 have hsz:W1.heap.size=w.heap.size+2:=by rw[hW1];simp
 have hcb:W1.heap[w.heap.size+1]?=some (.cells #[.int .u32 0,.int .u32 0,.bool false] 103 (0,0)):=by rw[hW1];exact(by simpa using heap_alloc_new (w.alloc (.cells #[.int .i64 t.kind,.string ⟨t.word.toArray⟩,t.val] 25)) _)
 have hLowP:Low (Plus S w.heap.size (w.heap.size+2)) W1:=by have:=hS.plus hbW.size;rw[hsz]at this;exact this
 have hm1:=(hm.plus hS hbW (w.heap.size+2))
 have hFrW:Fr S w W1:=fr_below hS hbW;have C:=zA (hM2 (Plus S w.heap.size (w.heap.size+2)) W1.drew mb kb ws ps F wv hLowP hm1.drew hf (VOk.keep (S:=S) (w:=W1) (w':=W1.drew) (zD _) (fun b hb _=>⟨Or.inl hb,rfl⟩) t (hv.below hbW)) hl);have hlk:(Instr.lookup 148 (.map (some kb)) (.int .i64 2) false).run Tryz.prog W1.drew=.ok (.func (.func 82) #[.pointer (some ⟨mb,0,none⟩)] #[]) W1.drew:=run_lookup_at underKinds Tryz.underlying3 hm1.drew.map hfind;have q25:=hm1.c25;have HSK:=zA hm.sk;have HW1:=zA hW1;have HFW:=zA hFrW;have HCB:=zA hcb;have HSZ:=zA hsz;have HLOW:=zA hS;rw[<- hX];obtain⟨k,wd,v,kids⟩:=t;dsimp only at hvv hkl HW1 hK;subst hvv hK;obtain⟨b0,b1,b2⟩:W1.cell? ⟨w.heap.size,0,none⟩=some (.int .i64 2)/\W1.cell? ⟨w.heap.size,1,none⟩=some (.string ⟨wd.toArray⟩)/\W1.cell? ⟨w.heap.size,2,none⟩=some (.slice ao kids.length cap):=by rw[HW1.out];simp
 obtain⟨⟨r0,r1,r2⟩,⟨p0,p1,p2⟩⟩:=three_cells HCB.out;clear hv hm hf hl hM hM2 hbW hsz hcb hLowP hFrW hW1 hX hS hm1 hfind hfn;show Calls Tryz.prog _ #[_,.agg #[.int .i64 2,.string ⟨wd.toArray⟩,.slice ao kids.length cap]] w _;go_enter Tryz.func53,Tryz.ntmps53;go_wp2_with fail;rw[<- HW1.out];go_region_law (go_simp;refine C.out.mono ?_;rintro e w1 ⟨f,l,F2,wv2,rfl,hb1,hb2,hm2,hf2,hfr2⟩;have e1:=(hfr2.block (w.heap.size+1) (.inr ⟨by omega,by omega⟩)).trans HCB.out;obtain⟨⟨v0,v1,v2⟩,⟨u0,u1,u2⟩⟩:=three_cells e1);all_goals (
  obtain⟨hmF,hfF⟩:=add_end2 (b:=w.heap.size+1) (c0:=.int .u32 (f:Int)) (c1:=.int .u32 (l:Int)) (c2:=.bool X.empty) HLOW.out HFW.out ((Fr.refl _ W1).drew.trans hfr2) hm2 HSK.out (by omega) (by omega);have hE:AddE S w mb kb ws ps X (.returned (ptV f l X.empty)) (set3P w1 (w.heap.size+1) (.int .u32 (f:Int)) (.int .u32 (l:Int)) (.bool X.empty)):=⟨f,l,F2,wv2,rfl,hb1,hb2,hmF,hf2,hfF⟩
  obtain⟨⟨z0,z1,z2⟩,_⟩:=three_cells (set3P_at (c0:=.int .u32 (f:Int)) (c1:=.int .u32 (l:Int)) (c2:=.bool X.empty) e1);have HE:=zA hE;have Z0:=zA z0;have Z1:=zA z1;have Z2:=zA z2;clear hE z0 z1 z2 hmF hfF hb1 hb2 hm2 hf2 hfr2 e1;unfold set3P at HE Z0 Z1 Z2;go_wp2;refine bodyPost_ret (v:=ptV f l X.empty) ?_ rfl HE.out;simp[results,Tryz.results53,go_sem,Z0.out,Z1.out,Z2.out])
set_option maxHeartbeats 2000000 in
theorem add_of3{t:Vt}(hK:t.kind=3)(hM:AddF 83 t):AddF 53 t:=by
 intro S w mb kb ws ps F wv hS hm hf hv hl;obtain⟨ao,cap,hvv⟩:=hv.parts.1.slice;have hkl:=hv.parts.2.2.1;obtain⟨j,hfind⟩:=kinds_find mb (k:=3) (by omega) (by omega);have hfn:fnK 3=83:=by rfl
 rw[hfn]at hfind;obtain⟨X,hX⟩:∃X,X=prtOf t.pt:=⟨_,rfl⟩
 have hM2:AddG 83 t X (leaves t.pt):=by rw[hX];exact hM
 obtain⟨W1,hW1⟩:∃W,W=(w.alloc (.cells #[.int .i64 t.kind,.string ⟨t.word.toArray⟩,t.val] 25)).alloc (.cells #[.int .u32 0,.int .u32 0,.bool false] 103):=⟨_,rfl⟩
 have hbW:Below w.heap.size w W1:=by rw[hW1];exact((zE _ _).alloc (zD _) _).alloc (by simp) _
 have hsz:W1.heap.size=w.heap.size+2:=by rw[hW1];simp
 have hcb:W1.heap[w.heap.size+1]?=some (.cells #[.int .u32 0,.int .u32 0,.bool false] 103 (0,0)):=by rw[hW1];exact(by simpa using heap_alloc_new (w.alloc (.cells #[.int .i64 t.kind,.string ⟨t.word.toArray⟩,t.val] 25)) _)
 have hLowP:Low (Plus S w.heap.size (w.heap.size+2)) W1:=by have:=hS.plus hbW.size;rw[hsz]at this;exact this
 have hm1:=(hm.plus hS hbW (w.heap.size+2))
 have hFrW:Fr S w W1:=fr_below hS hbW;have C:=zA (hM2 (Plus S w.heap.size (w.heap.size+2)) W1.drew mb kb ws ps F wv hLowP hm1.drew hf (VOk.keep (S:=S) (w:=W1) (w':=W1.drew) (zD _) (fun b hb _=>⟨Or.inl hb,rfl⟩) t (hv.below hbW)) hl);have hlk:(Instr.lookup 148 (.map (some kb)) (.int .i64 3) false).run Tryz.prog W1.drew=.ok (.func (.func 83) #[.pointer (some ⟨mb,0,none⟩)] #[]) W1.drew:=run_lookup_at underKinds Tryz.underlying3 hm1.drew.map hfind;have q25:=hm1.c25;have HSK:=zA hm.sk;have HW1:=zA hW1;have HFW:=zA hFrW;have HCB:=zA hcb;have HSZ:=zA hsz;have HLOW:=zA hS;rw[<- hX];obtain⟨k,wd,v,kids⟩:=t;dsimp only at hvv hkl HW1 hK;subst hvv hK;obtain⟨b0,b1,b2⟩:W1.cell? ⟨w.heap.size,0,none⟩=some (.int .i64 3)/\W1.cell? ⟨w.heap.size,1,none⟩=some (.string ⟨wd.toArray⟩)/\W1.cell? ⟨w.heap.size,2,none⟩=some (.slice ao kids.length cap):=by rw[HW1.out];simp
 obtain⟨⟨r0,r1,r2⟩,⟨p0,p1,p2⟩⟩:=three_cells HCB.out;clear hv hm hf hl hM hM2 hbW hsz hcb hLowP hFrW hW1 hX hS hm1 hfind hfn;show Calls Tryz.prog _ #[_,.agg #[.int .i64 3,.string ⟨wd.toArray⟩,.slice ao kids.length cap]] w _;go_enter Tryz.func53,Tryz.ntmps53;go_wp2_with fail;rw[<- HW1.out];go_region_law (go_simp;refine C.out.mono ?_;rintro e w1 ⟨f,l,F2,wv2,rfl,hb1,hb2,hm2,hf2,hfr2⟩;have e1:=(hfr2.block (w.heap.size+1) (.inr ⟨by omega,by omega⟩)).trans HCB.out;obtain⟨⟨v0,v1,v2⟩,⟨u0,u1,u2⟩⟩:=three_cells e1);all_goals (
  obtain⟨hmF,hfF⟩:=add_end2 (b:=w.heap.size+1) (c0:=.int .u32 (f:Int)) (c1:=.int .u32 (l:Int)) (c2:=.bool X.empty) HLOW.out HFW.out ((Fr.refl _ W1).drew.trans hfr2) hm2 HSK.out (by omega) (by omega);have hE:AddE S w mb kb ws ps X (.returned (ptV f l X.empty)) (set3P w1 (w.heap.size+1) (.int .u32 (f:Int)) (.int .u32 (l:Int)) (.bool X.empty)):=⟨f,l,F2,wv2,rfl,hb1,hb2,hmF,hf2,hfF⟩
  obtain⟨⟨z0,z1,z2⟩,_⟩:=three_cells (set3P_at (c0:=.int .u32 (f:Int)) (c1:=.int .u32 (l:Int)) (c2:=.bool X.empty) e1);have HE:=zA hE;have Z0:=zA z0;have Z1:=zA z1;have Z2:=zA z2;clear hE z0 z1 z2 hmF hfF hb1 hb2 hm2 hf2 hfr2 e1;unfold set3P at HE Z0 Z1 Z2;go_wp2;refine bodyPost_ret (v:=ptV f l X.empty) ?_ rfl HE.out;simp[results,Tryz.results53,go_sem,Z0.out,Z1.out,Z2.out])
set_option maxHeartbeats 2000000 in
theorem add_of4{t:Vt}(hK:t.kind=4)(hM:AddF 84 t):AddF 53 t:=by
 intro S w mb kb ws ps F wv hS hm hf hv hl;obtain⟨ao,cap,hvv⟩:=hv.parts.1.slice;have hkl:=hv.parts.2.2.1;obtain⟨j,hfind⟩:=kinds_find mb (k:=4) (by omega) (by omega);have hfn:fnK 4=84:=by rfl
 rw[hfn]at hfind;obtain⟨X,hX⟩:∃X,X=prtOf t.pt:=⟨_,rfl⟩
 have hM2:AddG 84 t X (leaves t.pt):=by rw[hX];exact hM
 obtain⟨W1,hW1⟩:∃W,W=(w.alloc (.cells #[.int .i64 t.kind,.string ⟨t.word.toArray⟩,t.val] 25)).alloc (.cells #[.int .u32 0,.int .u32 0,.bool false] 103):=⟨_,rfl⟩
 have hbW:Below w.heap.size w W1:=by rw[hW1];exact((zE _ _).alloc (zD _) _).alloc (by simp) _
 have hsz:W1.heap.size=w.heap.size+2:=by rw[hW1];simp
 have hcb:W1.heap[w.heap.size+1]?=some (.cells #[.int .u32 0,.int .u32 0,.bool false] 103 (0,0)):=by rw[hW1];exact(by simpa using heap_alloc_new (w.alloc (.cells #[.int .i64 t.kind,.string ⟨t.word.toArray⟩,t.val] 25)) _)
 have hLowP:Low (Plus S w.heap.size (w.heap.size+2)) W1:=by have:=hS.plus hbW.size;rw[hsz]at this;exact this
 have hm1:=(hm.plus hS hbW (w.heap.size+2))
 have hFrW:Fr S w W1:=fr_below hS hbW;have C:=zA (hM2 (Plus S w.heap.size (w.heap.size+2)) W1.drew mb kb ws ps F wv hLowP hm1.drew hf (VOk.keep (S:=S) (w:=W1) (w':=W1.drew) (zD _) (fun b hb _=>⟨Or.inl hb,rfl⟩) t (hv.below hbW)) hl);have hlk:(Instr.lookup 148 (.map (some kb)) (.int .i64 4) false).run Tryz.prog W1.drew=.ok (.func (.func 84) #[.pointer (some ⟨mb,0,none⟩)] #[]) W1.drew:=run_lookup_at underKinds Tryz.underlying3 hm1.drew.map hfind;have q25:=hm1.c25;have HSK:=zA hm.sk;have HW1:=zA hW1;have HFW:=zA hFrW;have HCB:=zA hcb;have HSZ:=zA hsz;have HLOW:=zA hS;rw[<- hX];obtain⟨k,wd,v,kids⟩:=t;dsimp only at hvv hkl HW1 hK;subst hvv hK;obtain⟨b0,b1,b2⟩:W1.cell? ⟨w.heap.size,0,none⟩=some (.int .i64 4)/\W1.cell? ⟨w.heap.size,1,none⟩=some (.string ⟨wd.toArray⟩)/\W1.cell? ⟨w.heap.size,2,none⟩=some (.slice ao kids.length cap):=by rw[HW1.out];simp
 obtain⟨⟨r0,r1,r2⟩,⟨p0,p1,p2⟩⟩:=three_cells HCB.out;clear hv hm hf hl hM hM2 hbW hsz hcb hLowP hFrW hW1 hX hS hm1 hfind hfn;show Calls Tryz.prog _ #[_,.agg #[.int .i64 4,.string ⟨wd.toArray⟩,.slice ao kids.length cap]] w _;go_enter Tryz.func53,Tryz.ntmps53;go_wp2_with fail;rw[<- HW1.out];go_region_law (go_simp;refine C.out.mono ?_;rintro e w1 ⟨f,l,F2,wv2,rfl,hb1,hb2,hm2,hf2,hfr2⟩;have e1:=(hfr2.block (w.heap.size+1) (.inr ⟨by omega,by omega⟩)).trans HCB.out;obtain⟨⟨v0,v1,v2⟩,⟨u0,u1,u2⟩⟩:=three_cells e1);all_goals (
  obtain⟨hmF,hfF⟩:=add_end2 (b:=w.heap.size+1) (c0:=.int .u32 (f:Int)) (c1:=.int .u32 (l:Int)) (c2:=.bool X.empty) HLOW.out HFW.out ((Fr.refl _ W1).drew.trans hfr2) hm2 HSK.out (by omega) (by omega);have hE:AddE S w mb kb ws ps X (.returned (ptV f l X.empty)) (set3P w1 (w.heap.size+1) (.int .u32 (f:Int)) (.int .u32 (l:Int)) (.bool X.empty)):=⟨f,l,F2,wv2,rfl,hb1,hb2,hmF,hf2,hfF⟩
  obtain⟨⟨z0,z1,z2⟩,_⟩:=three_cells (set3P_at (c0:=.int .u32 (f:Int)) (c1:=.int .u32 (l:Int)) (c2:=.bool X.empty) e1);have HE:=zA hE;have Z0:=zA z0;have Z1:=zA z1;have Z2:=zA z2;clear hE z0 z1 z2 hmF hfF hb1 hb2 hm2 hf2 hfr2 e1;unfold set3P at HE Z0 Z1 Z2;go_wp2;refine bodyPost_ret (v:=ptV f l X.empty) ?_ rfl HE.out;simp[results,Tryz.results53,go_sem,Z0.out,Z1.out,Z2.out])
set_option maxHeartbeats 2000000 in
theorem add_of5{t:Vt}(hK:t.kind=5)(hM:AddF 85 t):AddF 53 t:=by
 intro S w mb kb ws ps F wv hS hm hf hv hl;obtain⟨ao,cap,hvv⟩:=hv.parts.1.slice;have hkl:=hv.parts.2.2.1;obtain⟨j,hfind⟩:=kinds_find mb (k:=5) (by omega) (by omega);have hfn:fnK 5=85:=by rfl
 rw[hfn]at hfind;obtain⟨X,hX⟩:∃X,X=prtOf t.pt:=⟨_,rfl⟩
 have hM2:AddG 85 t X (leaves t.pt):=by rw[hX];exact hM
 obtain⟨W1,hW1⟩:∃W,W=(w.alloc (.cells #[.int .i64 t.kind,.string ⟨t.word.toArray⟩,t.val] 25)).alloc (.cells #[.int .u32 0,.int .u32 0,.bool false] 103):=⟨_,rfl⟩
 have hbW:Below w.heap.size w W1:=by rw[hW1];exact((zE _ _).alloc (zD _) _).alloc (by simp) _
 have hsz:W1.heap.size=w.heap.size+2:=by rw[hW1];simp
 have hcb:W1.heap[w.heap.size+1]?=some (.cells #[.int .u32 0,.int .u32 0,.bool false] 103 (0,0)):=by rw[hW1];exact(by simpa using heap_alloc_new (w.alloc (.cells #[.int .i64 t.kind,.string ⟨t.word.toArray⟩,t.val] 25)) _)
 have hLowP:Low (Plus S w.heap.size (w.heap.size+2)) W1:=by have:=hS.plus hbW.size;rw[hsz]at this;exact this
 have hm1:=(hm.plus hS hbW (w.heap.size+2))
 have hFrW:Fr S w W1:=fr_below hS hbW;have C:=zA (hM2 (Plus S w.heap.size (w.heap.size+2)) W1.drew mb kb ws ps F wv hLowP hm1.drew hf (VOk.keep (S:=S) (w:=W1) (w':=W1.drew) (zD _) (fun b hb _=>⟨Or.inl hb,rfl⟩) t (hv.below hbW)) hl);have hlk:(Instr.lookup 148 (.map (some kb)) (.int .i64 5) false).run Tryz.prog W1.drew=.ok (.func (.func 85) #[.pointer (some ⟨mb,0,none⟩)] #[]) W1.drew:=run_lookup_at underKinds Tryz.underlying3 hm1.drew.map hfind;have q25:=hm1.c25;have HSK:=zA hm.sk;have HW1:=zA hW1;have HFW:=zA hFrW;have HCB:=zA hcb;have HSZ:=zA hsz;have HLOW:=zA hS;rw[<- hX];obtain⟨k,wd,v,kids⟩:=t;dsimp only at hvv hkl HW1 hK;subst hvv hK;obtain⟨b0,b1,b2⟩:W1.cell? ⟨w.heap.size,0,none⟩=some (.int .i64 5)/\W1.cell? ⟨w.heap.size,1,none⟩=some (.string ⟨wd.toArray⟩)/\W1.cell? ⟨w.heap.size,2,none⟩=some (.slice ao kids.length cap):=by rw[HW1.out];simp
 obtain⟨⟨r0,r1,r2⟩,⟨p0,p1,p2⟩⟩:=three_cells HCB.out;clear hv hm hf hl hM hM2 hbW hsz hcb hLowP hFrW hW1 hX hS hm1 hfind hfn;show Calls Tryz.prog _ #[_,.agg #[.int .i64 5,.string ⟨wd.toArray⟩,.slice ao kids.length cap]] w _;go_enter Tryz.func53,Tryz.ntmps53;go_wp2_with fail;rw[<- HW1.out];go_region_law (go_simp;refine C.out.mono ?_;rintro e w1 ⟨f,l,F2,wv2,rfl,hb1,hb2,hm2,hf2,hfr2⟩;have e1:=(hfr2.block (w.heap.size+1) (.inr ⟨by omega,by omega⟩)).trans HCB.out;obtain⟨⟨v0,v1,v2⟩,⟨u0,u1,u2⟩⟩:=three_cells e1);all_goals (
  obtain⟨hmF,hfF⟩:=add_end2 (b:=w.heap.size+1) (c0:=.int .u32 (f:Int)) (c1:=.int .u32 (l:Int)) (c2:=.bool X.empty) HLOW.out HFW.out ((Fr.refl _ W1).drew.trans hfr2) hm2 HSK.out (by omega) (by omega);have hE:AddE S w mb kb ws ps X (.returned (ptV f l X.empty)) (set3P w1 (w.heap.size+1) (.int .u32 (f:Int)) (.int .u32 (l:Int)) (.bool X.empty)):=⟨f,l,F2,wv2,rfl,hb1,hb2,hmF,hf2,hfF⟩
  obtain⟨⟨z0,z1,z2⟩,_⟩:=three_cells (set3P_at (c0:=.int .u32 (f:Int)) (c1:=.int .u32 (l:Int)) (c2:=.bool X.empty) e1);have HE:=zA hE;have Z0:=zA z0;have Z1:=zA z1;have Z2:=zA z2;clear hE z0 z1 z2 hmF hfF hb1 hb2 hm2 hf2 hfr2 e1;unfold set3P at HE Z0 Z1 Z2;go_wp2;refine bodyPost_ret (v:=ptV f l X.empty) ?_ rfl HE.out;simp[results,Tryz.results53,go_sem,Z0.out,Z1.out,Z2.out])
set_option maxHeartbeats 2000000 in
theorem add_of6{t:Vt}(hK:t.kind=6)(hM:AddF 86 t):AddF 53 t:=by
 intro S w mb kb ws ps F wv hS hm hf hv hl;obtain⟨ao,cap,hvv⟩:=hv.parts.1.slice;have hkl:=hv.parts.2.2.1;obtain⟨j,hfind⟩:=kinds_find mb (k:=6) (by omega) (by omega);have hfn:fnK 6=86:=by rfl
 rw[hfn]at hfind;obtain⟨X,hX⟩:∃X,X=prtOf t.pt:=⟨_,rfl⟩
 have hM2:AddG 86 t X (leaves t.pt):=by rw[hX];exact hM
 obtain⟨W1,hW1⟩:∃W,W=(w.alloc (.cells #[.int .i64 t.kind,.string ⟨t.word.toArray⟩,t.val] 25)).alloc (.cells #[.int .u32 0,.int .u32 0,.bool false] 103):=⟨_,rfl⟩
 have hbW:Below w.heap.size w W1:=by rw[hW1];exact((zE _ _).alloc (zD _) _).alloc (by simp) _
 have hsz:W1.heap.size=w.heap.size+2:=by rw[hW1];simp
 have hcb:W1.heap[w.heap.size+1]?=some (.cells #[.int .u32 0,.int .u32 0,.bool false] 103 (0,0)):=by rw[hW1];exact(by simpa using heap_alloc_new (w.alloc (.cells #[.int .i64 t.kind,.string ⟨t.word.toArray⟩,t.val] 25)) _)
 have hLowP:Low (Plus S w.heap.size (w.heap.size+2)) W1:=by have:=hS.plus hbW.size;rw[hsz]at this;exact this
 have hm1:=(hm.plus hS hbW (w.heap.size+2))
 have hFrW:Fr S w W1:=fr_below hS hbW;have C:=zA (hM2 (Plus S w.heap.size (w.heap.size+2)) W1.drew mb kb ws ps F wv hLowP hm1.drew hf (VOk.keep (S:=S) (w:=W1) (w':=W1.drew) (zD _) (fun b hb _=>⟨Or.inl hb,rfl⟩) t (hv.below hbW)) hl);have hlk:(Instr.lookup 148 (.map (some kb)) (.int .i64 6) false).run Tryz.prog W1.drew=.ok (.func (.func 86) #[.pointer (some ⟨mb,0,none⟩)] #[]) W1.drew:=run_lookup_at underKinds Tryz.underlying3 hm1.drew.map hfind;have q25:=hm1.c25;have HSK:=zA hm.sk;have HW1:=zA hW1;have HFW:=zA hFrW;have HCB:=zA hcb;have HSZ:=zA hsz;have HLOW:=zA hS;rw[<- hX];obtain⟨k,wd,v,kids⟩:=t;dsimp only at hvv hkl HW1 hK;subst hvv hK;obtain⟨b0,b1,b2⟩:W1.cell? ⟨w.heap.size,0,none⟩=some (.int .i64 6)/\W1.cell? ⟨w.heap.size,1,none⟩=some (.string ⟨wd.toArray⟩)/\W1.cell? ⟨w.heap.size,2,none⟩=some (.slice ao kids.length cap):=by rw[HW1.out];simp
 obtain⟨⟨r0,r1,r2⟩,⟨p0,p1,p2⟩⟩:=three_cells HCB.out;clear hv hm hf hl hM hM2 hbW hsz hcb hLowP hFrW hW1 hX hS hm1 hfind hfn;show Calls Tryz.prog _ #[_,.agg #[.int .i64 6,.string ⟨wd.toArray⟩,.slice ao kids.length cap]] w _;go_enter Tryz.func53,Tryz.ntmps53;go_wp2_with fail;rw[<- HW1.out];go_region_law (go_simp;refine C.out.mono ?_;rintro e w1 ⟨f,l,F2,wv2,rfl,hb1,hb2,hm2,hf2,hfr2⟩;have e1:=(hfr2.block (w.heap.size+1) (.inr ⟨by omega,by omega⟩)).trans HCB.out;obtain⟨⟨v0,v1,v2⟩,⟨u0,u1,u2⟩⟩:=three_cells e1);all_goals (
  obtain⟨hmF,hfF⟩:=add_end2 (b:=w.heap.size+1) (c0:=.int .u32 (f:Int)) (c1:=.int .u32 (l:Int)) (c2:=.bool X.empty) HLOW.out HFW.out ((Fr.refl _ W1).drew.trans hfr2) hm2 HSK.out (by omega) (by omega);have hE:AddE S w mb kb ws ps X (.returned (ptV f l X.empty)) (set3P w1 (w.heap.size+1) (.int .u32 (f:Int)) (.int .u32 (l:Int)) (.bool X.empty)):=⟨f,l,F2,wv2,rfl,hb1,hb2,hmF,hf2,hfF⟩
  obtain⟨⟨z0,z1,z2⟩,_⟩:=three_cells (set3P_at (c0:=.int .u32 (f:Int)) (c1:=.int .u32 (l:Int)) (c2:=.bool X.empty) e1);have HE:=zA hE;have Z0:=zA z0;have Z1:=zA z1;have Z2:=zA z2;clear hE z0 z1 z2 hmF hfF hb1 hb2 hm2 hf2 hfr2 e1;unfold set3P at HE Z0 Z1 Z2;go_wp2;refine bodyPost_ret (v:=ptV f l X.empty) ?_ rfl HE.out;simp[results,Tryz.results53,go_sem,Z0.out,Z1.out,Z2.out])
theorem formed_cases{k:Int}{w:List UInt8}{n:Nat}(h:formedP k w n=true):(k=1/\n=0/\isW w=true)\/(k=2/\2<=n)\/(k=3/\2<=n)\/(k=4/\n=1)\/(k=5/\n=1)\/(k=6/\n=1):=by
 unfold formedP at h;split at h
 . simp at h;rename_i hk;exact .inl ⟨hk,h.1,h.2⟩
 . split at h
   . simp at h;rename_i hk;rcases hk with hk|hk
     . exact .inr (.inl ⟨hk,h.1⟩)
     . exact .inr (.inr (.inl ⟨hk,h.1⟩))
   . split at h
     . simp at h;rename_i hk;rcases hk with hk|hk|hk
       . exact .inr (.inr (.inr (.inl ⟨hk,h.1⟩)))
       . exact .inr (.inr (.inr (.inr (.inl ⟨hk,h.1⟩))))
       . exact .inr (.inr (.inr (.inr (.inr ⟨hk,h.1⟩))))
     . cases h
theorem foldK_eq(c:Prt->Prt->Prt)(e:Bool)(l:List Vt):foldK c e l=((l.map Vt.pt).map prtOf).foldl c (prt0 e):=by
 unfold foldK;rw[List.map_map];rfl
theorem sum_eq(l:List Vt):((l.map Vt.pt).map leaves).sum=(l.map fun x=>leaves x.pt).sum:=by
 rw[List.map_map];rfl
theorem add_any:∀(t:Vt) (d:Nat),shapedP d t.pt=true->AddF 53 t:=by
 apply Vt.ind;intro k wd v kids ih d hsh;cases d with
 |zero=>simp[shapedP]at hsh
 |succ d=>
  rw[Vt.pt_mk,shapedP,Bool.and_eq_true,Bool.and_eq_true,yI]at hsh;obtain⟨⟨hfo,_⟩,hk⟩:=hsh;rw[zH]at hfo;have hkids:∀x∈kids,AddF 53 x:=fun x hx=>ih x hx d (hk x.pt (zW hx))
  rcases formed_cases hfo with⟨rfl,hn,hw⟩|⟨rfl,hn⟩|⟨rfl,hn⟩|⟨rfl,hn⟩|⟨rfl,hn⟩|⟨rfl,hn⟩
  . obtain rfl:kids=[]:=yL.1 hn;exact add_of1 rfl (addWord_any rfl (by have:=isW_len hw;omega))
  . refine add_of2 rfl ?_;have h:=addSeq_any (k:=2) (wd:=wd) (v:=v) hkids;rw[foldK_eq]at h;unfold AddF;rw[Vt.pt_mk,prtOf_mk,leaves_mk,kindC,if_neg (by decide),if_pos rfl,if_neg (by decide),sum_eq];exact h
  . refine add_of3 rfl ?_;have h:=addAlt_any (k:=3) (wd:=wd) (v:=v) hkids;rw[foldK_eq]at h;unfold AddF;rw[Vt.pt_mk,prtOf_mk,leaves_mk,kindC,if_neg (by decide),if_neg (by decide),if_neg (by decide),if_neg (by decide),if_neg (by decide),if_neg (by decide),sum_eq];exact h
  . obtain⟨x,rfl⟩:=List.length_eq_one_iff.1 hn;refine add_of4 rfl ?_;unfold AddF;rw[prt_one (.inl rfl),if_pos rfl,leaves_one (by decide)];exact addStar_any (hkids x (by simp))
  . obtain⟨x,rfl⟩:=List.length_eq_one_iff.1 hn;refine add_of5 rfl ?_;unfold AddF;rw[prt_one (.inr (.inl rfl)),if_neg (by decide),if_pos rfl,leaves_one (by decide)];exact addPlus_any (hkids x (by simp))
  . obtain⟨x,rfl⟩:=List.length_eq_one_iff.1 hn;refine add_of6 rfl ?_;unfold AddF;rw[prt_one (.inr (.inr rfl)),if_neg (by decide),if_neg (by decide),leaves_one (by decide)];exact addMaybe_any (hkids x (by simp))
theorem infoInts:(Tryz.prog.info? 59).map (fun i=>(i.zero,i.size,i.bytes))=some (some (.slice none 0 0),1,24):=by kernel_rfl
theorem five_cells{w:World}{b:Nat}{c0 c1 c2 c3 c4:Value}{t:TypeId}(h:w.heap[b]?=some (.cells #[c0,c1,c2,c3,c4] t (0,0))):
 (w.cell? ⟨b,0,none⟩=some c0/\w.cell? ⟨b,1,none⟩=some c1/\w.cell? ⟨b,2,none⟩=some c2/\w.cell? ⟨b,3,none⟩=some c3/\w.cell? ⟨b,4,none⟩=some c4)/\
 (w.frozen? ⟨b,0,none⟩=false/\w.frozen? ⟨b,1,none⟩=false/\w.frozen? ⟨b,2,none⟩=false/\w.frozen? ⟨b,3,none⟩=false/\w.frozen? ⟨b,4,none⟩=false):=by
 simp[World.cell?,World.frozen?,h]
def set5P(w:World)(b:Nat)(c0 c1 c2 c3 c4:Value):World:=((((w.setCell ⟨b,0,none⟩ c0).setCell ⟨b,1,none⟩ c1).setCell ⟨b,2,none⟩ c2).setCell ⟨b,3,none⟩ c3).setCell ⟨b,4,none⟩ c4
theorem set5P_at{w:World}{b:Nat}{x0 x1 x2 x3 x4 c0 c1 c2 c3 c4:Value}{t:TypeId}(h:w.heap[b]?=some (.cells #[x0,x1,x2,x3,x4] t (0,0))):(set5P w b c0 c1 c2 c3 c4).heap[b]?=some (.cells #[c0,c1,c2,c3,c4] t (0,0)):=by
 simp[set5P,World.setCell,Array.getElem?_modify,h]
theorem set5P_other{w:World}{b k:Nat}(h:k≠b)(c0 c1 c2 c3 c4:Value):(set5P w b c0 c1 c2 c3 c4).heap[k]?=w.heap[k]?:=by
 unfold set5P;rw[zN _ _ _ _ (by exact h),zN _ _ _ _ (by exact h),zN _ _ _ _ (by exact h),zN _ _ _ _ (by exact h),zN _ _ _ _ (by exact h)]
theorem Below.set5P{B:Nat}{a w:World}{b:Nat}(h:Below B a w)(hb:B<=b)(c0 c1 c2 c3 c4:Value):Below B a (set5P w b c0 c1 c2 c3 c4):=((((h.setCell (p:=⟨b,0,none⟩) hb c0).setCell (p:=⟨b,1,none⟩) hb c1).setCell (p:=⟨b,2,none⟩) hb c2).setCell (p:=⟨b,3,none⟩) hb c3).setCell (p:=⟨b,4,none⟩) hb c4
theorem set5P_size(w:World)(b:Nat)(c0 c1 c2 c3 c4:Value):(set5P w b c0 c1 c2 c3 c4).heap.size=w.heap.size:=by simp[set5P]
theorem set3_at5{w:World}{b:Nat}{c0 c1 c2 c3 c4 v:Value}{t:TypeId}(h:w.heap[b]?=some (.cells #[c0,c1,c2,c3,c4] t (0,0))):(w.setCell ⟨b,3,none⟩ v).heap[b]?=some (.cells #[c0,c1,c2,v,c4] t (0,0)):=by simp[World.setCell,Array.getElem?_modify,h]
theorem au_mk{ws:List Wd}{a b a' b':List Int}{c c':List (List Int)}{e:Bool}(h1:a=a')(h2:b=b')(h3:c=c'):(⟨ws,a,b,c,e⟩:Au)=⟨ws,a',b',c',e⟩:=by rw[h1,h2,h3]
def Oth(lo ab:Nat)(u:Value):Nat->Prop:=fun g=>lo<=g/\g≠ab/\u.ownBlock≠some g
set_option maxHeartbeats 40000000 in
theorem auto_any{S:Nat->Prop}{w:World}{mb kb:Nat}{ws:List Wd}{F:Nat->Nat}{wv:Value}{ps:List (Nat×Nat)}{f l:Nat}{A B:List Nat}{em:Bool}(hS:Low S w)(hm:MkAt S w mb kb ws F wv)(hf:FolOf F ps)(ha:BitsOf f A)(hb:BitsOf l B)(hn24:ws.length<=24)
 (hA:∀i∈A,i<ws.length) (hB:∀i∈B,i<ws.length) (hP:∀p∈ps,p.2<ws.length) (hwb:∀s∈ws,s.length<=1000) (lo:Nat) (hlo:∀g,wv.ownBlock=some g->lo<=g) (hlw:lo<=w.heap.size):
 Calls Tryz.prog 54 #[.pointer (some ⟨mb,0,none⟩),ptV f l em] w fun e w'=>∃m:Mu,e=.returned (encU m)/\UOk (fun g=>lo<=g) w' m/\m.au=⟨ws,rise ws.length A,rise ws.length B,(List.range ws.length).map (fun k=>rise ws.length (folN ps k)),em⟩/\Below w.heap.size w w':=by
 obtain⟨i0,hi0,hz0,hz1,hz2⟩:=info_parts infoInts;obtain⟨wa,wc,hwv⟩:=own_slice hm.row;subst hwv;obtain⟨n,hn⟩:∃n,n=ws.length:=⟨_,rfl⟩
 obtain⟨W1,hW1⟩:∃W,W=(w.alloc (.cells #[.int .u32 (f:Int),.int .u32 (l:Int),.bool em] 103)).alloc (.cells #[.slice none 0 0,.slice none 0 0,.slice none 0 0,.slice none 0 0,.bool false] 62):=⟨_,rfl⟩
 have hbW:Below w.heap.size w W1:=by rw[hW1];exact((zE _ _).alloc (zD _) _).alloc (by simp) _
 have hsz:W1.heap.size=w.heap.size+2:=by rw[hW1];simp
 have hm1:=hm.below hS hbW;have q0:=hm1.c0;rw[<- hn]at q0;obtain⟨b0,b1,b2⟩:W1.cell? ⟨w.heap.size,0,none⟩=some (.int .u32 (f:Int))/\W1.cell? ⟨w.heap.size,1,none⟩=some (.int .u32 (l:Int))/\W1.cell? ⟨w.heap.size,2,none⟩=some (.bool em):=by rw[hW1];simp
 have hmlt:mb<W1.heap.size:=hm1.lt;have hnlt:w.heap.size<W1.heap.size:=by omega
 have KC:Hid (∀u,Below W1.heap.size W1 u->u.cell? ⟨mb,0,none⟩=some (.slice wa n wc)/\u.cell? ⟨w.heap.size,0,none⟩=some (.int .u32 (f:Int))/\u.cell? ⟨w.heap.size,1,none⟩=some (.int .u32 (l:Int))/\u.cell? ⟨w.heap.size,2,none⟩=some (.bool em)):=zA (fun u hu=>⟨(hu.cell (p:=⟨mb,0,none⟩) hmlt).trans q0,(hu.cell (p:=⟨w.heap.size,0,none⟩) hnlt).trans b0,(hu.cell (p:=⟨w.heap.size,1,none⟩) hnlt).trans b1,(hu.cell (p:=⟨w.heap.size,2,none⟩) hnlt).trans b2⟩);have HPA:Hid (Below W1.heap.size W1 W1.drew):=zA (zE _ _).drew;have HPB:Hid (Below W1.heap.size W1 (W1.alloc (.cells #[.slice none 0 0,.slice none 0 0,.slice none 0 0,.slice none 0 0,.bool false] 62)).drew):=zA (((zE _ _).alloc (zD _) _).drew);have HZB:Hid ((W1.alloc (.cells #[.slice none 0 0,.slice none 0 0,.slice none 0 0,.slice none 0 0,.bool false] 62)).drew.heap[W1.heap.size]?=some (.cells #[.slice none 0 0,.slice none 0 0,.slice none 0 0,.slice none 0 0,.bool false] 62 (0,0))):=zA (heap_alloc_new W1 _);have CFA:=zA (list_any f W1.drew ha.1);have CFB:=zA (list_any f (W1.alloc (.cells #[.slice none 0 0,.slice none 0 0,.slice none 0 0,.slice none 0 0,.bool false] 62)).drew ha.1);have CL:=zA (fun u=>list_any l u hb.1);have HN:=zA hn;have HMW:=zA hm;have HW1:=zA hW1;rw[<- hn];have HSZ:=zA hsz;have HBW:=zA hbW;have HN24:Hid (n<=24):=zA (by rw[hn];exact hn24);have HFO:=zA hf;have HAB:=zA (And.intro ha hb);have HAL:=zA (And.intro hA (And.intro hB hP));have HWB:=zA hwb;have HLO:Hid (∀g,(Value.slice wa ws.length wc).ownBlock=some g->lo<=g):=zA hlo;clear hbW hf hb hA hB hP hwb hn24 hlo;clear hm hm1 hW1 hn hsz;show Calls Tryz.prog _ #[_,.agg #[.int .u32 (f:Int),.int .u32 (l:Int),.bool em]] w _;go_enter Tryz.func54,Tryz.ntmps54;go_wp2_with fail;rw[<- HW1.out];go_region_held3 (fun u=>u.cell? ⟨mb,0,none⟩=some (.slice wa n wc)/\u.cell? ⟨w.heap.size,0,none⟩=some (.int .u32 (f:Int))/\u.cell? ⟨w.heap.size,1,none⟩=some (.int .u32 (l:Int))/\u.cell? ⟨w.heap.size,2,none⟩=some (.bool em))
  (first|with_reducible exact KC.out _ HPA.out|with_reducible exact KC.out _ HPB.out|with_reducible exact KC.out _ hp3|with_reducible exact KC.out _ (hp3.alloc hp3.size _)|with_reducible exact KC.out _ hp2|with_reducible exact KC.out _ (hp2.alloc hp2.size _)|with_reducible exact KC.out _ (((((hp3.setCell (p:=⟨_,0,none⟩) hbz3 _).setCell (p:=⟨_,1,none⟩) hbz3 _).setCell (p:=⟨_,2,none⟩) hbz3 _).setCell (p:=⟨_,3,none⟩) hbz3 _).setCell (p:=⟨_,4,none⟩) hbz3 _))
  (first
   |(go_at_call 87;with_reducible refine CFB.out.mono ?_;rintro e w2 ⟨v2,rfl,ho2,hb2⟩;obtain⟨a2,k2,hv2⟩:=own_slice ho2;subst hv2;have hp2:=HPB.out.trans (hb2.mono HPB.out.size);have hz2:=(hb2.block W1.heap.size (by simp)).trans HZB.out;have hne2:=(ho2.lt);have hq2:=hz2)
   |(go_at_call 87;with_reducible refine CFA.out.mono ?_;rintro e w2 ⟨v2,rfl,ho2,hb2⟩;obtain⟨a2,k2,hv2⟩:=own_slice ho2;subst hv2;have hp2:=HPA.out.trans (hb2.mono HPA.out.size))
   |(go_at_call 87;with_reducible refine (CL.out (w2.alloc (.cells #[.slice none 0 0,.slice none 0 0,.slice none 0 0,.slice none 0 0,.bool false] 62))).mono ?_;rintro e w3 ⟨v3,rfl,ho3,hb3⟩;obtain⟨a3,k3,hv3⟩:=own_slice ho3;subst hv3;have hp3:=(hp2.alloc hp2.size _).trans (hb3.mono (hp2.alloc hp2.size _).size);have hz3:=(hb3.block w2.heap.size (by simp)).trans (heap_alloc_new w2 _);have hbz3:W1.heap.size<=w2.heap.size:=hp2.size;obtain⟨⟨g0,g1,g2,g3,g4⟩,⟨h0,h1,h2,h3,h4⟩⟩:=five_cells hz3)
   |(go_at_call 87;with_reducible refine (CL.out w2).mono ?_;rintro e w3 ⟨v3,rfl,ho3,hb3⟩;obtain⟨a3,k3,hv3⟩:=own_slice ho3;subst hv3;have hp3:=hp2.trans (hb3.mono hp2.size);have hz3:=(hb3.block W1.heap.size (lt_of_block hq2)).trans hq2;have hbz3:W1.heap.size<=W1.heap.size:=zD _;obtain⟨⟨g0,g1,g2,g3,g4⟩,⟨h0,h1,h2,h3,h4⟩⟩:=five_cells hz3)
   |(go_at_call 87;with_reducible refine (CL.out w2).mono ?_;rintro e w3 ⟨v3,rfl,ho3,hb3⟩;obtain⟨a3,k3,hv3⟩:=own_slice ho3;subst hv3;have hp3:=hp2.trans (hb3.mono hp2.size)))
 . obtain⟨W,ab,hWW,habb,KA,KB,KC1,KV2,KV3⟩:∃(W:World) (ab:Nat),w3.alloc (.cells #[.slice wa n wc,.slice a2 (listN 24 f).length k2,.slice a3 (listN 24 l).length k3,.slice none 0 0,.bool em] 62)=W/\w3.heap.size=ab/\W.heap[ab]?=some (.cells #[.slice wa n wc,.slice a2 (listN 24 f).length k2,.slice a3 (listN 24 l).length k3,.slice none 0 0,.bool em] 62 (0,0))/\Below W1.heap.size W1 W/\W1.heap.size<=ab/\IntZ (Oth W1.heap.size ab (.slice none 0 0)) W (.slice a2 (listN 24 f).length k2) (listN 24 f)/\IntZ (Oth W1.heap.size ab (.slice none 0 0)) W (.slice a3 (listN 24 l).length k3) (listN 24 l):=by
    refine⟨_,_,rfl,rfl,heap_alloc_new _ _,hp3.alloc hp3.size _,hp3.size,?_,?_⟩
    . exact((own_sl csZ_len ho2 rfl).below hb3).keep (by simp) (fun b hb hlt=>⟨⟨zT HPA.out.size (ho2.lt b hb).1,by omega,by simp[Value.ownBlock]⟩,heap_alloc_old _ _ hlt⟩)
    . exact(own_sl csZ_len ho3 rfl).keep (by simp) (fun b hb hlt=>⟨⟨zT hp2.size (ho3.lt b hb).1,by omega,by simp[Value.ownBlock]⟩,heap_alloc_old _ _ hlt⟩)
   rw[hWW];simp only[habb];have HWn:Hid (W1.heap.size=w.heap.size+2):=HSZ;clear hWW habb;clear ho2 hb2 ho3 hb3 hp2 hp3;have HKA:=zA KA;have HKB:=zA KB;have HKV2:=zA KV2;have HKV3:=zA KV3;have hm3:=HMW.out.below hS ((show Below w.heap.size w W1 from HBW.out).trans (KB.mono HBW.out.size));have q9:=hm3.c0;rw[<- HN.out]at q9;obtain⟨⟨c0,c1,c2,c3,c4⟩,_⟩:=five_cells KA;have HM3:=zA hm3;clear KA KB KV2 KV3 hm3;obtain⟨v2,hv2⟩:∃v,v=Value.slice a2 (listN 24 f).length k2:=⟨_,rfl⟩
   obtain⟨v3,hv3⟩:∃v,v=Value.slice a3 (listN 24 l).length k3:=⟨_,rfl⟩
   rw[<- hv2]at HKV2;rw[<- hv3]at HKV3;have HV2:=zA hv2;have HV3:=zA hv3;go_wp2_with fail;go_loopw [25] (fun c wr=>∃(i:Nat) (u:Value) (os:List (Value×List Int)),i<=n/\c=.int .i64 i/\wr.heap[ab]?=some (.cells #[.slice wa n wc,.slice a2 (listN 24 f).length k2,.slice a3 (listN 24 l).length k3,u,.bool em] 62 (0,0))/\os.length=i/\wr.ownsRow W1.heap.size 59 1 u os.length (os.flatMap csW)/\(∀g,u.ownBlock=some g->g≠ab)/\(∀(j:Nat) p,os[j]?=some p->p.2=listN 24 (F j)/\IntZ (Oth W1.heap.size ab u) wr p.1 p.2)/\IntZ (Oth W1.heap.size ab u) wr v2 (listN 24 f)/\IntZ (Oth W1.heap.size ab u) wr v3 (listN 24 l)/\Below W1.heap.size W1 wr) (fun c _=>n-(intOf c).toNat)
   case atStart=>exact⟨0,.slice none 0 0,[],zO _,rfl,HKA.out,rfl,World.ownsRow_nil _ _ _ _,by simp[Value.ownBlock],by simp,HKV2.out,HKV3.out,HKB.out⟩
   case round=>
    clear c0 c1 c2 c3 c4 q9;obtain⟨i,u,os,hi,rfl,ka,hol,hrow,hno,hall,kv2,kv3,kb1⟩:=hrel;obtain⟨ua,uc,hu⟩:=own_slice hrow;rw[hol]at hu;subst hu;have hm4:=HMW.out.below hS ((show Below w.heap.size w W1 from HBW.out).trans (kb1.mono HBW.out.size));obtain⟨⟨c0,c1,c2,c3,c4⟩,⟨y0,y1,y2,y3,y4⟩⟩:=five_cells ka;have habl:=lt_of_block ka;have HKA2:=zA ka;have HOL:=zA hol;have HROW:=zA hrow;have HNO:=zA hno;have HALL:=zA hall;have HKV2b:=zA kv2;have HKV3b:=zA kv3;have HKB1:=zA kb1;by_cases hlt:i<n
    . have hltI:(i:Int)<(n:Int):=by omega
      have hi24:i<24:=by have:=HN24.out;omega
      have hi24I:(i:Int)<24:=by omega
      obtain⟨p0,_⟩:=hm4.fol i hi24;have hFi:=(HFO.out i hi24).1;have C:=zA (list_any (F i) wr.drew hFi);obtain⟨Fi,hFie⟩:∃x,x=F i:=⟨_,rfl⟩
      rw[<- hFie]at p0 hFi C;have HFI:=zA hFie;have hrow2:=hrow;rw[hol]at hrow2;have HROW2:=zA hrow2;have hsB:W1.heap.size<=wr.heap.size:=kb1.size;clear ka hol hrow hno hall kv2 kv3 kb1 hm4 hFie hrow2 c0 c1 c2 c4 y0 y1 y2 y4;go_wp2_with fail;go_region_law (first
       |(go_simp;refine C.out.mono ?_;rintro e w5 ⟨v5,rfl,ho5,hb5⟩;obtain⟨a5,k5,hv5⟩:=own_slice ho5;subst hv5;have c35:=(hb5.cell (p:=⟨ab,3,none⟩) habl).trans c3;have y35:=(hb5.frozen (p:=⟨ab,3,none⟩) habl).trans y3;have habl5:ab<w5.heap.size:=zQ habl hb5.size)
       |(refine step_append_lies _ (by rfl) _ _ _ (by rfl) W1.heap.size 59 i0 _ 1 24 Tryz.underlying60 hi0 hz0 hz1 hz2 rfl (by decide) (.slice ua i uc) _ _ (by rfl) ((owns_below HROW2.out.drew hb5).alloc _) ⟨w5.heap.size,0,none⟩ 1 1 [.slice a5 (listN 24 Fi).length k5] (by rfl) (by rfl) (World.news_of_block (cs:=#[.slice a5 (listN 24 Fi).length k5]) (t:=59) (fr:=(0,0)) (heap_alloc_new w5 _)) (by simp[Value.oneCell']) (by decide) (by unfold maxLen;omega) (by omega) (by have:=hb5.size;simp at this ⊢;omega) (w5.heap.size+1) (by simp) ?_;intro gg cap2 w9 hown9 hgrow9 hat9 hlt9;have hh9:=grown_at hgrow9 habl5 (fun e=>HNO.out _ (by cases ua<;>exact e) rfl);have q09:=cell_of hh9 c35;have q19:=froz_of hh9 y35))
      all_goals (
       have hK:∀b,b<w5.heap.size->b≠ab->(Value.slice ua i uc).ownBlock≠some b->(W1.heap.size<=b->Oth W1.heap.size ab (.slice (some ⟨gg,0,none⟩) (i+1) cap2) b)/\(w9.setCell ⟨ab,3,none⟩ (.slice (some ⟨gg,0,none⟩) (i+1) cap2)).heap[b]?=w5.heap[b]?:=fun b hlb hba hbu=>by
        refine⟨fun hlo=>⟨hlo,hba,fun e=>?_⟩,?_⟩
        . have e2:gg=b:=by simpa[Value.ownBlock]using e
          rcases hat9 with h|h
          . exact hbu (by rw[h,e2])
          . omega
        . rw[zN _ _ _ _ (by exact hba)];exact grown_at hgrow9 hlb hbu
       have hsz5:wr.heap.size<=w5.heap.size:=hb5.size;have hsz9:w5.heap.size<=w9.heap.size:=by have:=hgrow9.size;simp at this;omega
       have hkeep:∀ {v:Value} {L:List Int},IntZ (Oth W1.heap.size ab (.slice ua i uc)) wr v L->IntZ (Oth W1.heap.size ab (.slice (some ⟨gg,0,none⟩) (i+1) cap2)) (w9.setCell ⟨ab,3,none⟩ (.slice (some ⟨gg,0,none⟩) (i+1) cap2)) v L:=fun h=>by
        refine h.keep (by simp;omega) (fun b hb hlb=>⟨(hK b (by omega) hb.2.1 hb.2.2).1 hb.1,(hK b (by omega) hb.2.1 hb.2.2).2.trans (hb5.block b hlb)⟩)
       have HR:Hid (∃(u:Value) (os2:List (Value×List Int)),Value.slice (some ⟨gg,0,none⟩) (i+1) cap2=u/\(w9.setCell ⟨ab,3,none⟩ (.slice (some ⟨gg,0,none⟩) (i+1) cap2)).heap[ab]?=some (.cells #[.slice wa n wc,.slice a2 (listN 24 f).length k2,.slice a3 (listN 24 l).length k3,u,.bool em] 62 (0,0))/\os2.length=i+1/\(w9.setCell ⟨ab,3,none⟩ (.slice (some ⟨gg,0,none⟩) (i+1) cap2)).ownsRow W1.heap.size 59 1 u os2.length (os2.flatMap csW)/\(∀g,u.ownBlock=some g->g≠ab)/\(∀(j:Nat) p,os2[j]?=some p->p.2=listN 24 (F j)/\IntZ (Oth W1.heap.size ab u) (w9.setCell ⟨ab,3,none⟩ (.slice (some ⟨gg,0,none⟩) (i+1) cap2)) p.1 p.2)/\IntZ (Oth W1.heap.size ab u) (w9.setCell ⟨ab,3,none⟩ (.slice (some ⟨gg,0,none⟩) (i+1) cap2)) v2 (listN 24 f)/\IntZ (Oth W1.heap.size ab u) (w9.setCell ⟨ab,3,none⟩ (.slice (some ⟨gg,0,none⟩) (i+1) cap2)) v3 (listN 24 l)/\Below W1.heap.size W1 (w9.setCell ⟨ab,3,none⟩ (.slice (some ⟨gg,0,none⟩) (i+1) cap2))):=zA (by
        have hgne:gg≠ab:=by
         rcases hat9 with h|h
         . exact HNO.out gg (by cases ua<;>exact h)
         . omega
        refine⟨_,os++[(.slice a5 (listN 24 Fi).length k5,listN 24 Fi)],rfl,?_,by rw[zG,HOL.out];rfl,?_,fun g hg=>?_,fun j p hp=>?_,hkeep HKV2b.out,hkeep HKV3b.out,?_⟩
        . refine set3_at5 (t:=62) (c3:=.slice ua i uc) ?_;rw[hh9,hb5.block ab habl];exact HKA2.out
        . rw[zG,HOL.out,zR];refine owns_key (w:=w9) (by simpa[csW]using hown9) (fun g o hg ho=>(zN _ _ _ _ (by
           have e2:gg=g:=by simpa[Value.ownBlock]using hg
           exact e2▸hgne)).trans ho)
        . have e2:gg=g:=by simpa[Value.ownBlock]using hg
          exact e2▸hgne
        . by_cases hj:j<os.length
          . rw[yH hj]at hp;have:=HALL.out j p hp;exact⟨this.1,hkeep this.2⟩
          . rw[yO (by omega)]at hp;have hj0:j-os.length=0:=by
             have:=(zF.1 hp).1;simp at this;omega
            rw[hj0]at hp;simp at hp;subst hp;have hji:j=i:=by have:=HOL.out;omega
            refine⟨by rw[HFI.out,hji],?_⟩;exact(own_sl csZ_len ho5 rfl).keep (by simp;omega) (fun b hb hlb=>by
             have hb2:wr.heap.size<=b:=(ho5.lt b hb).1;have hbu:(Value.slice ua i uc).ownBlock≠some b:=fun e=>by
              have:b<wr.heap.size:=(HROW2.out.lt b e).2;omega
             exact⟨(hK b hlb (by omega) hbu).1 (by omega),(hK b hlb (by omega) hbu).2⟩)
        . have hB5:Below W1.heap.size W1 w5:=HKB1.out.drew.trans (hb5.mono hsB);have hB9:Below W1.heap.size W1 w9:=(hB5.alloc hB5.size _).grown hgrow9 (by simp;omega) (fun k e=>(HROW2.out.lt k e).1);exact hB9.setCell (p:=⟨ab,3,none⟩) KC1 _)
       clear hK hkeep hown9 hgrow9 hat9 hlt9 hh9 q09 q19 ho5 hb5 c35 y35;go_wp2;go_roundw
       case rel=>
        obtain⟨u,os2,_,r1,r2,r3,r4,r5,r6,r7,r8⟩:=HR.out;exact⟨i+1,u,os2,by omega,by go_num,r1,r2,r3,r4,r5,r6,r7,r8⟩
       case measure=>simp[intOf];omega)
    . have hltI:¬(i:Int)<(n:Int):=by omega
      have hin:i=n:=by omega
      have e1:wr.heap[w.heap.size+1]?=some (.cells #[.slice none 0 0,.slice none 0 0,.slice none 0 0,.slice none 0 0,.bool false] 62 (0,0)):=by
       rw[kb1.block (w.heap.size+1) (by have:=HSZ.out;omega),HW1.out];exact(by simpa using heap_alloc_new (w.alloc (.cells #[.int .u32 (f:Int),.int .u32 (l:Int),.bool em] 103)) _)
      obtain⟨⟨r0,r1,r2,r3,r4⟩,⟨x0,x1,x2,x3,x4⟩⟩:=five_cells e1;obtain⟨⟨z0,z1,z2,z3,z4⟩,_⟩:=five_cells (set5P_at (c0:=.slice wa n wc) (c1:=.slice a2 (listN 24 f).length k2) (c2:=.slice a3 (listN 24 l).length k3) (c3:=.slice ua i uc) (c4:=.bool em) e1);have hE:∃m:Mu,(Value.agg #[.slice wa n wc,.slice a2 (listN 24 f).length k2,.slice a3 (listN 24 l).length k3,.slice ua i uc,.bool em]:Value)=encU m/\UOk (fun g=>lo<=g) (set5P wr (w.heap.size+1) (.slice wa n wc) (.slice a2 (listN 24 f).length k2) (.slice a3 (listN 24 l).length k3) (.slice ua i uc) (.bool em)) m/\m.au=⟨ws,rise n A,rise n B,(List.range n).map (fun k=>rise n (folN ps k)),em⟩/\Below w.heap.size w (set5P wr (w.heap.size+1) (.slice wa n wc) (.slice a2 (listN 24 f).length k2) (.slice a3 (listN 24 l).length k3) (.slice ua i uc) (.bool em)):=by
       have hk5:∀b,lo<=b->b≠w.heap.size+1->lo<=b/\(set5P wr (w.heap.size+1) (.slice wa n wc) (.slice a2 (listN 24 f).length k2) (.slice a3 (listN 24 l).length k3) (.slice ua i uc) (.bool em)).heap[b]?=wr.heap[b]?:=fun b hbl hb=>⟨hbl,set5P_other hb _ _ _ _ _⟩
       have hsz5:wr.heap.size<=(set5P wr (w.heap.size+1) (.slice wa n wc) (.slice a2 (listN 24 f).length k2) (.slice a3 (listN 24 l).length k3) (.slice ua i uc) (.bool em)).heap.size:=by rw[set5P_size];exact zD _
       have hsW:=HSZ.out;have hL2:=listN_len 24 f;have hL3:=listN_len 24 l;have hN24:=HN24.out;have hwsl:ws.length<=24:=by rw[<- HN.out];exact hN24
       refine⟨⟨.slice wa n wc,ws,.slice a2 (listN 24 f).length k2,listN 24 f,.slice a3 (listN 24 l).length k3,listN 24 l,.slice ua i uc,os,em⟩,rfl,⟨?_,?_,by dsimp only;omega,?_,by dsimp only;omega,?_,by dsimp only;omega,?_,?_,by dsimp only;rw[HOL.out];omega⟩,?_,?_⟩
       . have:=(own_sl (enc:=csT) (k:=1) (fun _=>rfl) hm4.row rfl).keep (T:=fun g=>lo<=g) hsz5 (fun b hb _=>hk5 b (HLO.out b (by cases wa<;>exact hb)) (by have:=(HMW.out.row.lt b hb).2;omega));rw[<- HN.out]at this;exact this
       . intro s hs;have:=HWB.out s hs;omega
       . have:=HKV2b.out.keep (T:=fun g=>lo<=g) hsz5 (fun b hb _=>hk5 b (by have:=hb.1;omega) (by have:=hb.1;omega));rw[HV2.out]at this;exact this
       . have:=HKV3b.out.keep (T:=fun g=>lo<=g) hsz5 (fun b hb _=>hk5 b (by have:=hb.1;omega) (by have:=hb.1;omega));rw[HV3.out]at this;exact this
       . have:=(own_sl (enc:=csW) (k:=1) (fun _=>rfl) HROW.out rfl).keep (T:=fun g=>lo<=g) hsz5 (fun b hb _=>hk5 b (by have:=(HROW.out.lt b hb).1;omega) (by have:=(HROW.out.lt b hb).1;omega));exact this
       . intro p hp;obtain⟨j,hj⟩:=List.getElem?_of_mem hp;obtain⟨h1,h2⟩:=HALL.out j p hj;refine⟨h2.keep hsz5 (fun b hb _=>hk5 b (by have:=hb.1;omega) (by have:=hb.1;omega)),?_⟩;rw[h1];have:=listN_len 24 (F j);omega
       . refine au_mk ?_ ?_ ?_
         . exact listN_rise HAB.out.1.2 (by rw[HN.out];exact HAL.out.1) hN24
         . exact listN_rise HAB.out.2.2 (by rw[HN.out];exact HAL.out.2.1) hN24
         . apply List.ext_getElem?;intro j;rw[zI,zI];by_cases hj:j<n
           . obtain⟨p,hp⟩:∃p,os[j]?=some p:=⟨_,zB (by rw[HOL.out];omega)⟩
             rw[hp,yQ hj];simp only[Option.map_some];rw[(HALL.out j p hp).1];refine congrArg some (listN_rise (fun i=>?_) (fun i hi=>?_) hN24)
             . rw[(HFO.out j (by omega)).2,mem_folN]
             . rw[HN.out];exact HAL.out.2.2 (j,i) (mem_folN.1 hi)
           . rw[yE (by rw[HOL.out];omega),yE (by simp;omega)];rfl
       . exact Below.set5P ((show Below w.heap.size w W1 from HBW.out).trans (HKB1.out.mono HBW.out.size)) (by omega) _ _ _ _ _
      obtain⟨m,hmE,hE2,hE3,hE4⟩:=hE;have HE:Hid (∃m:Mu,Ending.returned (Value.agg #[.slice wa n wc,.slice a2 (listN 24 f).length k2,.slice a3 (listN 24 l).length k3,.slice ua i uc,.bool em])=.returned (encU m)/\UOk (fun g=>lo<=g) (set5P wr (w.heap.size+1) (.slice wa n wc) (.slice a2 (listN 24 f).length k2) (.slice a3 (listN 24 l).length k3) (.slice ua i uc) (.bool em)) m/\m.au=⟨ws,rise n A,rise n B,(List.range n).map (fun k=>rise n (folN ps k)),em⟩/\Below w.heap.size w (set5P wr (w.heap.size+1) (.slice wa n wc) (.slice a2 (listN 24 f).length k2) (.slice a3 (listN 24 l).length k3) (.slice ua i uc) (.bool em))):=zA ⟨m,by rw[hmE],hE2,hE3,hE4⟩;have Z0:=zA z0;have Z1:=zA z1;have Z2:=zA z2;have Z3:=zA z3;have Z4:=zA z4;have HIN:=zA hin;clear ka hol hrow hno hall kv2 kv3 kb1 hm4 z0 z1 z2 z3 z4 hmE hE2 hE3 hE4 e1 hin;unfold set5P at HE Z0 Z1 Z2 Z3 Z4;go_wp2;refine bodyPost_ret (v:=.agg #[.slice wa n wc,.slice a2 (listN 24 f).length k2,.slice a3 (listN 24 l).length k3,.slice ua i uc,.bool em]) ?_ rfl HE.out;simp[results,Tryz.results54,go_sem,Z0.out,Z1.out,Z2.out,Z3.out,Z4.out]
 . obtain⟨W,ab,hWW,habb,KA,KB,KC1,KV2,KV3⟩:∃(W:World) (ab:Nat),(((((w3.setCell ⟨w2.heap.size,0,none⟩ (.slice wa n wc)).setCell ⟨w2.heap.size,1,none⟩ (.slice a2 (listN 24 f).length k2)).setCell ⟨w2.heap.size,2,none⟩ (.slice a3 (listN 24 l).length k3)).setCell ⟨w2.heap.size,3,none⟩ (.slice none 0 0)).setCell ⟨w2.heap.size,4,none⟩ (.bool em))=W/\w2.heap.size=ab/\W.heap[ab]?=some (.cells #[.slice wa n wc,.slice a2 (listN 24 f).length k2,.slice a3 (listN 24 l).length k3,.slice none 0 0,.bool em] 62 (0,0))/\Below W1.heap.size W1 W/\W1.heap.size<=ab/\IntZ (Oth W1.heap.size ab (.slice none 0 0)) W (.slice a2 (listN 24 f).length k2) (listN 24 f)/\IntZ (Oth W1.heap.size ab (.slice none 0 0)) W (.slice a3 (listN 24 l).length k3) (listN 24 l):=by
    refine⟨_,_,rfl,rfl,set5P_at hz3,Below.set5P hp3 hbz3 (.slice wa n wc) (.slice a2 (listN 24 f).length k2) (.slice a3 (listN 24 l).length k3) (.slice none 0 0) (.bool em),hbz3,?_,?_⟩
    . exact(own_sl csZ_len ho2 rfl).keep (w':=set5P w3 w2.heap.size (.slice wa n wc) (.slice a2 (listN 24 f).length k2) (.slice a3 (listN 24 l).length k3) (.slice none 0 0) (.bool em)) (by rw[set5P_size];have:=hb3.size;simp at this;omega) (fun b hb hlt=>⟨⟨zT HPA.out.size (ho2.lt b hb).1,by omega,by simp[Value.ownBlock]⟩,(set5P_other (by omega) (.slice wa n wc) (.slice a2 (listN 24 f).length k2) (.slice a3 (listN 24 l).length k3) (.slice none 0 0) (.bool em)).trans ((hb3.block b (by simp;omega)).trans (heap_alloc_old _ _ hlt))⟩)
    . exact(own_sl csZ_len ho3 rfl).keep (w':=set5P w3 w2.heap.size (.slice wa n wc) (.slice a2 (listN 24 f).length k2) (.slice a3 (listN 24 l).length k3) (.slice none 0 0) (.bool em)) (by rw[set5P_size];exact zD _) (fun b hb hlt=>⟨⟨zT hbz3 (zT (by simp) (ho3.lt b hb).1),by have:=(ho3.lt b hb).1;simp at this;omega,by simp[Value.ownBlock]⟩,set5P_other (by have:=(ho3.lt b hb).1;simp at this;omega) (.slice wa n wc) (.slice a2 (listN 24 f).length k2) (.slice a3 (listN 24 l).length k3) (.slice none 0 0) (.bool em)⟩)
   rw[hWW];simp only[habb];have HWn:Hid (W1.heap.size=w.heap.size+2):=HSZ;clear hWW habb;clear ho2 hb2 ho3 hb3 hp2 hp3 hz3 hbz3 g0 g1 g2 g3 g4 h0 h1 h2 h3 h4;have HKA:=zA KA;have HKB:=zA KB;have HKV2:=zA KV2;have HKV3:=zA KV3;have hm3:=HMW.out.below hS ((show Below w.heap.size w W1 from HBW.out).trans (KB.mono HBW.out.size));have q9:=hm3.c0;rw[<- HN.out]at q9;obtain⟨⟨c0,c1,c2,c3,c4⟩,_⟩:=five_cells KA;have HM3:=zA hm3;clear KA KB KV2 KV3 hm3;obtain⟨v2,hv2⟩:∃v,v=Value.slice a2 (listN 24 f).length k2:=⟨_,rfl⟩
   obtain⟨v3,hv3⟩:∃v,v=Value.slice a3 (listN 24 l).length k3:=⟨_,rfl⟩
   rw[<- hv2]at HKV2;rw[<- hv3]at HKV3;have HV2:=zA hv2;have HV3:=zA hv3;go_wp2_with fail;go_loopw [25] (fun c wr=>∃(i:Nat) (u:Value) (os:List (Value×List Int)),i<=n/\c=.int .i64 i/\wr.heap[ab]?=some (.cells #[.slice wa n wc,.slice a2 (listN 24 f).length k2,.slice a3 (listN 24 l).length k3,u,.bool em] 62 (0,0))/\os.length=i/\wr.ownsRow W1.heap.size 59 1 u os.length (os.flatMap csW)/\(∀g,u.ownBlock=some g->g≠ab)/\(∀(j:Nat) p,os[j]?=some p->p.2=listN 24 (F j)/\IntZ (Oth W1.heap.size ab u) wr p.1 p.2)/\IntZ (Oth W1.heap.size ab u) wr v2 (listN 24 f)/\IntZ (Oth W1.heap.size ab u) wr v3 (listN 24 l)/\Below W1.heap.size W1 wr) (fun c _=>n-(intOf c).toNat)
   case atStart=>exact⟨0,.slice none 0 0,[],zO _,rfl,HKA.out,rfl,World.ownsRow_nil _ _ _ _,by simp[Value.ownBlock],by simp,HKV2.out,HKV3.out,HKB.out⟩
   case round=>
    clear c0 c1 c2 c3 c4 q9;obtain⟨i,u,os,hi,rfl,ka,hol,hrow,hno,hall,kv2,kv3,kb1⟩:=hrel;obtain⟨ua,uc,hu⟩:=own_slice hrow;rw[hol]at hu;subst hu;have hm4:=HMW.out.below hS ((show Below w.heap.size w W1 from HBW.out).trans (kb1.mono HBW.out.size));obtain⟨⟨c0,c1,c2,c3,c4⟩,⟨y0,y1,y2,y3,y4⟩⟩:=five_cells ka;have habl:=lt_of_block ka;have HKA2:=zA ka;have HOL:=zA hol;have HROW:=zA hrow;have HNO:=zA hno;have HALL:=zA hall;have HKV2b:=zA kv2;have HKV3b:=zA kv3;have HKB1:=zA kb1;by_cases hlt:i<n
    . have hltI:(i:Int)<(n:Int):=by omega
      have hi24:i<24:=by have:=HN24.out;omega
      have hi24I:(i:Int)<24:=by omega
      obtain⟨p0,_⟩:=hm4.fol i hi24;have hFi:=(HFO.out i hi24).1;have C:=zA (list_any (F i) wr.drew hFi);obtain⟨Fi,hFie⟩:∃x,x=F i:=⟨_,rfl⟩
      rw[<- hFie]at p0 hFi C;have HFI:=zA hFie;have hrow2:=hrow;rw[hol]at hrow2;have HROW2:=zA hrow2;have hsB:W1.heap.size<=wr.heap.size:=kb1.size;clear ka hol hrow hno hall kv2 kv3 kb1 hm4 hFie hrow2 c0 c1 c2 c4 y0 y1 y2 y4;go_wp2_with fail;go_region_law (first
       |(go_simp;refine C.out.mono ?_;rintro e w5 ⟨v5,rfl,ho5,hb5⟩;obtain⟨a5,k5,hv5⟩:=own_slice ho5;subst hv5;have c35:=(hb5.cell (p:=⟨ab,3,none⟩) habl).trans c3;have y35:=(hb5.frozen (p:=⟨ab,3,none⟩) habl).trans y3;have habl5:ab<w5.heap.size:=zQ habl hb5.size)
       |(refine step_append_lies _ (by rfl) _ _ _ (by rfl) W1.heap.size 59 i0 _ 1 24 Tryz.underlying60 hi0 hz0 hz1 hz2 rfl (by decide) (.slice ua i uc) _ _ (by rfl) ((owns_below HROW2.out.drew hb5).alloc _) ⟨w5.heap.size,0,none⟩ 1 1 [.slice a5 (listN 24 Fi).length k5] (by rfl) (by rfl) (World.news_of_block (cs:=#[.slice a5 (listN 24 Fi).length k5]) (t:=59) (fr:=(0,0)) (heap_alloc_new w5 _)) (by simp[Value.oneCell']) (by decide) (by unfold maxLen;omega) (by omega) (by have:=hb5.size;simp at this ⊢;omega) (w5.heap.size+1) (by simp) ?_;intro gg cap2 w9 hown9 hgrow9 hat9 hlt9;have hh9:=grown_at hgrow9 habl5 (fun e=>HNO.out _ (by cases ua<;>exact e) rfl);have q09:=cell_of hh9 c35;have q19:=froz_of hh9 y35))
      all_goals (
       have hK:∀b,b<w5.heap.size->b≠ab->(Value.slice ua i uc).ownBlock≠some b->(W1.heap.size<=b->Oth W1.heap.size ab (.slice (some ⟨gg,0,none⟩) (i+1) cap2) b)/\(w9.setCell ⟨ab,3,none⟩ (.slice (some ⟨gg,0,none⟩) (i+1) cap2)).heap[b]?=w5.heap[b]?:=fun b hlb hba hbu=>by
        refine⟨fun hlo=>⟨hlo,hba,fun e=>?_⟩,?_⟩
        . have e2:gg=b:=by simpa[Value.ownBlock]using e
          rcases hat9 with h|h
          . exact hbu (by rw[h,e2])
          . omega
        . rw[zN _ _ _ _ (by exact hba)];exact grown_at hgrow9 hlb hbu
       have hsz5:wr.heap.size<=w5.heap.size:=hb5.size;have hsz9:w5.heap.size<=w9.heap.size:=by have:=hgrow9.size;simp at this;omega
       have hkeep:∀ {v:Value} {L:List Int},IntZ (Oth W1.heap.size ab (.slice ua i uc)) wr v L->IntZ (Oth W1.heap.size ab (.slice (some ⟨gg,0,none⟩) (i+1) cap2)) (w9.setCell ⟨ab,3,none⟩ (.slice (some ⟨gg,0,none⟩) (i+1) cap2)) v L:=fun h=>by
        refine h.keep (by simp;omega) (fun b hb hlb=>⟨(hK b (by omega) hb.2.1 hb.2.2).1 hb.1,(hK b (by omega) hb.2.1 hb.2.2).2.trans (hb5.block b hlb)⟩)
       have HR:Hid (∃(u:Value) (os2:List (Value×List Int)),Value.slice (some ⟨gg,0,none⟩) (i+1) cap2=u/\(w9.setCell ⟨ab,3,none⟩ (.slice (some ⟨gg,0,none⟩) (i+1) cap2)).heap[ab]?=some (.cells #[.slice wa n wc,.slice a2 (listN 24 f).length k2,.slice a3 (listN 24 l).length k3,u,.bool em] 62 (0,0))/\os2.length=i+1/\(w9.setCell ⟨ab,3,none⟩ (.slice (some ⟨gg,0,none⟩) (i+1) cap2)).ownsRow W1.heap.size 59 1 u os2.length (os2.flatMap csW)/\(∀g,u.ownBlock=some g->g≠ab)/\(∀(j:Nat) p,os2[j]?=some p->p.2=listN 24 (F j)/\IntZ (Oth W1.heap.size ab u) (w9.setCell ⟨ab,3,none⟩ (.slice (some ⟨gg,0,none⟩) (i+1) cap2)) p.1 p.2)/\IntZ (Oth W1.heap.size ab u) (w9.setCell ⟨ab,3,none⟩ (.slice (some ⟨gg,0,none⟩) (i+1) cap2)) v2 (listN 24 f)/\IntZ (Oth W1.heap.size ab u) (w9.setCell ⟨ab,3,none⟩ (.slice (some ⟨gg,0,none⟩) (i+1) cap2)) v3 (listN 24 l)/\Below W1.heap.size W1 (w9.setCell ⟨ab,3,none⟩ (.slice (some ⟨gg,0,none⟩) (i+1) cap2))):=zA (by
        have hgne:gg≠ab:=by
         rcases hat9 with h|h
         . exact HNO.out gg (by cases ua<;>exact h)
         . omega
        refine⟨_,os++[(.slice a5 (listN 24 Fi).length k5,listN 24 Fi)],rfl,?_,by rw[zG,HOL.out];rfl,?_,fun g hg=>?_,fun j p hp=>?_,hkeep HKV2b.out,hkeep HKV3b.out,?_⟩
        . refine set3_at5 (t:=62) (c3:=.slice ua i uc) ?_;rw[hh9,hb5.block ab habl];exact HKA2.out
        . rw[zG,HOL.out,zR];refine owns_key (w:=w9) (by simpa[csW]using hown9) (fun g o hg ho=>(zN _ _ _ _ (by
           have e2:gg=g:=by simpa[Value.ownBlock]using hg
           exact e2▸hgne)).trans ho)
        . have e2:gg=g:=by simpa[Value.ownBlock]using hg
          exact e2▸hgne
        . by_cases hj:j<os.length
          . rw[yH hj]at hp;have:=HALL.out j p hp;exact⟨this.1,hkeep this.2⟩
          . rw[yO (by omega)]at hp;have hj0:j-os.length=0:=by
             have:=(zF.1 hp).1;simp at this;omega
            rw[hj0]at hp;simp at hp;subst hp;have hji:j=i:=by have:=HOL.out;omega
            refine⟨by rw[HFI.out,hji],?_⟩;exact(own_sl csZ_len ho5 rfl).keep (by simp;omega) (fun b hb hlb=>by
             have hb2:wr.heap.size<=b:=(ho5.lt b hb).1;have hbu:(Value.slice ua i uc).ownBlock≠some b:=fun e=>by
              have:b<wr.heap.size:=(HROW2.out.lt b e).2;omega
             exact⟨(hK b hlb (by omega) hbu).1 (by omega),(hK b hlb (by omega) hbu).2⟩)
        . have hB5:Below W1.heap.size W1 w5:=HKB1.out.drew.trans (hb5.mono hsB);have hB9:Below W1.heap.size W1 w9:=(hB5.alloc hB5.size _).grown hgrow9 (by simp;omega) (fun k e=>(HROW2.out.lt k e).1);exact hB9.setCell (p:=⟨ab,3,none⟩) KC1 _)
       clear hK hkeep hown9 hgrow9 hat9 hlt9 hh9 q09 q19 ho5 hb5 c35 y35;go_wp2;go_roundw
       case rel=>
        obtain⟨u,os2,_,r1,r2,r3,r4,r5,r6,r7,r8⟩:=HR.out;exact⟨i+1,u,os2,by omega,by go_num,r1,r2,r3,r4,r5,r6,r7,r8⟩
       case measure=>simp[intOf];omega)
    . have hltI:¬(i:Int)<(n:Int):=by omega
      have hin:i=n:=by omega
      have e1:wr.heap[w.heap.size+1]?=some (.cells #[.slice none 0 0,.slice none 0 0,.slice none 0 0,.slice none 0 0,.bool false] 62 (0,0)):=by
       rw[kb1.block (w.heap.size+1) (by have:=HSZ.out;omega),HW1.out];exact(by simpa using heap_alloc_new (w.alloc (.cells #[.int .u32 (f:Int),.int .u32 (l:Int),.bool em] 103)) _)
      obtain⟨⟨r0,r1,r2,r3,r4⟩,⟨x0,x1,x2,x3,x4⟩⟩:=five_cells e1;obtain⟨⟨z0,z1,z2,z3,z4⟩,_⟩:=five_cells (set5P_at (c0:=.slice wa n wc) (c1:=.slice a2 (listN 24 f).length k2) (c2:=.slice a3 (listN 24 l).length k3) (c3:=.slice ua i uc) (c4:=.bool em) e1);have hE:∃m:Mu,(Value.agg #[.slice wa n wc,.slice a2 (listN 24 f).length k2,.slice a3 (listN 24 l).length k3,.slice ua i uc,.bool em]:Value)=encU m/\UOk (fun g=>lo<=g) (set5P wr (w.heap.size+1) (.slice wa n wc) (.slice a2 (listN 24 f).length k2) (.slice a3 (listN 24 l).length k3) (.slice ua i uc) (.bool em)) m/\m.au=⟨ws,rise n A,rise n B,(List.range n).map (fun k=>rise n (folN ps k)),em⟩/\Below w.heap.size w (set5P wr (w.heap.size+1) (.slice wa n wc) (.slice a2 (listN 24 f).length k2) (.slice a3 (listN 24 l).length k3) (.slice ua i uc) (.bool em)):=by
       have hk5:∀b,lo<=b->b≠w.heap.size+1->lo<=b/\(set5P wr (w.heap.size+1) (.slice wa n wc) (.slice a2 (listN 24 f).length k2) (.slice a3 (listN 24 l).length k3) (.slice ua i uc) (.bool em)).heap[b]?=wr.heap[b]?:=fun b hbl hb=>⟨hbl,set5P_other hb _ _ _ _ _⟩
       have hsz5:wr.heap.size<=(set5P wr (w.heap.size+1) (.slice wa n wc) (.slice a2 (listN 24 f).length k2) (.slice a3 (listN 24 l).length k3) (.slice ua i uc) (.bool em)).heap.size:=by rw[set5P_size];exact zD _
       have hsW:=HSZ.out;have hL2:=listN_len 24 f;have hL3:=listN_len 24 l;have hN24:=HN24.out;have hwsl:ws.length<=24:=by rw[<- HN.out];exact hN24
       refine⟨⟨.slice wa n wc,ws,.slice a2 (listN 24 f).length k2,listN 24 f,.slice a3 (listN 24 l).length k3,listN 24 l,.slice ua i uc,os,em⟩,rfl,⟨?_,?_,by dsimp only;omega,?_,by dsimp only;omega,?_,by dsimp only;omega,?_,?_,by dsimp only;rw[HOL.out];omega⟩,?_,?_⟩
       . have:=(own_sl (enc:=csT) (k:=1) (fun _=>rfl) hm4.row rfl).keep (T:=fun g=>lo<=g) hsz5 (fun b hb _=>hk5 b (HLO.out b (by cases wa<;>exact hb)) (by have:=(HMW.out.row.lt b hb).2;omega));rw[<- HN.out]at this;exact this
       . intro s hs;have:=HWB.out s hs;omega
       . have:=HKV2b.out.keep (T:=fun g=>lo<=g) hsz5 (fun b hb _=>hk5 b (by have:=hb.1;omega) (by have:=hb.1;omega));rw[HV2.out]at this;exact this
       . have:=HKV3b.out.keep (T:=fun g=>lo<=g) hsz5 (fun b hb _=>hk5 b (by have:=hb.1;omega) (by have:=hb.1;omega));rw[HV3.out]at this;exact this
       . have:=(own_sl (enc:=csW) (k:=1) (fun _=>rfl) HROW.out rfl).keep (T:=fun g=>lo<=g) hsz5 (fun b hb _=>hk5 b (by have:=(HROW.out.lt b hb).1;omega) (by have:=(HROW.out.lt b hb).1;omega));exact this
       . intro p hp;obtain⟨j,hj⟩:=List.getElem?_of_mem hp;obtain⟨h1,h2⟩:=HALL.out j p hj;refine⟨h2.keep hsz5 (fun b hb _=>hk5 b (by have:=hb.1;omega) (by have:=hb.1;omega)),?_⟩;rw[h1];have:=listN_len 24 (F j);omega
       . refine au_mk ?_ ?_ ?_
         . exact listN_rise HAB.out.1.2 (by rw[HN.out];exact HAL.out.1) hN24
         . exact listN_rise HAB.out.2.2 (by rw[HN.out];exact HAL.out.2.1) hN24
         . apply List.ext_getElem?;intro j;rw[zI,zI];by_cases hj:j<n
           . obtain⟨p,hp⟩:∃p,os[j]?=some p:=⟨_,zB (by rw[HOL.out];omega)⟩
             rw[hp,yQ hj];simp only[Option.map_some];rw[(HALL.out j p hp).1];refine congrArg some (listN_rise (fun i=>?_) (fun i hi=>?_) hN24)
             . rw[(HFO.out j (by omega)).2,mem_folN]
             . rw[HN.out];exact HAL.out.2.2 (j,i) (mem_folN.1 hi)
           . rw[yE (by rw[HOL.out];omega),yE (by simp;omega)];rfl
       . exact Below.set5P ((show Below w.heap.size w W1 from HBW.out).trans (HKB1.out.mono HBW.out.size)) (by omega) _ _ _ _ _
      obtain⟨m,hmE,hE2,hE3,hE4⟩:=hE;have HE:Hid (∃m:Mu,Ending.returned (Value.agg #[.slice wa n wc,.slice a2 (listN 24 f).length k2,.slice a3 (listN 24 l).length k3,.slice ua i uc,.bool em])=.returned (encU m)/\UOk (fun g=>lo<=g) (set5P wr (w.heap.size+1) (.slice wa n wc) (.slice a2 (listN 24 f).length k2) (.slice a3 (listN 24 l).length k3) (.slice ua i uc) (.bool em)) m/\m.au=⟨ws,rise n A,rise n B,(List.range n).map (fun k=>rise n (folN ps k)),em⟩/\Below w.heap.size w (set5P wr (w.heap.size+1) (.slice wa n wc) (.slice a2 (listN 24 f).length k2) (.slice a3 (listN 24 l).length k3) (.slice ua i uc) (.bool em))):=zA ⟨m,by rw[hmE],hE2,hE3,hE4⟩;have Z0:=zA z0;have Z1:=zA z1;have Z2:=zA z2;have Z3:=zA z3;have Z4:=zA z4;have HIN:=zA hin;clear ka hol hrow hno hall kv2 kv3 kb1 hm4 z0 z1 z2 z3 z4 hmE hE2 hE3 hE4 e1 hin;unfold set5P at HE Z0 Z1 Z2 Z3 Z4;go_wp2;refine bodyPost_ret (v:=.agg #[.slice wa n wc,.slice a2 (listN 24 f).length k2,.slice a3 (listN 24 l).length k3,.slice ua i uc,.bool em]) ?_ rfl HE.out;simp[results,Tryz.results54,go_sem,Z0.out,Z1.out,Z2.out,Z3.out,Z4.out]
 . obtain⟨W,ab,hWW,habb,KA,KB,KC1,KV2,KV3⟩:∃(W:World) (ab:Nat),(((((w3.setCell ⟨W1.heap.size,0,none⟩ (.slice wa n wc)).setCell ⟨W1.heap.size,1,none⟩ (.slice a2 (listN 24 f).length k2)).setCell ⟨W1.heap.size,2,none⟩ (.slice a3 (listN 24 l).length k3)).setCell ⟨W1.heap.size,3,none⟩ (.slice none 0 0)).setCell ⟨W1.heap.size,4,none⟩ (.bool em))=W/\W1.heap.size=ab/\W.heap[ab]?=some (.cells #[.slice wa n wc,.slice a2 (listN 24 f).length k2,.slice a3 (listN 24 l).length k3,.slice none 0 0,.bool em] 62 (0,0))/\Below W1.heap.size W1 W/\W1.heap.size<=ab/\IntZ (Oth W1.heap.size ab (.slice none 0 0)) W (.slice a2 (listN 24 f).length k2) (listN 24 f)/\IntZ (Oth W1.heap.size ab (.slice none 0 0)) W (.slice a3 (listN 24 l).length k3) (listN 24 l):=by
    refine⟨_,_,rfl,rfl,set5P_at hz3,Below.set5P hp3 hbz3 (.slice wa n wc) (.slice a2 (listN 24 f).length k2) (.slice a3 (listN 24 l).length k3) (.slice none 0 0) (.bool em),hbz3,?_,?_⟩
    . exact(own_sl csZ_len ho2 rfl).keep (w':=set5P w3 W1.heap.size (.slice wa n wc) (.slice a2 (listN 24 f).length k2) (.slice a3 (listN 24 l).length k3) (.slice none 0 0) (.bool em)) (by rw[set5P_size];exact hb3.size) (fun b hb hlt=>⟨⟨zT HPB.out.size (ho2.lt b hb).1,by have:=(ho2.lt b hb).1;simp at this;omega,by simp[Value.ownBlock]⟩,(set5P_other (by have:=(ho2.lt b hb).1;simp at this;omega) (.slice wa n wc) (.slice a2 (listN 24 f).length k2) (.slice a3 (listN 24 l).length k3) (.slice none 0 0) (.bool em)).trans (hb3.block b hlt)⟩)
    . exact(own_sl csZ_len ho3 rfl).keep (w':=set5P w3 W1.heap.size (.slice wa n wc) (.slice a2 (listN 24 f).length k2) (.slice a3 (listN 24 l).length k3) (.slice none 0 0) (.bool em)) (by rw[set5P_size];exact zD _) (fun b hb hlt=>⟨⟨zT hp2.size (ho3.lt b hb).1,by have:=(ho3.lt b hb).1;have:=lt_of_block hq2;omega,by simp[Value.ownBlock]⟩,set5P_other (by have:=(ho3.lt b hb).1;have:=lt_of_block hq2;omega) (.slice wa n wc) (.slice a2 (listN 24 f).length k2) (.slice a3 (listN 24 l).length k3) (.slice none 0 0) (.bool em)⟩)
   rw[hWW];simp only[habb];have HWn:Hid (W1.heap.size=w.heap.size+2):=HSZ;clear hWW habb;clear ho2 hb2 ho3 hb3 hp2 hp3 hz3 hbz3 hz2 hne2 hq2 g0 g1 g2 g3 g4 h0 h1 h2 h3 h4;have HKA:=zA KA;have HKB:=zA KB;have HKV2:=zA KV2;have HKV3:=zA KV3;have hm3:=HMW.out.below hS ((show Below w.heap.size w W1 from HBW.out).trans (KB.mono HBW.out.size));have q9:=hm3.c0;rw[<- HN.out]at q9;obtain⟨⟨c0,c1,c2,c3,c4⟩,_⟩:=five_cells KA;have HM3:=zA hm3;clear KA KB KV2 KV3 hm3;obtain⟨v2,hv2⟩:∃v,v=Value.slice a2 (listN 24 f).length k2:=⟨_,rfl⟩
   obtain⟨v3,hv3⟩:∃v,v=Value.slice a3 (listN 24 l).length k3:=⟨_,rfl⟩
   rw[<- hv2]at HKV2;rw[<- hv3]at HKV3;have HV2:=zA hv2;have HV3:=zA hv3;go_wp2_with fail;go_loopw [25] (fun c wr=>∃(i:Nat) (u:Value) (os:List (Value×List Int)),i<=n/\c=.int .i64 i/\wr.heap[ab]?=some (.cells #[.slice wa n wc,.slice a2 (listN 24 f).length k2,.slice a3 (listN 24 l).length k3,u,.bool em] 62 (0,0))/\os.length=i/\wr.ownsRow W1.heap.size 59 1 u os.length (os.flatMap csW)/\(∀g,u.ownBlock=some g->g≠ab)/\(∀(j:Nat) p,os[j]?=some p->p.2=listN 24 (F j)/\IntZ (Oth W1.heap.size ab u) wr p.1 p.2)/\IntZ (Oth W1.heap.size ab u) wr v2 (listN 24 f)/\IntZ (Oth W1.heap.size ab u) wr v3 (listN 24 l)/\Below W1.heap.size W1 wr) (fun c _=>n-(intOf c).toNat)
   case atStart=>exact⟨0,.slice none 0 0,[],zO _,rfl,HKA.out,rfl,World.ownsRow_nil _ _ _ _,by simp[Value.ownBlock],by simp,HKV2.out,HKV3.out,HKB.out⟩
   case round=>
    clear c0 c1 c2 c3 c4 q9;obtain⟨i,u,os,hi,rfl,ka,hol,hrow,hno,hall,kv2,kv3,kb1⟩:=hrel;obtain⟨ua,uc,hu⟩:=own_slice hrow;rw[hol]at hu;subst hu;have hm4:=HMW.out.below hS ((show Below w.heap.size w W1 from HBW.out).trans (kb1.mono HBW.out.size));obtain⟨⟨c0,c1,c2,c3,c4⟩,⟨y0,y1,y2,y3,y4⟩⟩:=five_cells ka;have habl:=lt_of_block ka;have HKA2:=zA ka;have HOL:=zA hol;have HROW:=zA hrow;have HNO:=zA hno;have HALL:=zA hall;have HKV2b:=zA kv2;have HKV3b:=zA kv3;have HKB1:=zA kb1;by_cases hlt:i<n
    . have hltI:(i:Int)<(n:Int):=by omega
      have hi24:i<24:=by have:=HN24.out;omega
      have hi24I:(i:Int)<24:=by omega
      obtain⟨p0,_⟩:=hm4.fol i hi24;have hFi:=(HFO.out i hi24).1;have C:=zA (list_any (F i) wr.drew hFi);obtain⟨Fi,hFie⟩:∃x,x=F i:=⟨_,rfl⟩
      rw[<- hFie]at p0 hFi C;have HFI:=zA hFie;have hrow2:=hrow;rw[hol]at hrow2;have HROW2:=zA hrow2;have hsB:W1.heap.size<=wr.heap.size:=kb1.size;clear ka hol hrow hno hall kv2 kv3 kb1 hm4 hFie hrow2 c0 c1 c2 c4 y0 y1 y2 y4;go_wp2_with fail;go_region_law (first
       |(go_simp;refine C.out.mono ?_;rintro e w5 ⟨v5,rfl,ho5,hb5⟩;obtain⟨a5,k5,hv5⟩:=own_slice ho5;subst hv5;have c35:=(hb5.cell (p:=⟨ab,3,none⟩) habl).trans c3;have y35:=(hb5.frozen (p:=⟨ab,3,none⟩) habl).trans y3;have habl5:ab<w5.heap.size:=zQ habl hb5.size)
       |(refine step_append_lies _ (by rfl) _ _ _ (by rfl) W1.heap.size 59 i0 _ 1 24 Tryz.underlying60 hi0 hz0 hz1 hz2 rfl (by decide) (.slice ua i uc) _ _ (by rfl) ((owns_below HROW2.out.drew hb5).alloc _) ⟨w5.heap.size,0,none⟩ 1 1 [.slice a5 (listN 24 Fi).length k5] (by rfl) (by rfl) (World.news_of_block (cs:=#[.slice a5 (listN 24 Fi).length k5]) (t:=59) (fr:=(0,0)) (heap_alloc_new w5 _)) (by simp[Value.oneCell']) (by decide) (by unfold maxLen;omega) (by omega) (by have:=hb5.size;simp at this ⊢;omega) (w5.heap.size+1) (by simp) ?_;intro gg cap2 w9 hown9 hgrow9 hat9 hlt9;have hh9:=grown_at hgrow9 habl5 (fun e=>HNO.out _ (by cases ua<;>exact e) rfl);have q09:=cell_of hh9 c35;have q19:=froz_of hh9 y35))
      all_goals (
       have hK:∀b,b<w5.heap.size->b≠ab->(Value.slice ua i uc).ownBlock≠some b->(W1.heap.size<=b->Oth W1.heap.size ab (.slice (some ⟨gg,0,none⟩) (i+1) cap2) b)/\(w9.setCell ⟨ab,3,none⟩ (.slice (some ⟨gg,0,none⟩) (i+1) cap2)).heap[b]?=w5.heap[b]?:=fun b hlb hba hbu=>by
        refine⟨fun hlo=>⟨hlo,hba,fun e=>?_⟩,?_⟩
        . have e2:gg=b:=by simpa[Value.ownBlock]using e
          rcases hat9 with h|h
          . exact hbu (by rw[h,e2])
          . omega
        . rw[zN _ _ _ _ (by exact hba)];exact grown_at hgrow9 hlb hbu
       have hsz5:wr.heap.size<=w5.heap.size:=hb5.size;have hsz9:w5.heap.size<=w9.heap.size:=by have:=hgrow9.size;simp at this;omega
       have hkeep:∀ {v:Value} {L:List Int},IntZ (Oth W1.heap.size ab (.slice ua i uc)) wr v L->IntZ (Oth W1.heap.size ab (.slice (some ⟨gg,0,none⟩) (i+1) cap2)) (w9.setCell ⟨ab,3,none⟩ (.slice (some ⟨gg,0,none⟩) (i+1) cap2)) v L:=fun h=>by
        refine h.keep (by simp;omega) (fun b hb hlb=>⟨(hK b (by omega) hb.2.1 hb.2.2).1 hb.1,(hK b (by omega) hb.2.1 hb.2.2).2.trans (hb5.block b hlb)⟩)
       have HR:Hid (∃(u:Value) (os2:List (Value×List Int)),Value.slice (some ⟨gg,0,none⟩) (i+1) cap2=u/\(w9.setCell ⟨ab,3,none⟩ (.slice (some ⟨gg,0,none⟩) (i+1) cap2)).heap[ab]?=some (.cells #[.slice wa n wc,.slice a2 (listN 24 f).length k2,.slice a3 (listN 24 l).length k3,u,.bool em] 62 (0,0))/\os2.length=i+1/\(w9.setCell ⟨ab,3,none⟩ (.slice (some ⟨gg,0,none⟩) (i+1) cap2)).ownsRow W1.heap.size 59 1 u os2.length (os2.flatMap csW)/\(∀g,u.ownBlock=some g->g≠ab)/\(∀(j:Nat) p,os2[j]?=some p->p.2=listN 24 (F j)/\IntZ (Oth W1.heap.size ab u) (w9.setCell ⟨ab,3,none⟩ (.slice (some ⟨gg,0,none⟩) (i+1) cap2)) p.1 p.2)/\IntZ (Oth W1.heap.size ab u) (w9.setCell ⟨ab,3,none⟩ (.slice (some ⟨gg,0,none⟩) (i+1) cap2)) v2 (listN 24 f)/\IntZ (Oth W1.heap.size ab u) (w9.setCell ⟨ab,3,none⟩ (.slice (some ⟨gg,0,none⟩) (i+1) cap2)) v3 (listN 24 l)/\Below W1.heap.size W1 (w9.setCell ⟨ab,3,none⟩ (.slice (some ⟨gg,0,none⟩) (i+1) cap2))):=zA (by
        have hgne:gg≠ab:=by
         rcases hat9 with h|h
         . exact HNO.out gg (by cases ua<;>exact h)
         . omega
        refine⟨_,os++[(.slice a5 (listN 24 Fi).length k5,listN 24 Fi)],rfl,?_,by rw[zG,HOL.out];rfl,?_,fun g hg=>?_,fun j p hp=>?_,hkeep HKV2b.out,hkeep HKV3b.out,?_⟩
        . refine set3_at5 (t:=62) (c3:=.slice ua i uc) ?_;rw[hh9,hb5.block ab habl];exact HKA2.out
        . rw[zG,HOL.out,zR];refine owns_key (w:=w9) (by simpa[csW]using hown9) (fun g o hg ho=>(zN _ _ _ _ (by
           have e2:gg=g:=by simpa[Value.ownBlock]using hg
           exact e2▸hgne)).trans ho)
        . have e2:gg=g:=by simpa[Value.ownBlock]using hg
          exact e2▸hgne
        . by_cases hj:j<os.length
          . rw[yH hj]at hp;have:=HALL.out j p hp;exact⟨this.1,hkeep this.2⟩
          . rw[yO (by omega)]at hp;have hj0:j-os.length=0:=by
             have:=(zF.1 hp).1;simp at this;omega
            rw[hj0]at hp;simp at hp;subst hp;have hji:j=i:=by have:=HOL.out;omega
            refine⟨by rw[HFI.out,hji],?_⟩;exact(own_sl csZ_len ho5 rfl).keep (by simp;omega) (fun b hb hlb=>by
             have hb2:wr.heap.size<=b:=(ho5.lt b hb).1;have hbu:(Value.slice ua i uc).ownBlock≠some b:=fun e=>by
              have:b<wr.heap.size:=(HROW2.out.lt b e).2;omega
             exact⟨(hK b hlb (by omega) hbu).1 (by omega),(hK b hlb (by omega) hbu).2⟩)
        . have hB5:Below W1.heap.size W1 w5:=HKB1.out.drew.trans (hb5.mono hsB);have hB9:Below W1.heap.size W1 w9:=(hB5.alloc hB5.size _).grown hgrow9 (by simp;omega) (fun k e=>(HROW2.out.lt k e).1);exact hB9.setCell (p:=⟨ab,3,none⟩) KC1 _)
       clear hK hkeep hown9 hgrow9 hat9 hlt9 hh9 q09 q19 ho5 hb5 c35 y35;go_wp2;go_roundw
       case rel=>
        obtain⟨u,os2,_,r1,r2,r3,r4,r5,r6,r7,r8⟩:=HR.out;exact⟨i+1,u,os2,by omega,by go_num,r1,r2,r3,r4,r5,r6,r7,r8⟩
       case measure=>simp[intOf];omega)
    . have hltI:¬(i:Int)<(n:Int):=by omega
      have hin:i=n:=by omega
      have e1:wr.heap[w.heap.size+1]?=some (.cells #[.slice none 0 0,.slice none 0 0,.slice none 0 0,.slice none 0 0,.bool false] 62 (0,0)):=by
       rw[kb1.block (w.heap.size+1) (by have:=HSZ.out;omega),HW1.out];exact(by simpa using heap_alloc_new (w.alloc (.cells #[.int .u32 (f:Int),.int .u32 (l:Int),.bool em] 103)) _)
      obtain⟨⟨r0,r1,r2,r3,r4⟩,⟨x0,x1,x2,x3,x4⟩⟩:=five_cells e1;obtain⟨⟨z0,z1,z2,z3,z4⟩,_⟩:=five_cells (set5P_at (c0:=.slice wa n wc) (c1:=.slice a2 (listN 24 f).length k2) (c2:=.slice a3 (listN 24 l).length k3) (c3:=.slice ua i uc) (c4:=.bool em) e1);have hE:∃m:Mu,(Value.agg #[.slice wa n wc,.slice a2 (listN 24 f).length k2,.slice a3 (listN 24 l).length k3,.slice ua i uc,.bool em]:Value)=encU m/\UOk (fun g=>lo<=g) (set5P wr (w.heap.size+1) (.slice wa n wc) (.slice a2 (listN 24 f).length k2) (.slice a3 (listN 24 l).length k3) (.slice ua i uc) (.bool em)) m/\m.au=⟨ws,rise n A,rise n B,(List.range n).map (fun k=>rise n (folN ps k)),em⟩/\Below w.heap.size w (set5P wr (w.heap.size+1) (.slice wa n wc) (.slice a2 (listN 24 f).length k2) (.slice a3 (listN 24 l).length k3) (.slice ua i uc) (.bool em)):=by
       have hk5:∀b,lo<=b->b≠w.heap.size+1->lo<=b/\(set5P wr (w.heap.size+1) (.slice wa n wc) (.slice a2 (listN 24 f).length k2) (.slice a3 (listN 24 l).length k3) (.slice ua i uc) (.bool em)).heap[b]?=wr.heap[b]?:=fun b hbl hb=>⟨hbl,set5P_other hb _ _ _ _ _⟩
       have hsz5:wr.heap.size<=(set5P wr (w.heap.size+1) (.slice wa n wc) (.slice a2 (listN 24 f).length k2) (.slice a3 (listN 24 l).length k3) (.slice ua i uc) (.bool em)).heap.size:=by rw[set5P_size];exact zD _
       have hsW:=HSZ.out;have hL2:=listN_len 24 f;have hL3:=listN_len 24 l;have hN24:=HN24.out;have hwsl:ws.length<=24:=by rw[<- HN.out];exact hN24
       refine⟨⟨.slice wa n wc,ws,.slice a2 (listN 24 f).length k2,listN 24 f,.slice a3 (listN 24 l).length k3,listN 24 l,.slice ua i uc,os,em⟩,rfl,⟨?_,?_,by dsimp only;omega,?_,by dsimp only;omega,?_,by dsimp only;omega,?_,?_,by dsimp only;rw[HOL.out];omega⟩,?_,?_⟩
       . have:=(own_sl (enc:=csT) (k:=1) (fun _=>rfl) hm4.row rfl).keep (T:=fun g=>lo<=g) hsz5 (fun b hb _=>hk5 b (HLO.out b (by cases wa<;>exact hb)) (by have:=(HMW.out.row.lt b hb).2;omega));rw[<- HN.out]at this;exact this
       . intro s hs;have:=HWB.out s hs;omega
       . have:=HKV2b.out.keep (T:=fun g=>lo<=g) hsz5 (fun b hb _=>hk5 b (by have:=hb.1;omega) (by have:=hb.1;omega));rw[HV2.out]at this;exact this
       . have:=HKV3b.out.keep (T:=fun g=>lo<=g) hsz5 (fun b hb _=>hk5 b (by have:=hb.1;omega) (by have:=hb.1;omega));rw[HV3.out]at this;exact this
       . have:=(own_sl (enc:=csW) (k:=1) (fun _=>rfl) HROW.out rfl).keep (T:=fun g=>lo<=g) hsz5 (fun b hb _=>hk5 b (by have:=(HROW.out.lt b hb).1;omega) (by have:=(HROW.out.lt b hb).1;omega));exact this
       . intro p hp;obtain⟨j,hj⟩:=List.getElem?_of_mem hp;obtain⟨h1,h2⟩:=HALL.out j p hj;refine⟨h2.keep hsz5 (fun b hb _=>hk5 b (by have:=hb.1;omega) (by have:=hb.1;omega)),?_⟩;rw[h1];have:=listN_len 24 (F j);omega
       . refine au_mk ?_ ?_ ?_
         . exact listN_rise HAB.out.1.2 (by rw[HN.out];exact HAL.out.1) hN24
         . exact listN_rise HAB.out.2.2 (by rw[HN.out];exact HAL.out.2.1) hN24
         . apply List.ext_getElem?;intro j;rw[zI,zI];by_cases hj:j<n
           . obtain⟨p,hp⟩:∃p,os[j]?=some p:=⟨_,zB (by rw[HOL.out];omega)⟩
             rw[hp,yQ hj];simp only[Option.map_some];rw[(HALL.out j p hp).1];refine congrArg some (listN_rise (fun i=>?_) (fun i hi=>?_) hN24)
             . rw[(HFO.out j (by omega)).2,mem_folN]
             . rw[HN.out];exact HAL.out.2.2 (j,i) (mem_folN.1 hi)
           . rw[yE (by rw[HOL.out];omega),yE (by simp;omega)];rfl
       . exact Below.set5P ((show Below w.heap.size w W1 from HBW.out).trans (HKB1.out.mono HBW.out.size)) (by omega) _ _ _ _ _
      obtain⟨m,hmE,hE2,hE3,hE4⟩:=hE;have HE:Hid (∃m:Mu,Ending.returned (Value.agg #[.slice wa n wc,.slice a2 (listN 24 f).length k2,.slice a3 (listN 24 l).length k3,.slice ua i uc,.bool em])=.returned (encU m)/\UOk (fun g=>lo<=g) (set5P wr (w.heap.size+1) (.slice wa n wc) (.slice a2 (listN 24 f).length k2) (.slice a3 (listN 24 l).length k3) (.slice ua i uc) (.bool em)) m/\m.au=⟨ws,rise n A,rise n B,(List.range n).map (fun k=>rise n (folN ps k)),em⟩/\Below w.heap.size w (set5P wr (w.heap.size+1) (.slice wa n wc) (.slice a2 (listN 24 f).length k2) (.slice a3 (listN 24 l).length k3) (.slice ua i uc) (.bool em))):=zA ⟨m,by rw[hmE],hE2,hE3,hE4⟩;have Z0:=zA z0;have Z1:=zA z1;have Z2:=zA z2;have Z3:=zA z3;have Z4:=zA z4;have HIN:=zA hin;clear ka hol hrow hno hall kv2 kv3 kb1 hm4 z0 z1 z2 z3 z4 hmE hE2 hE3 hE4 e1 hin;unfold set5P at HE Z0 Z1 Z2 Z3 Z4;go_wp2;refine bodyPost_ret (v:=.agg #[.slice wa n wc,.slice a2 (listN 24 f).length k2,.slice a3 (listN 24 l).length k3,.slice ua i uc,.bool em]) ?_ rfl HE.out;simp[results,Tryz.results54,go_sem,Z0.out,Z1.out,Z2.out,Z3.out,Z4.out]
end Go.Proofs.YtkbgmcmcpbegjaaGreatDoor
