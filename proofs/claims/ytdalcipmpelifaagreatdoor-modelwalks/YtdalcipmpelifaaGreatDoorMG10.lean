/- GSort, ACut, MPut, MVert, GGraph, BMap, MMem. -/
import Derived.Test.YtdalcipmpelifaaGreatDoorMG8
import Derived.Test.YtdalcipmpelifaaGreatDoorMG9
import Derived.Lib.OwnBridge
import Derived.Carry
import Derived.MapKept
import Derived.OwnWalk
set_option maxRecDepth 100000
namespace Go.Proofs.YtdalcipmpelifaaGreatDoor
open Go.RowKit Go.Sort Go.Lib Go.Shelf
theorem less_lt:∀(a b:List UInt8),less a b=true↔a<b
 |[],[]=>by simp[less,Op.bytesLess]
 |[],b::bs=>by simp[less,Op.bytesLess]
 |a::xs,[]=>by simp[less,Op.bytesLess]
 |a::xs,b::bs=>by
  have ih:=less_lt xs bs;simp only[less]at ih;simp only[less,Op.bytesLess,Bool.or_eq_true,decide_eq_true_eq,Bool.and_eq_true,beq_iff_eq,List.cons_lt_cons_iff,ih]
theorem le_less(a b:List UInt8):decide (a<=b)= !less b a:=by
 cases h:less b a with
 |true=>
  have:=(less_lt b a).1 h;simp only[Bool.not_true,decide_eq_false_iff_not];exact fun h2=>h2 this
 |false=>
  simp only[Bool.not_false,decide_eq_true_eq];intro h2;rw[(less_lt b a).2 h2]at h;cases h
def sortW(N:List Wd):List Wd:=N.mergeSort fun x y=>decide (x<=y)
theorem sortW_perm(N:List Wd):(sortW N).Perm N:=List.mergeSort_perm _ _
theorem sortW_rise{N:List Wd}(hd:N.Nodup):RiseL less (sortW N):=by
 have hs:(sortW N).Pairwise (fun x y=>decide (x<=y)=true):=by
  unfold sortW;apply List.pairwise_mergeSort
  . intro a b c h1 h2;rw[le_less,Bool.not_eq_true']at*;cases h3:less c a with
    |false=>rfl
    |true=>
     cases h4:less a b with
     |true=>rw[ordW.tr _ _ _ h3 h4]at h2;cases h2
     |false=>
      have:=ordW.tot _ _ h1 h4;subst this;rw[h3]at h2;cases h2
  . intro a b;rw[le_less,le_less];cases h1:less b a with
    |false=>simp
    |true=>rw[ordW.asymm h1];rfl
 have hn:(sortW N).Nodup:=(sortW_perm N).nodup_iff.2 hd;refine(hs.and hn).imp ?_;rintro a b ⟨h1,h2⟩;rw[le_less,Bool.not_eq_true']at h1;cases h:less a b with
 |true=>rfl
 |false=>exact absurd (ordW.tot a b h h1) h2
theorem flat_mapT(l:List Wd):l.flatMap csT=l.map encStr:=by
 induction l with
 |nil=>rfl
 |cons a l ih=>rw[yS,ih];rfl
theorem flat_mapI(l:List Nat):l.flatMap csI=(l.map fun (i:Nat)=>(i:Int)).map (Value.int .i64):=by
 induction l with
 |nil=>rfl
 |cons a l ih=>rw[yS,ih];rfl
theorem sort_grown{α:Type}[Inhabited α]{enc:α->Value}{w:World}{g q:Nat}{d:Array α}{os:Array Obj}:w.grownBy (grow (putRow enc (Sort.ahead w q) g 0 d) os) (some g):=by
 refine⟨rfl,rfl,rfl,by simp[Sort.ahead],fun k hk hne=>?_⟩;rw[heap_grow_old _ _ (by simpa[Sort.ahead]using hk)];have:g≠k:=fun e=>hne (by rw[e])
 simp[putRow,mapBlock,Sort.ahead,Array.getElem?_modify,this]
theorem own_holds{α:Type}[Inhabited α]{enc:α->Value}{w:World}{B n g cap:Nat}{e:TypeId}{zs:List α}(h:w.ownsRow B e 1 (.slice (some ⟨g,0,none⟩) n cap) n (zs.map enc))(hn:n=zs.length):Holds enc w g 0 zs.toArray:=fun j hj=>by
 have hj:j<zs.length:=by simpa using hj
 have h1:=h.cellAt j (by omega);refine⟨?_,by rw[Nat.zero_add];exact h.frozenAt j⟩;rw[Nat.zero_add,h1,zI,zB hj];simp[getElem!_pos,hj]
theorem own_grow{w:World}{B n:Nat}{e:TypeId}{v:Value}{xs:List Value}(h:w.ownsRow B e 1 v n xs)(os:Array Obj):(grow w os).ownsRow B e 1 v n xs:=
 owns_key h (fun g o hg ho=>by rw[heap_grow_old _ _ (lt_of_block ho)];exact ho)
theorem sortS_any{w:World}{B:Nat}{v:Value}{N:List Wd}(h:w.ownsRow B 9 1 v N.length (N.flatMap csT))(hl:N.length<=1000000):
 Calls Tryz.prog 38 #[v] w fun e w'=>e=.returned (.tuple #[])/\w'.ownsRow B 9 1 v N.length ((sortW N).flatMap csT)/\w.grownBy w' v.ownBlock:=by
 have h0:=h;rcases h.2 with⟨rfl,h1⟩|⟨g,cap,cur,rfl,_⟩
 . have hN:N=[]:=yG.1 h1;subst hN;refine(Tryz.slices_Sort_string_none _ _ _).mono ?_;rintro e w' ⟨rfl,rfl⟩;exact⟨rfl,by simpa[sortW]using h0,⟨rfl,rfl,rfl,zD _,fun _ _ _=>rfl⟩⟩
 . rw[flat_mapT]at h0;refine(Tryz.slices_Sort_string g 0 cap N w (own_holds h0 rfl) (h0.lt g rfl).2 (by omega)).mono ?_;rintro e w' ⟨rfl,q,os,rfl⟩;refine⟨rfl,?_,sort_grown⟩;rw[flat_mapT];have h2:=ownsRow_putRow (q:=q) (k:=N.length) (ys:=sortW N) h0 (by rw[(sortW_perm N).length_eq]) (zD _);rw[zK (by rw[(sortW_perm N).length_eq];exact zD _)]at h2;exact own_grow h2 os
def sortN(l:List Nat):List Nat:=l.mergeSort fun x y=>decide (x<=y)
theorem sortN_perm(N:List Nat):(sortN N).Perm N:=List.mergeSort_perm _ _
theorem sortN_rise{N:List Nat}(hd:N.Nodup):(sortN N).Pairwise (·<·):=by
 have hs:(sortN N).Pairwise (fun x y=>decide (x<=y)=true):=by
  unfold sortN;apply List.pairwise_mergeSort
  . intro a b c h1 h2;simp only[decide_eq_true_eq]at*;omega
  . intro a b;simp only[Bool.or_eq_true,decide_eq_true_eq];omega
 have hn:(sortN N).Nodup:=(sortN_perm N).nodup_iff.2 hd;refine(hs.and hn).imp ?_;rintro a b ⟨h1,h2⟩;have h1:=of_decide_eq_true h1;have h2:a≠b:=h2;omega
theorem sort_cast(l:List Nat):(l.map fun (i:Nat)=>(i:Int)).mergeSort (fun x y=>decide (x<=y))=(sortN l).map fun (i:Nat)=>(i:Int):=by
 unfold sortN;rw[List.map_mergeSort];intro a _ b _;simp
theorem sortI_any{w:World}{B:Nat}{v:Value}{N:List Nat}(h:w.ownsRow B 3 1 v N.length (N.flatMap csI))(hl:N.length<=1000000):
 Calls Tryz.prog 45 #[v] w fun e w'=>e=.returned (.tuple #[])/\w'.ownsRow B 3 1 v N.length ((sortN N).flatMap csI)/\w.grownBy w' v.ownBlock:=by
 have h0:=h;rcases h.2 with⟨rfl,h1⟩|⟨g,cap,cur,rfl,_⟩
 . have hN:N=[]:=yG.1 h1;subst hN;refine(Tryz.slices_Sort_int_none _ _ _).mono ?_;rintro e w' ⟨rfl,rfl⟩;exact⟨rfl,by simpa[sortN]using h0,⟨rfl,rfl,rfl,zD _,fun _ _ _=>rfl⟩⟩
 . rw[flat_mapI]at h0;have hc:=Tryz.slices_Sort_int g 0 cap (N.map fun (i:Nat)=>(i:Int)) w (own_holds h0 (by simp)) (h0.lt g rfl).2 (by simp;omega);rw[zH]at hc;refine hc.mono ?_;rintro e w' ⟨rfl,q,os,rfl⟩;refine⟨rfl,?_,sort_grown⟩;rw[flat_mapI,sort_cast];have h2:=ownsRow_putRow (q:=q) (k:=N.length) (ys:=(sortN N).map fun (i:Nat)=>(i:Int)) h0 (by rw[zH,(sortN_perm N).length_eq]) (zD _);rw[zK (by rw[zH,(sortN_perm N).length_eq];exact zD _)]at h2;exact own_grow h2 os
end Go.Proofs.YtdalcipmpelifaaGreatDoor
namespace Go.Proofs.YtdalcipmpelifaaGreatDoor
open Go.RowKit Go.Shelf
section
variable {α:Type} {enc:α->List Value} {k:Nat}
theorem sl_take{S:Nat->Prop}{w:World}{ao:Option Addr}{n cap cap2 i:Nat}{L:List α}(h:SlS enc k S w (.slice ao n cap) L)(hi:i<=L.length):SlS enc k S w (.slice ao i cap2) (L.take i):=by
 obtain⟨a,c,e,h⟩:=h;injection e with e1 e2 e3;subst e1;refine⟨ao,cap2,by rw[yL];congr 1;omega,?_⟩;rcases h with rfl|⟨g,off,e1,hs,hl,hc⟩
 . left;simp
 . refine .inr ⟨g,off,e1,hs,hl,fun j x hx c u hu=>hc j x ?_ c u hu⟩;rw[List.getElem?_take]at hx;split at hx
   . exact hx
   . cases hx
theorem sl_drop{S:Nat->Prop}{w:World}{g off n cap cap2 i:Nat}{L:List α}(h:SlS enc k S w (.slice (some ⟨g,off,none⟩) n cap) L)(hn:n=L.length):SlS enc k S w (.slice (some ⟨g,off+i*k,none⟩) (n-i) cap2) (L.drop i):=by
 obtain⟨a,c,e,h⟩:=h;injection e with e1 e2 e3;subst e1;refine⟨_,cap2,by rw[List.length_drop,hn],?_⟩;rcases h with rfl|⟨g',off',e1,hs,hl,hc⟩
 . left;simp
 . injection e1 with e1;injection e1 with e1 e4;subst e1 e4;refine .inr ⟨g,_,rfl,hs,hl,fun j x hx c u hu=>?_⟩;rw[List.getElem?_drop]at hx;have:=hc (i+j) x hx c u hu;rw[Nat.add_mul]at this;rw[show off+i*k+j*k+c=off+(i*k+j*k)+c by omega];exact this
theorem sl_end{S:Nat->Prop}{w:World}(ao:Option Addr)(cap:Nat):SlS enc k S w (.slice ao 0 cap) []:=⟨ao,cap,rfl,.inl rfl⟩
end
def WillC(S T:Nat->Prop)(x:Vt):Prop:=∀(w:World) (v:Value) (L:List Wd),VOk S w x->TxtS T w v L->CapS v L.length->L.length<=1000000->Calls Tryz.prog 10 #[encN x,v] w fun e w'=>∃b:Bool,e=.returned (.bool b)/\(b=true↔willL x.pt L)/\Below w.heap.size w w'
theorem Calls.known{f:FuncId}{args:Array Value}{w:World}{P:Prop}(h:Calls Tryz.prog f args w fun e w'=>∃b:Bool,e=.returned (.bool b)/\(b=true↔P)/\Below w.heap.size w w'){b:Bool}(hb:b=true↔P):Calls Tryz.prog f args w fun e w'=>e=.returned (.bool b)/\Below w.heap.size w w':=by
 refine h.mono ?_;rintro e w' ⟨c,rfl,hc,hbel⟩;have:c=b:=by
  cases c<;>cases b
  . rfl
  . exact absurd (hc.2 (hb.1 rfl)) (by decide)
  . exact absurd (hb.2 (hc.1 rfl)) (by decide)
  . rfl
 rw[this];exact⟨rfl,hbel⟩
theorem known_some(P:Prop):∃b:Bool,(b=true↔P):=by
 by_cases h:P
 . exact⟨true,by simp[h]⟩
 . exact⟨false,by simp[h]⟩
theorem not_bothW{a b:Wd}(h:¬a=b):¬a=b/\(a==b)=false:=⟨h,by simpa using h⟩
theorem own_capM{w:World}{B n:Nat}{e:TypeId}{size:Nat}{v:Value}{xs:List Value}(h:w.ownsRow B e size v n xs):CapS v n:=by
 rcases h.2 with⟨rfl,rfl⟩|⟨g,cap,cur,rfl,_,_,hle,_⟩
 . exact⟨none,0,rfl,zD _⟩
 . exact⟨_,cap,rfl,hle⟩
section
variable {α:Type} {enc:α->List Value} {kk:Nat}
end
def SrcW(w:World)(v:Value)(L:List Wd):Prop:=Src csT 1 w v L/\CapS v L.length
theorem SrcW.below{w w':World}{v:Value}{L:List Wd}(h:SrcW w v L)(hb:Below w.heap.size w w'):SrcW w' v L:=⟨h.1.below hb,h.2⟩
abbrev csF(f:Fa):List Value:=[.string ⟨f.1.toArray⟩,.string ⟨f.2.1.toArray⟩,.string ⟨f.2.2.toArray⟩]
theorem csF_len(x:Fa):(csF x).length=3:=rfl
abbrev FasS:=SlS csF 3
theorem getF{w:World}{g o:Nat}{f:Fa}(h:∀(c:Nat) u,(csF f)[c]?=some u->w.cell? ⟨g,o+c,none⟩=some u):w.cell? ⟨g,o,none⟩=some (.string ⟨f.1.toArray⟩)/\w.cell? ⟨g,o+1,none⟩=some (.string ⟨f.2.1.toArray⟩)/\w.cell? ⟨g,o+2,none⟩=some (.string ⟨f.2.2.toArray⟩):=
 ⟨h 0 _ rfl,h 1 _ rfl,h 2 _ rfl⟩
theorem map_keyG{w w':World}{k:TypeId}{R:Value->Option (DataW Unit×List MemPlace)}{b n:Nat}{D:DataW Unit}(h:w.ownsMap Tryz.prog k R b n D)(key:∀o,w.heap[b]?=some o->w'.heap[b]?=some o):w'.ownsMap Tryz.prog k R b n D:=by
 obtain⟨es,clock,h1,h2⟩:=h;exact⟨es,clock,key _ h1,h2⟩
theorem own_ne_mapG{w:World}{B n b m:Nat}{e k:TypeId}{size:Nat}{v:Value}{xs:List Value}{R:Value->Option (DataW Unit×List MemPlace)}{D:DataW Unit}(h:w.ownsRow B e size v n xs)(hb:w.ownsMap Tryz.prog k R b m D):v.ownBlock≠some b:=by
 obtain⟨es,clock,hb,_⟩:=hb;intro hv;rcases h.2 with⟨rfl,_⟩|⟨g,cap,cur,rfl,_,e3,_⟩
 . simp[Value.ownBlock]at hv
 . have:g=b:=by simpa[Value.ownBlock]using hv
   subst this;rw[hb]at e3;cases e3
theorem blk_ne_mapG{w:World}{b c m:Nat}{k t:TypeId}{cs:Array Value}{fz:Nat×Nat}{R:Value->Option (DataW Unit×List MemPlace)}{D:DataW Unit}(h:w.heap[c]?=some (.cells cs t fz))(hb:w.ownsMap Tryz.prog k R b m D):b≠c:=by
 obtain⟨es,clock,hb,_⟩:=hb;intro hv;subst hv;rw[hb]at h;cases h
theorem blk_grownG{w w':World}{b:Nat}{o:Obj}{row:Option Nat}(h:w.heap[b]?=some o)(hg:w.grownBy w' row)(hne:row≠some b):w'.heap[b]?=some o:=
 (hg.block b (lt_of_block h) (fun e=>hne e.symm)).trans h
theorem owns_grownG{w w':World}{B n:Nat}{e:TypeId}{size:Nat}{v:Value}{xs:List Value}{row:Option Nat}(h:w.ownsRow B e size v n xs)(hg:w.grownBy w' row)(hne:∀g,row=some g->v.ownBlock≠some g):w'.ownsRow B e size v n xs:=
 owns_key h (fun g _ hg2 ho=>(hg.block g (lt_of_block ho) (fun e=>hne g e.symm hg2)).trans ho)
theorem lawSG:Maps.Keyed Tryz.prog 9:=Maps.string_keyed Tryz.underlying9
theorem zeroIG(w:World):(zeroValue 3).run Tryz.prog w=.ok (.int .i64 0) w:=by kernel_rfl
theorem keySG(s:List UInt8)(hs:s.length<=maxLen):keyOf Tryz.prog 9 (.string ⟨s.toArray⟩)=some (.string s):=by
 have:=WideMaps.keyOf_string_mk (P:=Tryz.prog) (k:=9) Tryz.underlying9 (s:=⟨s.toArray⟩) (by rw[size_list];exact hs);simpa using this
theorem cells3G{w:World}{b:Nat}{c0 c1 c2:Value}{t:TypeId}(h:w.heap[b]?=some (.cells #[c0,c1,c2] t (0,0))):
 (w.cell? ⟨b,0,none⟩=some c0/\w.cell? ⟨b,1,none⟩=some c1/\w.cell? ⟨b,2,none⟩=some c2)/\
 (w.frozen? ⟨b,0,none⟩=false/\w.frozen? ⟨b,1,none⟩=false/\w.frozen? ⟨b,2,none⟩=false):=by
 simp[World.cell?,World.frozen?,h]
theorem set3_0{w:World}{b:Nat}{c0 c1 c2 v:Value}{t:TypeId}(h:w.heap[b]?=some (.cells #[c0,c1,c2] t (0,0))):(w.setCell ⟨b,0,none⟩ v).heap[b]?=some (.cells #[v,c1,c2] t (0,0)):=by
 simp[World.setCell,Array.getElem?_modify,h]
theorem set3_2{w:World}{b:Nat}{c0 c1 c2 v:Value}{t:TypeId}(h:w.heap[b]?=some (.cells #[c0,c1,c2] t (0,0))):(w.setCell ⟨b,2,none⟩ v).heap[b]?=some (.cells #[c0,c1,v] t (0,0)):=by
 simp[World.setCell,Array.getElem?_modify,h]
theorem infoSG:(Tryz.prog.info? 9).map (fun i=>(i.zero,i.size,i.bytes))=some (some (.string ⟨#[]⟩),1,16):=by kernel_rfl
theorem infoEG:(Tryz.prog.info? 93).map (fun i=>(i.zero,i.size,i.bytes))=some (some (.agg #[.int .i64 0,.string ⟨#[]⟩,.int .i64 0]),3,32):=by kernel_rfl
abbrev Eg:=Nat×Wd×Nat
abbrev csE(e:Eg):List Value:=[.int .i64 (e.1:Int),.string ⟨e.2.1.toArray⟩,.int .i64 (e.2.2:Int)]
theorem csE_len(x:Eg):(csE x).length=3:=rfl
structure GrB (S:Nat->Prop) (w:World) (gb mb:Nat) (nv ev:Value) (D:DataW Unit) (c:Nat) (N:List Wd) (E:List Eg):Prop where
 blk:w.heap[gb]?=some (.cells #[nv,.map (some mb),ev] 72 (0,0))
 ow:w.ownsRow 0 9 1 nv N.length (N.flatMap csT)
 oe:w.ownsRow 0 93 3 ev E.length (E.flatMap csE)
 om:w.ownsMap Tryz.prog 9 (plainElem Tryz.prog 3) mb c D
 out:¬S gb
 outw:∀g,nv.ownBlock=some g->¬S g
 oute:∀g,ev.ownBlock=some g->¬S g
 outm:¬S mb
 keys:∀s,Maps.has D (.string s)=decide (s∈N)
section
variable {S:Nat->Prop} {w:World} {gb mb c:Nat} {nv ev:Value} {D:DataW Unit} {N:List Wd} {E:List Eg}
theorem GrB.keepOut{w':World}(h:GrB S w gb mb nv ev D c N E)(key:∀k (o:Obj),¬S k->w.heap[k]?=some o->w'.heap[k]?=some o):GrB S w' gb mb nv ev D c N E:=
 { h with blk:=key gb _ h.out h.blk,ow:=owns_key h.ow (fun g o hg ho=>key g o (h.outw g hg) ho),oe:=owns_key h.oe (fun g o hg ho=>key g o (h.oute g hg) ho),om:=map_keyG h.om (fun o ho=>key mb o h.outm ho) }
theorem GrB.below{w':World}(h:GrB S w gb mb nv ev D c N E)(hb:Below w.heap.size w w'):GrB S w' gb mb nv ev D c N E:=
 h.keepOut (fun k _ _ ho=>(hb.block k (lt_of_block ho)).trans ho)
theorem GrB.turned{w':World}(h:GrB S w gb mb nv ev D c N E)(hg:w.grownBy w' (some mb)):
 w'.heap[gb]?=some (.cells #[nv,.map (some mb),ev] 72 (0,0))/\w'.ownsRow 0 9 1 nv N.length (N.flatMap csT)/\w'.ownsRow 0 93 3 ev E.length (E.flatMap csE):=by
 refine⟨blk_grownG h.blk hg (fun e=>blk_ne_mapG h.blk h.om (Option.some.inj e)),owns_grownG h.ow hg (fun g e=>?_),owns_grownG h.oe hg (fun g e=>?_)⟩
 . rw[<- e];exact own_ne_mapG h.ow h.om
 . rw[<- e];exact own_ne_mapG h.oe h.om
theorem GrB.setNames{w':World}{v:Value}{N':List Wd}{D':DataW Unit}{c':Nat}(hblk:w.heap[gb]?=some (.cells #[nv,.map (some mb),ev] 72 (0,0)))(how:w.ownsRow 0 9 1 nv N.length (N.flatMap csT))(hoe:w.ownsRow 0 93 3 ev E.length (E.flatMap csE))(hom:w.ownsMap Tryz.prog 9 (plainElem Tryz.prog 3) mb c' D')
 (hS:Low S w) (h1:¬S gb) (h2:∀g,nv.ownBlock=some g->¬S g) (h3:∀g,ev.ownBlock=some g->¬S g) (h4:¬S mb)
 (hk:∀k,k<w.heap.size->nv.ownBlock≠some k->w'.heap[k]?=w.heap[k]?) (hv:w'.ownsRow 0 9 1 v N'.length (N'.flatMap csT)) (hg:∀g,v.ownBlock=some g->nv.ownBlock=some g\/w.heap.size<=g) (hkeys:∀s,Maps.has D' (.string s)=decide (s∈N')):
 GrB S (w'.setCell ⟨gb,0,none⟩ v) gb mb v ev D' c' N' E:=by
 have hgb:w'.heap[gb]?=some (.cells #[nv,.map (some mb),ev] 72 (0,0)):=(hk gb (lt_of_block hblk) (own_neG how hblk (by decide))).trans hblk;have ho:∀k,k≠gb->(w'.setCell ⟨gb,0,none⟩ v).heap[k]?=w'.heap[k]?:=fun k hk=>zM _ _ _ _ hk
 refine⟨set3_0 hgb,owns_key hv (fun g o hg2 ho2=>(ho g (fun e=>?_)).trans ho2),owns_key hoe (fun g o hg2 ho2=>(ho g (fun e=>?_)).trans ((hk g (lt_of_block ho2) (fun e=>?_)).trans ho2)),map_keyG hom (fun o ho2=>(ho mb (blk_ne_mapG hblk hom)).trans ((hk mb (lt_of_block ho2) (own_ne_mapG how hom)).trans ho2)),h1,fun g hg2 hs=>?_,h3,h4,hkeys⟩
 . exact own_neG hv hgb (by decide) (by rw[hg2,e])
 . exact own_neG hoe hblk (by decide) (by rw[hg2,e])
 . rcases how.2 with⟨e1,_⟩|⟨b,cap,cur,e1,_,e3,_⟩
   . rw[e1]at e;simp[Value.ownBlock]at e
   . have:b=g:=by rw[e1]at e;simpa[Value.ownBlock]using e
     subst this;exact own_neG hoe e3 (by decide) hg2
 . rcases hg g hg2 with h5|h5
   . exact h2 g h5 hs
   . have:=hS g hs;omega
end
def nameL(N:List Wd)(s:Wd):List Wd:=if s∈N then N else N++[s]
theorem keys_put{D:DataW Unit}{N:List Wd}{s:Wd}{d:DataW Unit}(hm:Maps.IsMap D)(h:∀s,Maps.has D (.string s)=decide (s∈N)):∀t,Maps.has (D.put (.string s) d) (.string t)=decide (t∈N++[s]):=fun t=>by
 by_cases e:t=s
 . subst e;rw[Maps.has_put_same hm (show WideAt.IsKeyLit (.string t)from trivial)];simp
 . rw[Maps.has_put_other (by simpa using e),h t];simp[e]
theorem keys_same{D:DataW Unit}{N:List Wd}{s:Wd}{d:DataW Unit}(hm:Maps.IsMap D)(h:∀s,Maps.has D (.string s)=decide (s∈N))(hs:s∈N):∀t,Maps.has (D.put (.string s) d) (.string t)=decide (t∈N):=fun t=>by
 rw[keys_put hm h];by_cases e:t=s
 . subst e;simp[hs]
 . simp[e]
def NameE(S:Nat->Prop)(w:World)(gb mb c:Nat)(ev:Value)(N':List Wd)(E:List Eg)(e:Ending)(w':World):Prop:=
 e=.returned (.tuple #[])/\(∃nv' D' c',c'<=c+1/\GrB S w' gb mb nv' ev D' c' N' E)/\Fr S w w'
set_option maxHeartbeats 4000000 in
theorem name_any{S:Nat->Prop}{w:World}{gb mb c:Nat}{nv ev:Value}{D:DataW Unit}{N:List Wd}{E:List Eg}(h:GrB S w gb mb nv ev D c N E)(hS:Low S w)(s:Wd)(hs:s.length<=140737488351232)(hl:N.length<=1000000)(hc:c<=1000000):
 Calls Tryz.prog 37 #[.pointer (some ⟨gb,0,none⟩),.string ⟨s.toArray⟩] w (NameE S w gb mb c ev (nameL N s) E):=by
 have H:=zA h;have HS:=zA hS;have HK:=zA (keySG s (by unfold maxLen;omega));have hh:=h.keys s;obtain⟨⟨g0,g1,g2⟩,_⟩:=cells3G h.blk;obtain⟨R,hR⟩:∃R,R=nameL N s:=⟨_,rfl⟩
 rw[<- hR];have HR:=zA hR;clear h hS hR;by_cases hm:s∈N
 . have hmt:Maps.has D (.string s)=true:=by rw[hh];exact yC hm
   have HX:Hid (R=N):=zA (by rw[HR.out,nameL,if_pos hm]);have HM:=zA hmt;clear hh hm hmt;go_enter Tryz.func37,Tryz.ntmps37;go_wp2_with (at_lookup;refine wpList_lookup_own_ok_int _ rfl _ _ 69 rfl 9 3 .i64 lawSG Tryz.underlying69 Tryz.underlying3 (zeroIG _) mb _ D rfl H.out.om _ _ rfl HK.out ?_;intro cc hat hwc;rw[HM.out];clear hat hwc);go_end0;exact⟨rfl,⟨nv,D,c,by omega,by rw[HX.out];exact H.out⟩,Fr.refl _ _⟩
 . have hmt:Maps.has D (.string s)=false:=by rw[hh];exact decide_eq_false hm
   have HX:Hid (R=N++[s]):=zA (by rw[HR.out,nameL,if_neg hm]);have HM:=zA hmt;obtain⟨i0,hi0,hz0,hz1,hz2⟩:=info_partsG infoSG;obtain⟨ao,cap,hnv⟩:=own_slice H.out.ow;obtain⟨nn,hnn⟩:∃n,n=N.length:=⟨_,rfl⟩
   rw[<- hnn]at hnv hl;have HNN:=zA hnn;have HNV:=zA hnv;clear hh hm hmt hnn hnv HR;go_enter Tryz.func37,Tryz.ntmps37;go_wp2_with (at_lookup;refine wpList_lookup_own_ok_int _ rfl _ _ 69 rfl 9 3 .i64 lawSG Tryz.underlying69 Tryz.underlying3 (zeroIG _) mb _ D rfl H.out.om _ _ rfl HK.out ?_;intro cc hat hwc;rw[HM.out];clear hat hwc);refine(clone_any _ _ (by rw[size_list];omega)).mono ?_;rintro e w2 ⟨rfl,hb2⟩;have H2:=zA (H.out.below hb2);have F2:=zA (fr_below HS.out hb2);clear hb2 g0 g1 g2;obtain⟨⟨g0,g1,g2⟩,_⟩:=cells3G H2.out.blk;go_wp2_with (at_mapUpdate;refine wpList_mapUpdate_own _ rfl _ _ _ 69 rfl 9 3 lawSG Tryz.underlying69 _ mb _ D rfl H2.out.om ?m1 _ _ _ rfl rfl HK.out _ [] (plainElem_int Tryz.underlying3 ?m2) ?_)
   case m1=>unfold maxLen;omega
   case m2=>decide
   intro w3 hown3 hgrow3;obtain⟨hb3,ho3,he3⟩:=H2.out.turned hgrow3;have F3:=zA (F2.out.grown HS.out hgrow3 (fun g e=>by rw[<- Option.some.inj e];exact H2.out.outm));have HM3:=zA hown3;have HB3:=zA hb3;have HE3:=zA he3;have HO3:Hid (w3.ownsRow 0 9 1 (.slice ao nn cap) nn (N.flatMap csT)):=zA (by rw[<- HNV.out,HNN.out];exact ho3);clear g0 g1 g2 hown3 hgrow3 he3 ho3;obtain⟨⟨g0,g1,g2⟩,_⟩:=cells3G hb3;rw[HNV.out]at g0;clear hb3;go_wp2_with (at_builtin;refine wpList_append_lies _ rfl _ _ _ rfl 0 9 i0 _ 1 16 Tryz.underlying22 hi0 hz0 hz1 hz2 rfl (by decide) (.slice ao nn cap) _ _ (by rfl) (HO3.out.alloc _) ⟨w3.heap.size,0,none⟩ 1 1 [.string ⟨s.toArray⟩] (by rfl) (by rfl) ?d1 ?d2 (by decide) ?d3 ?d4 (zS _) (w3.heap.size+1) (by simp) ?_)
   case d1=>exact World.news_of_block (cs:=#[.string ⟨s.toArray⟩]) (t:=9) (fr:=(0,0)) (heap_alloc_new w3 _)
   case d2=>simp[Value.oneCell']
   case d3=>unfold maxLen;omega
   case d4=>omega
   intro gg cap2 w5 hown5 hgrow5 hat5 hlt5;have hkeep5:=grown_keep hgrow5;have hz5:w3.heap.size<=w5.heap.size:=by have:=hgrow5.size;simp at this;omega
   have HFIN:Hid (GrB S (w5.setCell ⟨gb,0,none⟩ (.slice (some ⟨gg,0,none⟩) (nn+1) cap2)) gb mb (.slice (some ⟨gg,0,none⟩) (nn+1) cap2) ev (D.put (.string s) (.lit (.int .i64 0))) (c+1) (N++[s]) E):=zA (by
    have hv:w5.ownsRow 0 9 1 (.slice (some ⟨gg,0,none⟩) (nn+1) cap2) (N++[s]).length ((N++[s]).flatMap csT):=by
     rw[zG,<- HNN.out,zY];exact hown5
    have ho3:w3.ownsRow 0 9 1 nv N.length (N.flatMap csT):=by rw[HNV.out,<- HNN.out];exact HO3.out
    exact GrB.setNames HB3.out ho3 HE3.out HM3.out (HS.out.fr F3.out) H2.out.out H2.out.outw H2.out.oute H2.out.outm (fun k hk hne=>hkeep5 k hk (by rw[<- HNV.out];exact hne)) hv (fun g hg=>by
     have e1:gg=g:=by simpa[Value.ownBlock]using hg
     subst e1;rcases hat5 with e2|e2
     . left;rw[HNV.out];exact e2
     . right;omega) (keys_put H2.out.om.isMap H2.out.keys))
   have F5:Hid (Fr S w (w5.setCell ⟨gb,0,none⟩ (.slice (some ⟨gg,0,none⟩) (nn+1) cap2))):=zA (Fr.setCell (Fr.trans F3.out ⟨hgrow5.os,hgrow5.tape,hgrow5.output,hz5,fun k hk=>hkeep5 k ((HS.out.fr F3.out) k hk) (fun e=>H2.out.outw k (by rw[HNV.out];exact e) hk)⟩) H2.out.out _);have hb5:w5.heap[gb]?=some (.cells #[.slice ao nn cap,.map (some mb),ev] 72 (0,0)):=by
    have:=HB3.out;rw[HNV.out]at this;exact(hkeep5 gb (lt_of_block this) (own_neG HO3.out this (by decide))).trans this
   clear g0 g1 g2;obtain⟨⟨g0,g1,g2⟩,⟨f0,f1,f2⟩⟩:=cells3G hb5;clear hown5 hgrow5 hat5 hlt5 hkeep5 hb5;go_wp2;go_end0;exact⟨rfl,⟨_,_,c+1,zD _,by rw[HX.out];exact HFIN.out⟩,F5.out⟩
end Go.Proofs.YtdalcipmpelifaaGreatDoor
namespace Go.Proofs.YtdalcipmpelifaaGreatDoor
open Go.RowKit
theorem run_insert_new{P:Program}{w:World}{ty kt et:TypeId}{es:Array MapEntry}{c:Nat}{k:Int}{v:Value}(hu:P.underlying ty=some (.map kt et))(hk:P.underlying kt=some (.int .i64))(hnew:Instr.findNow (.int .i64) (.int .i64 k) es.toList 0=some none):
 (Instr.mapUpdate ty (.map (some w.heap.size)) (.int .i64 k) v).run P (w.alloc (.map es c))=.ok () (w.alloc (.map (es.push ⟨.int .i64 k,v,c⟩) (c+1))):=by
 have hg:(w.alloc (.map es c)).heap[w.heap.size]?=some (.map es c):=heap_alloc_new w _;unfold Instr.mapUpdate;simp only[Sem.run_bind,run_underlying hu,Result.andThen,MapKept.run_getObj_map hg,MapKept.run_checkKey (P:=P) (k:=.int .i64 k) hk (by trivial),MapKept.run_findKey hk hnew,MapKept.run_setObj_map _ hg];congr 1;show ({ w with heap:=(w.heap.push (.map es c)).setIfInBounds w.heap.size (.map (es.push ⟨.int .i64 k,v,c⟩) (c+1)) }:World)={ w with heap:=w.heap.push (.map (es.push ⟨.int .i64 k,v,c⟩) (c+1)) };congr 1;apply Array.ext_getElem?;intro i;rw[Array.getElem?_setIfInBounds,Array.getElem?_push,Array.getElem?_push];by_cases e:w.heap.size=i
 . subst e;simp
 . have e2:¬i=w.heap.size:=fun h=>e h.symm
   simp[e2,e]
theorem wpList_insert_new{P:Program}{ops:Array Oper}{rest:List Oper}{op:Oper}{a:Act}{w:World}{Q:Exit->Act->World->Prop}(hgd:op.guard=none)(ty:TypeId)(m x y:Operand)(ho:op.op=.insert ty m x y)
 (g:Nat) (hm:a.eval m=.map (some g)) (hgw:g=w.heap.size) (k:Int) (hx:a.eval x=.int .i64 k) (v:Value) (hy:a.eval y=v) (es:Array MapEntry) (c:Nat) {kt et:TypeId} (hu:P.underlying ty=some (.map kt et)) (hk:P.underlying kt=some (.int .i64)) (hnew:Instr.findNow (.int .i64) (.int .i64 k) es.toList 0=some none)
 (h:wpList P ops Q rest (a.put op.dst undef) (w.alloc (.map (es.push ⟨.int .i64 k,v,c⟩) (c+1)))):wpList P ops Q (op::rest) a (w.alloc (.map es c)):=by
 subst hgw;refine wpList_plain hgd fun K hK=>?_
 unfold Oper.wp execOp;simp only[ho,hm,hx,hy,Sem.run_bind,Sem.run_pure,Result.andThen_ok,run_insert_new hu hk hnew];exact hK _ _ h
theorem run_lookup_at{P:Program}{w:World}{ty kt et:TypeId}{g:Nat}{es:Array MapEntry}{c j:Nat}{k:Int}{v:Value}(hu:P.underlying ty=some (.map kt et))(hk:P.underlying kt=some (.int .i64))(hg:w.heap[g]?=some (.map es c))(hf:Instr.findNow (.int .i64) (.int .i64 k) es.toList 0=some (some (j,v))):
 (Instr.lookup ty (.map (some g)) (.int .i64 k) false).run P w=.ok v w:=by
 unfold Instr.lookup;simp[Sem.run_bind,run_underlying hu,Result.andThen,MapKept.run_getObj_map hg,MapKept.run_checkKey (P:=P) (k:=.int .i64 k) hk (by trivial),MapKept.run_findKey hk hf]
def entK(k:Int)(f:FuncId)(mb c:Nat):MapEntry:=⟨.int .i64 k,.func (.func f) #[.pointer (some ⟨mb,0,none⟩)] #[],c⟩
def kindsE(mb:Nat):Array MapEntry:=#[entK 1 55 mb 0,entK 2 56 mb 1,entK 3 57 mb 2,entK 4 58 mb 3,entK 5 59 mb 4,entK 6 60 mb 5]
def fnK(k:Int):FuncId:=if k=1 then 55 else if k=2 then 56 else if k=3 then 57 else if k=4 then 58 else if k=5 then 59 else 60
theorem kinds_find(mb:Nat){k:Int}(h1:1<=k)(h6:k<=6):∃j,Instr.findNow (.int .i64) (.int .i64 k) (kindsE mb).toList 0=some (some (j,.func (.func (fnK k)) #[.pointer (some ⟨mb,0,none⟩)] #[])):=by
 have:k=1\/k=2\/k=3\/k=4\/k=5\/k=6:=by omega
 rcases this with rfl|rfl|rfl|rfl|rfl|rfl
 . exact⟨0,rfl⟩
 . exact⟨1,rfl⟩
 . exact⟨2,rfl⟩
 . exact⟨3,rfl⟩
 . exact⟨4,rfl⟩
 . exact⟨5,rfl⟩
theorem underKinds:Tryz.prog.underlying 127=some (.map 3 88):=Tryz.underlying127
theorem infoMaker:(Tryz.prog.info? 129).map (fun i=>(i.zero,i.size))=some (some (.agg (#[.slice none 0 0]++Array.replicate 24 (.int .u32 0)++#[.map none])),26):=by kernel_rfl
set_option maxHeartbeats 2000000 in
theorem newMaker_any(w:World):
 Calls Tryz.prog 34 #[] w fun e w'=>e=.returned (.pointer (some ⟨w.heap.size,0,none⟩))/\w'.heap[w.heap.size]?=some (.cells (#[.slice none 0 0]++Array.replicate 24 (.int .u32 0)++#[.map (some (w.heap.size+1))]) 129 (0,0))/\w'.heap[w.heap.size+1]?=some (.map (kindsE w.heap.size) 6)/\Below w.heap.size w w':=by
 obtain⟨hv,hsz⟩:=zero_of_info infoMaker;have hmk:∀w,(Instr.makeMap 127 none).run Tryz.prog w=.ok (.map (some w.heap.size)) (w.alloc (.map #[] 0)):=fun w=>rfl
 obtain⟨z,hz⟩:∃z:Array Value,z=#[.slice none 0 0]++Array.replicate 24 (.int .u32 0)++#[.map none]:=⟨_,rfl⟩
 rw[<- hz]at hv;have hz25:z[25]?=some (.map none):=by rw[hz];rfl
 have hzs:z.size=26:=by rw[hz];rfl
 have HZ:Hid (#[.slice none 0 0]++Array.replicate 24 (.int .u32 0)++#[.map (some (w.heap.size+1))]=z.setIfInBounds 25 (.map (some (w.heap.size+1)))):=zA (by rw[hz];rfl);rw[HZ.out];clear HZ hz;go_enter Tryz.func34,Tryz.ntmps34;go_wp2_with (first|(refine wpList_insert_new rfl _ _ _ _ rfl _ rfl (by simp) _ rfl _ rfl _ _ underKinds Tryz.underlying3 (by rfl) ?_)|fail);go_ret;refine⟨rfl,?_,?_,?_⟩
 . rw[heap_alloc_old _ _ (by simp),heap_alloc_new]
 . have:=heap_alloc_new (w.alloc (.cells (z.setIfInBounds 25 (.map (some (w.heap.size+1)))) 129)) (.map (kindsE w.heap.size) 6);simpa[kindsE,entK]using this
 . exact((zF _ _).alloc (zD _) _).alloc (by simp) _
end Go.Proofs.YtdalcipmpelifaaGreatDoor
namespace Go.Proofs.YtdalcipmpelifaaGreatDoor
open Go.RowKit Go.Shelf
def bCells(n:Nat)(f:Nat->Bool):Array Value:=((List.range n).map fun k=>Value.bool (f k)).toArray
theorem bCells_size(n:Nat)(f:Nat->Bool):(bCells n f).size=n:=by simp[bCells]
theorem bCells_get{n k:Nat}(f:Nat->Bool)(h:k<n):(bCells n f)[k]?=some (.bool (f k)):=by
 simp[bCells,h]
theorem bCells_congr{n:Nat}{f f':Nat->Bool}(h:∀k,k<n->f k=f' k):bCells n f=bCells n f':=by
 unfold bCells;congr 1;exact yQ (fun k hk=>by rw[h k (yA.1 hk)])
theorem bCells_set{n k:Nat}(f:Nat->Bool)(b:Bool):(bCells n f).setIfInBounds k (.bool b)=bCells n (fun j=>if j=k then b else f j):=by
 apply Array.ext_getElem?;intro j;rw[Array.getElem?_setIfInBounds,bCells_size];by_cases hj:j<n
 . rw[bCells_get _ hj,bCells_get _ hj];by_cases e:k=j
   . subst e;simp[hj]
   . rw[if_neg e,if_neg (fun x=>e x.symm)]
 . have h1:(bCells n f)[j]?=none:=by rw[Array.getElem?_eq_none];rw[bCells_size];omega
   have h2:(bCells n (fun j=>if j=k then b else f j))[j]?=none:=by rw[Array.getElem?_eq_none];rw[bCells_size];omega
   rw[h1,h2];split
   . split
     . omega
     . rfl
   . rfl
def BRow(w:World)(g n:Nat)(f:Nat->Bool):Prop:=w.heap[g]?=some (.cells (bCells n f) 4 (0,0))
theorem BRow.cell{w:World}{g n k:Nat}{f:Nat->Bool}(h:BRow w g n f)(hk:k<n):w.cell? ⟨g,k,none⟩=some (.bool (f k))/\w.frozen? ⟨g,k,none⟩=false:=by
 have h:w.heap[g]?=_:=h;have h2:=bCells_get f hk;constructor
 . simp[World.cell?,h,h2]
 . simp[World.frozen?,h]
theorem BRow.congr{w:World}{g n:Nat}{f f':Nat->Bool}(h:BRow w g n f)(e:∀k,k<n->f k=f' k):BRow w g n f':=by
 unfold BRow at h ⊢;rw[h,bCells_congr e]
theorem BRow.set{w:World}{g n k:Nat}{f:Nat->Bool}(h:BRow w g n f)(b:Bool):BRow (w.setCell ⟨g,k,none⟩ (.bool b)) g n (fun j=>if j=k then b else f j):=by
 unfold BRow at h ⊢;simp[World.setCell,Array.getElem?_modify,h,bCells_set]
end Go.Proofs.YtdalcipmpelifaaGreatDoor
