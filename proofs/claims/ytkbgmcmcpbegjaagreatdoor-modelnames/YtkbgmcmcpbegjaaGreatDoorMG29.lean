/- GGraph, GNewG, GEnds, GNewS. -/
import Derived.Test.YtkbgmcmcpbegjaaGreatDoorMG22
import Derived.Test.YtkbgmcmcpbegjaaGreatDoorMG26
import Derived.Carry
import Derived.Deep.OwnRows
import Derived.Deep.DeepCutAuto
set_option maxRecDepth 100000
namespace Go.Proofs.YtkbgmcmcpbegjaaGreatDoor
open Go.RowKit Go.Shelf
theorem map_keyG{w w':World}{k:TypeId}{R:Value->Option (DataW Unit×List MemPlace)}{b n:Nat}{D:DataW Unit}(h:w.ownsMap Tryz.prog k R b n D)(key:∀o,w.heap[b]?=some o->w'.heap[b]?=some o):w'.ownsMap Tryz.prog k R b n D:=by
 obtain⟨es,clock,h1,h2⟩:=h;exact⟨es,clock,key _ h1,h2⟩
theorem own_ne_mapG{w:World}{B n b m:Nat}{e k:TypeId}{size:Nat}{v:Value}{xs:List Value}{R:Value->Option (DataW Unit×List MemPlace)}{D:DataW Unit}(h:w.ownsRow B e size v n xs)(hb:w.ownsMap Tryz.prog k R b m D):v.ownBlock≠some b:=by
 obtain⟨es,clock,hb,_⟩:=hb;intro hv;rcases h.2 with⟨rfl,_⟩|⟨g,cap,cur,rfl,_,e3,_⟩
 . simp[Value.ownBlock]at hv
 . have:g=b:=by simpa[Value.ownBlock]using hv
   subst this;rw[hb]at e3;cases e3
theorem blk_ne_mapG{w:World}{b c m:Nat}{k t:TypeId}{cs:Array Value}{fz:Nat×Nat}{R:Value->Option (DataW Unit×List MemPlace)}{D:DataW Unit}(h:w.heap[c]?=some (.cells cs t fz))(hb:w.ownsMap Tryz.prog k R b m D):b≠c:=by
 obtain⟨es,clock,hb,_⟩:=hb;intro hv;subst hv;rw[hb]at h;cases h
theorem blk_grownG{w w':World}{b:Nat}{o:Obj}{row:Option Nat}(h:w.heap[b]?=some o)(hg:w.grownBy w' row)(hne:row≠some b):w'.heap[b]?=some o:=
 (hg.block b (lt_of_block h) (fun e=>hne e.symm)).trans h
theorem owns_grownG{w w':World}{B n:Nat}{e:TypeId}{size:Nat}{v:Value}{xs:List Value}{row:Option Nat}(h:w.ownsRow B e size v n xs)(hg:w.grownBy w' row)(hne:∀g,row=some g->v.ownBlock≠some g):w'.ownsRow B e size v n xs:=
 owns_key h (fun g _ hg2 ho=>(hg.block g (lt_of_block ho) (fun e=>hne g e.symm hg2)).trans ho)
theorem lawSG:Maps.Keyed Tryz.prog 9:=Maps.string_keyed Tryz.underlying9
theorem zeroIG(w:World):(zeroValue 3).run Tryz.prog w=.ok (.int .i64 0) w:=by kernel_rfl
theorem keySG(s:List UInt8)(hs:s.length<=maxLen):keyOf Tryz.prog 9 (.string ⟨s.toArray⟩)=some (.string s):=by
 have:=WideMaps.keyOf_string_mk (P:=Tryz.prog) (k:=9) Tryz.underlying9 (s:=⟨s.toArray⟩) (by rw[size_list];exact hs);simpa using this
theorem cells3G{w:World}{b:Nat}{c0 c1 c2:Value}{t:TypeId}(h:w.heap[b]?=some (.cells #[c0,c1,c2] t (0,0))):
 (w.cell? ⟨b,0,none⟩=some c0/\w.cell? ⟨b,1,none⟩=some c1/\w.cell? ⟨b,2,none⟩=some c2)/\
 (w.frozen? ⟨b,0,none⟩=false/\w.frozen? ⟨b,1,none⟩=false/\w.frozen? ⟨b,2,none⟩=false):=by
 simp[World.cell?,World.frozen?,h]
theorem set3_0{w:World}{b:Nat}{c0 c1 c2 v:Value}{t:TypeId}(h:w.heap[b]?=some (.cells #[c0,c1,c2] t (0,0))):(w.setCell ⟨b,0,none⟩ v).heap[b]?=some (.cells #[v,c1,c2] t (0,0)):=by
 simp[World.setCell,Array.getElem?_modify,h]
theorem set3_2{w:World}{b:Nat}{c0 c1 c2 v:Value}{t:TypeId}(h:w.heap[b]?=some (.cells #[c0,c1,c2] t (0,0))):(w.setCell ⟨b,2,none⟩ v).heap[b]?=some (.cells #[c0,c1,v] t (0,0)):=by
 simp[World.setCell,Array.getElem?_modify,h]
theorem infoSG:(Tryz.prog.info? 9).map (fun i=>(i.zero,i.size,i.bytes))=some (some (.string ⟨#[]⟩),1,16):=by kernel_rfl
theorem infoEG:(Tryz.prog.info? 109).map (fun i=>(i.zero,i.size,i.bytes))=some (some (.agg #[.int .i64 0,.string ⟨#[]⟩,.int .i64 0]),3,32):=by kernel_rfl
abbrev Eg:=Nat×Wd×Nat
abbrev csE(e:Eg):List Value:=[.int .i64 (e.1:Int),.string ⟨e.2.1.toArray⟩,.int .i64 (e.2.2:Int)]
theorem csE_len(x:Eg):(csE x).length=3:=rfl
structure GrB (S:Nat->Prop) (w:World) (gb mb:Nat) (nv ev:Value) (D:DataW Unit) (c:Nat) (N:List Wd) (E:List Eg):Prop where
 blk:w.heap[gb]?=some (.cells #[nv,.map (some mb),ev] 75 (0,0))
 ow:w.ownsRow 0 9 1 nv N.length (N.flatMap csT)
 oe:w.ownsRow 0 109 3 ev E.length (E.flatMap csE)
 om:w.ownsMap Tryz.prog 9 (plainElem Tryz.prog 3) mb c D
 out:¬S gb
 outw:∀g,nv.ownBlock=some g->¬S g
 oute:∀g,ev.ownBlock=some g->¬S g
 outm:¬S mb
 keys:∀s,Maps.has D (.string s)=decide (s∈N)
section
variable {S:Nat->Prop} {w:World} {gb mb c:Nat} {nv ev:Value} {D:DataW Unit} {N:List Wd} {E:List Eg}
theorem GrB.keepOut{w':World}(h:GrB S w gb mb nv ev D c N E)(key:∀k (o:Obj),¬S k->w.heap[k]?=some o->w'.heap[k]?=some o):GrB S w' gb mb nv ev D c N E:=
 { h with blk:=key gb _ h.out h.blk,ow:=owns_key h.ow (fun g o hg ho=>key g o (h.outw g hg) ho),oe:=owns_key h.oe (fun g o hg ho=>key g o (h.oute g hg) ho),om:=map_keyG h.om (fun o ho=>key mb o h.outm ho) }
theorem GrB.below{w':World}(h:GrB S w gb mb nv ev D c N E)(hb:Below w.heap.size w w'):GrB S w' gb mb nv ev D c N E:=
 h.keepOut (fun k _ _ ho=>(hb.block k (lt_of_block ho)).trans ho)
theorem GrB.turned{w':World}(h:GrB S w gb mb nv ev D c N E)(hg:w.grownBy w' (some mb)):
 w'.heap[gb]?=some (.cells #[nv,.map (some mb),ev] 75 (0,0))/\w'.ownsRow 0 9 1 nv N.length (N.flatMap csT)/\w'.ownsRow 0 109 3 ev E.length (E.flatMap csE):=by
 refine⟨blk_grownG h.blk hg (fun e=>blk_ne_mapG h.blk h.om (Option.some.inj e)),owns_grownG h.ow hg (fun g e=>?_),owns_grownG h.oe hg (fun g e=>?_)⟩
 . rw[<- e];exact own_ne_mapG h.ow h.om
 . rw[<- e];exact own_ne_mapG h.oe h.om
theorem GrB.setNames{w':World}{v:Value}{N':List Wd}{D':DataW Unit}{c':Nat}(hblk:w.heap[gb]?=some (.cells #[nv,.map (some mb),ev] 75 (0,0)))(how:w.ownsRow 0 9 1 nv N.length (N.flatMap csT))(hoe:w.ownsRow 0 109 3 ev E.length (E.flatMap csE))(hom:w.ownsMap Tryz.prog 9 (plainElem Tryz.prog 3) mb c' D')
 (hS:Low S w) (h1:¬S gb) (h2:∀g,nv.ownBlock=some g->¬S g) (h3:∀g,ev.ownBlock=some g->¬S g) (h4:¬S mb)
 (hk:∀k,k<w.heap.size->nv.ownBlock≠some k->w'.heap[k]?=w.heap[k]?) (hv:w'.ownsRow 0 9 1 v N'.length (N'.flatMap csT)) (hg:∀g,v.ownBlock=some g->nv.ownBlock=some g\/w.heap.size<=g) (hkeys:∀s,Maps.has D' (.string s)=decide (s∈N')):
 GrB S (w'.setCell ⟨gb,0,none⟩ v) gb mb v ev D' c' N' E:=by
 have hgb:w'.heap[gb]?=some (.cells #[nv,.map (some mb),ev] 75 (0,0)):=(hk gb (lt_of_block hblk) (own_neG how hblk (by decide))).trans hblk;have ho:∀k,k≠gb->(w'.setCell ⟨gb,0,none⟩ v).heap[k]?=w'.heap[k]?:=fun k hk=>zN _ _ _ _ hk
 refine⟨set3_0 hgb,owns_key hv (fun g o hg2 ho2=>(ho g (fun e=>?_)).trans ho2),owns_key hoe (fun g o hg2 ho2=>(ho g (fun e=>?_)).trans ((hk g (lt_of_block ho2) (fun e=>?_)).trans ho2)),map_keyG hom (fun o ho2=>(ho mb (blk_ne_mapG hblk hom)).trans ((hk mb (lt_of_block ho2) (own_ne_mapG how hom)).trans ho2)),h1,fun g hg2 hs=>?_,h3,h4,hkeys⟩
 . exact own_neG hv hgb (by decide) (by rw[hg2,e])
 . exact own_neG hoe hblk (by decide) (by rw[hg2,e])
 . rcases how.2 with⟨e1,_⟩|⟨b,cap,cur,e1,_,e3,_⟩
   . rw[e1]at e;simp[Value.ownBlock]at e
   . have:b=g:=by rw[e1]at e;simpa[Value.ownBlock]using e
     subst this;exact own_neG hoe e3 (by decide) hg2
 . rcases hg g hg2 with h5|h5
   . exact h2 g h5 hs
   . have:=hS g hs;omega
end
def nameL(N:List Wd)(s:Wd):List Wd:=if s∈N then N else N++[s]
theorem keys_put{D:DataW Unit}{N:List Wd}{s:Wd}{d:DataW Unit}(hm:Maps.IsMap D)(h:∀s,Maps.has D (.string s)=decide (s∈N)):∀t,Maps.has (D.put (.string s) d) (.string t)=decide (t∈N++[s]):=fun t=>by
 by_cases e:t=s
 . subst e;rw[Maps.has_put_same hm (show WideAt.IsKeyLit (.string t)from trivial)];simp
 . rw[Maps.has_put_other (by simpa using e),h t];simp[e]
theorem keys_same{D:DataW Unit}{N:List Wd}{s:Wd}{d:DataW Unit}(hm:Maps.IsMap D)(h:∀s,Maps.has D (.string s)=decide (s∈N))(hs:s∈N):∀t,Maps.has (D.put (.string s) d) (.string t)=decide (t∈N):=fun t=>by
 rw[keys_put hm h];by_cases e:t=s
 . subst e;simp[hs]
 . simp[e]
def NameE(S:Nat->Prop)(w:World)(gb mb c:Nat)(ev:Value)(N':List Wd)(E:List Eg)(e:Ending)(w':World):Prop:=
 e=.returned (.tuple #[])/\(∃nv' D' c',c'<=c+1/\GrB S w' gb mb nv' ev D' c' N' E)/\Fr S w w'
set_option maxHeartbeats 4000000 in
theorem name_any{S:Nat->Prop}{w:World}{gb mb c:Nat}{nv ev:Value}{D:DataW Unit}{N:List Wd}{E:List Eg}(h:GrB S w gb mb nv ev D c N E)(hS:Low S w)(s:Wd)(hs:s.length<=140737488351232)(hl:N.length<=1000000)(hc:c<=1000000):
 Calls Tryz.prog 55 #[.pointer (some ⟨gb,0,none⟩),.string ⟨s.toArray⟩] w (NameE S w gb mb c ev (nameL N s) E):=by
 have H:=zA h;have HS:=zA hS;have HK:=zA (keySG s (by unfold maxLen;omega));have hh:=h.keys s;obtain⟨⟨g0,g1,g2⟩,_⟩:=cells3G h.blk;obtain⟨R,hR⟩:∃R,R=nameL N s:=⟨_,rfl⟩
 rw[<- hR];have HR:=zA hR;clear h hS hR;by_cases hm:s∈N
 . have hmt:Maps.has D (.string s)=true:=by rw[hh];exact zU hm
   have HX:Hid (R=N):=zA (by rw[HR.out,nameL,if_pos hm]);have HM:=zA hmt;clear hh hm hmt;go_enter Tryz.func55,Tryz.ntmps55;go_wp2_with (at_lookup;refine wpList_lookup_own_ok_int _ rfl _ _ 72 rfl 9 3 .i64 lawSG Tryz.underlying72 Tryz.underlying3 (zeroIG _) mb _ D rfl H.out.om _ _ rfl HK.out ?_;intro cc hat hwc;rw[HM.out];clear hat hwc);go_end0;exact⟨rfl,⟨nv,D,c,by omega,by rw[HX.out];exact H.out⟩,Fr.refl _ _⟩
 . have hmt:Maps.has D (.string s)=false:=by rw[hh];exact decide_eq_false hm
   have HX:Hid (R=N++[s]):=zA (by rw[HR.out,nameL,if_neg hm]);have HM:=zA hmt;obtain⟨i0,hi0,hz0,hz1,hz2⟩:=info_partsG infoSG;obtain⟨ao,cap,hnv⟩:=own_slice H.out.ow;obtain⟨nn,hnn⟩:∃n,n=N.length:=⟨_,rfl⟩
   rw[<- hnn]at hnv hl;have HNN:=zA hnn;have HNV:=zA hnv;clear hh hm hmt hnn hnv HR;go_enter Tryz.func55,Tryz.ntmps55;go_wp2_with (at_lookup;refine wpList_lookup_own_ok_int _ rfl _ _ 72 rfl 9 3 .i64 lawSG Tryz.underlying72 Tryz.underlying3 (zeroIG _) mb _ D rfl H.out.om _ _ rfl HK.out ?_;intro cc hat hwc;rw[HM.out];clear hat hwc);refine(clone_any _ _ (by rw[size_list];omega)).mono ?_;rintro e w2 ⟨rfl,hb2⟩;have H2:=zA (H.out.below hb2);have F2:=zA (fr_below HS.out hb2);clear hb2 g0 g1 g2;obtain⟨⟨g0,g1,g2⟩,_⟩:=cells3G H2.out.blk;go_wp2_with (at_mapUpdate;refine wpList_mapUpdate_own _ rfl _ _ _ 72 rfl 9 3 lawSG Tryz.underlying72 _ mb _ D rfl H2.out.om ?m1 _ _ _ rfl rfl HK.out _ [] (plainElem_int Tryz.underlying3 ?m2) ?_)
   case m1=>unfold maxLen;omega
   case m2=>decide
   intro w3 hown3 hgrow3;obtain⟨hb3,ho3,he3⟩:=H2.out.turned hgrow3;have F3:=zA (F2.out.grown HS.out hgrow3 (fun g e=>by rw[<- Option.some.inj e];exact H2.out.outm));have HM3:=zA hown3;have HB3:=zA hb3;have HE3:=zA he3;have HO3:Hid (w3.ownsRow 0 9 1 (.slice ao nn cap) nn (N.flatMap csT)):=zA (by rw[<- HNV.out,HNN.out];exact ho3);clear g0 g1 g2 hown3 hgrow3 he3 ho3;obtain⟨⟨g0,g1,g2⟩,_⟩:=cells3G hb3;rw[HNV.out]at g0;clear hb3;go_wp2_with (at_builtin;refine wpList_append_lies _ rfl _ _ _ rfl 0 9 i0 _ 1 16 Tryz.underlying34 hi0 hz0 hz1 hz2 rfl (by decide) (.slice ao nn cap) _ _ (by rfl) (HO3.out.alloc _) ⟨w3.heap.size,0,none⟩ 1 1 [.string ⟨s.toArray⟩] (by rfl) (by rfl) ?d1 ?d2 (by decide) ?d3 ?d4 (zO _) (w3.heap.size+1) (by simp) ?_)
   case d1=>exact World.news_of_block (cs:=#[.string ⟨s.toArray⟩]) (t:=9) (fr:=(0,0)) (heap_alloc_new w3 _)
   case d2=>simp[Value.oneCell']
   case d3=>unfold maxLen;omega
   case d4=>omega
   intro gg cap2 w5 hown5 hgrow5 hat5 hlt5;have hkeep5:=grown_keep hgrow5;have hz5:w3.heap.size<=w5.heap.size:=by have:=hgrow5.size;simp at this;omega
   have HFIN:Hid (GrB S (w5.setCell ⟨gb,0,none⟩ (.slice (some ⟨gg,0,none⟩) (nn+1) cap2)) gb mb (.slice (some ⟨gg,0,none⟩) (nn+1) cap2) ev (D.put (.string s) (.lit (.int .i64 0))) (c+1) (N++[s]) E):=zA (by
    have hv:w5.ownsRow 0 9 1 (.slice (some ⟨gg,0,none⟩) (nn+1) cap2) (N++[s]).length ((N++[s]).flatMap csT):=by
     rw[zG,<- HNN.out,zR];exact hown5
    have ho3:w3.ownsRow 0 9 1 nv N.length (N.flatMap csT):=by rw[HNV.out,<- HNN.out];exact HO3.out
    exact GrB.setNames HB3.out ho3 HE3.out HM3.out (HS.out.fr F3.out) H2.out.out H2.out.outw H2.out.oute H2.out.outm (fun k hk hne=>hkeep5 k hk (by rw[<- HNV.out];exact hne)) hv (fun g hg=>by
     have e1:gg=g:=by simpa[Value.ownBlock]using hg
     subst e1;rcases hat5 with e2|e2
     . left;rw[HNV.out];exact e2
     . right;omega) (keys_put H2.out.om.isMap H2.out.keys))
   have F5:Hid (Fr S w (w5.setCell ⟨gb,0,none⟩ (.slice (some ⟨gg,0,none⟩) (nn+1) cap2))):=zA (Fr.setCell (Fr.trans F3.out ⟨hgrow5.os,hgrow5.tape,hgrow5.output,hz5,fun k hk=>hkeep5 k ((HS.out.fr F3.out) k hk) (fun e=>H2.out.outw k (by rw[HNV.out];exact e) hk)⟩) H2.out.out _);have hb5:w5.heap[gb]?=some (.cells #[.slice ao nn cap,.map (some mb),ev] 75 (0,0)):=by
    have:=HB3.out;rw[HNV.out]at this;exact(hkeep5 gb (lt_of_block this) (own_neG HO3.out this (by decide))).trans this
   clear g0 g1 g2;obtain⟨⟨g0,g1,g2⟩,⟨f0,f1,f2⟩⟩:=cells3G hb5;clear hown5 hgrow5 hat5 hlt5 hkeep5 hb5;go_wp2;go_end0;exact⟨rfl,⟨_,_,c+1,zD _,by rw[HX.out];exact HFIN.out⟩,F5.out⟩
theorem GrB.more{S T:Nat->Prop}{w:World}{gb mb c:Nat}{nv ev:Value}{D:DataW Unit}{N:List Wd}{E:List Eg}(h:GrB S w gb mb nv ev D c N E)(hT:∀k,T k->S k\/w.heap.size<=k):GrB T w gb mb nv ev D c N E:=
 { h with
  out:=fun hk=>(hT gb hk).elim h.out (fun h1=>absurd (lt_of_block h.blk) (by omega))
  outw:=fun g hg hk=>(hT g hk).elim (h.outw g hg) (fun h1=>absurd (own_lt h.ow hg) (by omega))
  oute:=fun g hg hk=>(hT g hk).elim (h.oute g hg) (fun h1=>absurd (own_lt h.oe hg) (by omega))
  outm:=fun hk=>(hT mb hk).elim h.outm (fun h1=>absurd h.om.lt (by omega)) }
def TellsG(D:DataW Unit)(ws:List Wd)(i:Nat):Prop:=∀(j:Nat) s,j<i->ws[j]?=some s->D.atKey (.string s) (.lit (.int .i64 0))=.lit (.int .i64 (j:Int))
theorem TellsG.put{D:DataW Unit}{ws:List Wd}{i:Nat}{t:Wd}(h:TellsG D ws i)(hm:Maps.IsMap D)(hd:ws.Nodup)(ht:ws[i]?=some t):TellsG (D.put (.string t) (.lit (.int .i64 (i:Int)))) ws (i+1):=fun j s hj hs=>by
 by_cases e:j=i
 . subst e;rw[ht]at hs;injection hs with hs;subst hs;rw[Maps.atKey_put_same hm (show WideAt.IsKeyLit (.string t)from trivial)]
 . have hne:s≠t:=fun e2=>by
    subst e2;have h1:=(zF.1 ht).1;have h2:=(zF.1 hs).1;exact e ((List.getElem?_inj h2 hd).1 (by rw[hs,ht]))
   rw[Maps.atKey_put_other (by simpa using hne)];exact h j s (by omega) hs
def namesF(fs:List Fa):List Wd:=fs.foldl (fun N f=>nameL (nameL N f.1) f.2.2) []
theorem nameL_mem{N:List Wd}{s x:Wd}:x∈nameL N s↔x∈N\/x=s:=by
 unfold nameL;split
 . rename_i h;constructor
   . exact .inl
   . rintro (h1|rfl)
     . exact h1
     . exact h
 . simp
theorem nameL_nodup{N:List Wd}{s:Wd}(h:N.Nodup):(nameL N s).Nodup:=by
 unfold nameL;split
 . exact h
 . rename_i hs;rw[List.nodup_append];refine⟨h,by simp,fun a ha b hb e=>?_⟩;rw[zK.1 hb]at e;subst e;exact hs ha
theorem nameL_len(N:List Wd)(s:Wd):(nameL N s).length<=N.length+1:=by
 unfold nameL;split<;>simp
theorem namesF_spec:∀(fs:List Fa) (N:List Wd),N.Nodup->(fs.foldl (fun N f=>nameL (nameL N f.1) f.2.2) N).Nodup/\(∀x,x∈fs.foldl (fun N f=>nameL (nameL N f.1) f.2.2) N↔x∈N\/∃f∈fs,x=f.1\/x=f.2.2)/\(fs.foldl (fun N f=>nameL (nameL N f.1) f.2.2) N).length<=N.length+2*fs.length
 |[],N,h=>⟨h,by simp,by simp⟩
 |f::fs,N,h=>by
  rw[yM];obtain⟨h1,h2,h3⟩:=namesF_spec fs (nameL (nameL N f.1) f.2.2) (nameL_nodup (nameL_nodup h));refine⟨h1,fun x=>?_,?_⟩
  . rw[h2,nameL_mem,nameL_mem];constructor
    . rintro (((h|h)|h)|⟨g,hg,h⟩)
      . exact .inl h
      . exact .inr ⟨f,zL ..,.inl h⟩
      . exact .inr ⟨f,zL ..,.inr h⟩
      . exact .inr ⟨g,zP _ hg,h⟩
    . rintro (h|⟨g,hg,h⟩)
      . exact .inl (.inl (.inl h))
      . rcases yB.1 hg with rfl|hg
        . rcases h with h|h
          . exact .inl (.inl (.inr h))
          . exact .inl (.inr h)
        . exact .inr ⟨g,hg,h⟩
  . have:=nameL_len (nameL N f.1) f.2.2;have:=nameL_len N f.1;simp only[yG];omega
theorem sort_names(fs:List Fa):sortW (namesF fs)=vertsL fs:=by
 obtain⟨h1,h2,_⟩:=namesF_spec fs [] List.nodup_nil;refine riseL_ext ordW (sortW_rise h1) (verts_rise fs) (fun t=>?_);rw[(sortW_perm _).mem_iff,mem_verts];unfold namesF;rw[h2];simp
theorem names_take{fs:List Fa}{i:Nat}{f:Fa}(h:fs[i]?=some f):namesF (fs.take (i+1))=nameL (nameL (namesF (fs.take i)) f.1) f.2.2:=by
 unfold namesF;rw[zS,h,yR,List.foldl_append,yM,List.foldl_nil]
def egOf(V:List Wd)(f:Fa):Eg:=(V.idxOf f.1,f.2.1,V.idxOf f.2.2)
theorem idx_at{V:List Wd}{s:Wd}(h:s∈V):V[V.idxOf s]?=some s:=by
 have h1:V.idxOf s<V.length:=yC h;rw[zB h1,List.getElem_idxOf h1]
structure GrS (S:Nat->Prop) (w:World) (gb:Nat) (N:List Wd) (E:List Eg) (mb:Nat) (nv ev:Value) (D:DataW Unit) (c:Nat):Prop where
 blk:w.heap[gb]?=some (.cells #[nv,.map (some mb),ev] 75 (0,0))
 sg:S gb
 names:TxtS S w nv N
 edges:SlS csE 3 S w ev E
 map:w.ownsMap Tryz.prog 9 (plainElem Tryz.prog 3) mb c D
 sm:S mb
 keys:∀s,Maps.has D (.string s)=decide (s∈N)
 tells:TellsG D N N.length
theorem GrS.keep{S T:Nat->Prop}{w w':World}{gb:Nat}{N:List Wd}{E:List Eg}{mb:Nat}{nv ev:Value}{D:DataW Unit}{c:Nat}(h:GrS S w gb N E mb nv ev D c)(hz:w.heap.size<=w'.heap.size)(hk:∀b,S b->b<w.heap.size->T b/\w'.heap[b]?=w.heap[b]?):GrS T w' gb N E mb nv ev D c:=
 ⟨(hk gb h.sg (lt_of_block h.blk)).2.trans h.blk,(hk gb h.sg (lt_of_block h.blk)).1,h.names.keep hz hk,h.edges.keep hz hk,map_keyG h.map (fun _ ho=>(hk mb h.sm (lt_of_block ho)).2.trans ho),(hk mb h.sm h.map.lt).1,h.keys,h.tells⟩
theorem GrS.fr{S:Nat->Prop}{w w':World}{gb:Nat}{N:List Wd}{E:List Eg}{mb:Nat}{nv ev:Value}{D:DataW Unit}{c:Nat}(h:GrS S w gb N E mb nv ev D c)(hf:Fr S w w'):GrS S w' gb N E mb nv ev D c:=
 h.keep hf.size (fun b hs _=>⟨hs,hf.block b hs⟩)
def GraphE(w:World)(fs:List Fa)(e:Ending)(w':World):Prop:=
 ∃(gb mb:Nat) (nv ev:Value) (D:DataW Unit) (c:Nat),e=.returned (.pointer (some ⟨gb,0,none⟩))/\GrS (fun k=>w.heap.size<=k) w' gb (vertsL fs) (fs.map (egOf (vertsL fs))) mb nv ev D c/\Below w.heap.size w w'
theorem GrB.read{S:Nat->Prop}{w:World}{B gb mb c:Nat}{nv ev:Value}{D:DataW Unit}{N:List Wd}{E:List Eg}(h:GrB S w gb mb nv ev D c N E)(hB:∀k,k<B->S k)(ht:TellsG D N N.length):GrS (fun k=>B<=k) w gb N E mb nv ev D c:=by
 have hno:∀k,¬S k->B<=k:=fun k hk=>by
  rcases Nat.lt_or_ge k B with h1|h1
  . exact absurd (hB k h1) hk
  . exact h1
 exact⟨h.blk,hno _ h.out,(own_sl (enc:=csT) (fun _=>rfl) h.ow rfl).sub (fun b hb _=>hno b (h.outw b hb)),(own_sl csE_len h.oe rfl).sub (fun b hb _=>hno b (h.oute b hb)),h.om,hno _ h.outm,h.keys,ht⟩
set_option maxHeartbeats 16000000 in
theorem newGraph_any{S0:Nat->Prop}{w:World}{v:Value}{fs:List Fa}(h:FasS S0 w v fs)(hl:fs.length<=10000)(hw:∀f∈fs,f.1.length<=140737488351232/\f.2.1.length<=140737488351232/\f.2.2.length<=140737488351232):
 Calls Tryz.prog 29 #[v] w (GraphE w fs):=by
 have hmm:=@run_makeMap Tryz.prog;obtain⟨i0,hi0,hz0,hz1,hz2⟩:=info_partsG infoEG;obtain⟨ao,cap,rfl⟩:=h.slice;have H:=zA h;have HW:=zA hw;obtain⟨n,hn⟩:∃n,n=fs.length:=⟨_,rfl⟩
 rw[<- hn]at H hl ⊢;have HN:=zA hn;obtain⟨S,hSd⟩:∃S:Nat->Prop,S=fun k=>k<w.heap.size:=⟨_,rfl⟩
 have HLS:Hid (∀k,S k↔k<w.heap.size):=zA (fun k=>by rw[hSd]);have HS:Hid (Low S w):=zA (fun k hk=>(HLS.out k).1 hk);obtain⟨gb,hgb⟩:∃g,g=w.heap.size+1:=⟨_,rfl⟩
 obtain⟨mb,hmb⟩:∃g,g=w.heap.size:=⟨_,rfl⟩
 have HGB:=zA hgb;have HMB:=zA hmb;have HBG:Hid (Below w.heap.size w ((w.alloc (.map #[] 0)).alloc (.cells #[.slice none 0 0,.map (some w.heap.size),.slice none 0 0] 75))):=zA (((zE w.heap.size w).alloc (zD _) _).alloc (by simp) _);have HG0:Hid (GrB S ((w.alloc (.map #[] 0)).alloc (.cells #[.slice none 0 0,.map (some w.heap.size),.slice none 0 0] 75)) gb mb (.slice none 0 0) (.slice none 0 0) (.map []) 0 [] []):=zA (by
  have hsz:(w.alloc (.map #[] 0)).heap.size=w.heap.size+1:=by simp
  refine⟨?_,⟨rfl,.inl ⟨rfl,rfl⟩⟩,⟨rfl,.inl ⟨rfl,rfl⟩⟩,?_,fun hk=>?_,by intro g hg;simp[Value.ownBlock]at hg,by intro g hg;simp[Value.ownBlock]at hg,fun hk=>?_,fun s=>by simp[Maps.has]⟩
  . have:=box_at (w.alloc (.map #[] 0)) (.cells #[.slice none 0 0,.map (some w.heap.size),.slice none 0 0] 75);rw[hsz]at this;rw[HGB.out,HMB.out];exact this
  . rw[HMB.out];exact(World.ownsMap_made w Tryz.prog 9 (plainElem Tryz.prog 3)).alloc _
  . have:=(HLS.out gb).1 hk;have:=HGB.out;omega
  . have:=(HLS.out mb).1 hk;have:=HMB.out;omega)
 have hvl:=(namesF_spec fs [] List.nodup_nil).2.2;have HNL:Hid (∀i,(namesF (fs.take i)).length<=2*n):=zA (fun i=>by
  have h1:=(namesF_spec (fs.take i) [] List.nodup_nil).2.2;rw[zX]at h1;simp only[List.length_nil,<- HN.out]at h1;unfold namesF;omega)
 clear h hw hn hSd hgb hmb hvl;go_enter Tryz.func29,Tryz.ntmps29;go_wp2_with fail;have hgbe:w.heap.size+1=gb:=HGB.out.symm;rw[hgbe];clear hgbe;go_loopw [15] (fun c wr=>∃(i:Nat) (nv:Value) (D:DataW Unit) (cc:Nat),i<=n/\c=.int .i64 i/\cc<=2*i/\GrB S wr gb mb nv (.slice none 0 0) D cc (namesF (fs.take i)) []/\Below w.heap.size w wr) (fun c _=>n-(intOf c).toNat)
 case atStart=>exact⟨0,_,_,0,zO _,rfl,zO _,HG0.out,HBG.out⟩
 case round=>
  obtain⟨i,nv,D,cc,hi,rfl,hcc,hg,hbw⟩:=hrel;obtain⟨wx,hwx⟩:∃wx,wx=wr:=⟨_,rfl⟩
  subst hwx;have HG:=zA hg;have HBW:=zA hbw;clear hg hbw;by_cases hlt:i<n
  . have hltI:(i:Int)<(n:Int):=by omega
    obtain⟨⟨f0,f1,f2⟩,hx⟩:∃x,fs[i]?=some x:=⟨_,zB (by rw[<- HN.out];exact hlt)⟩
    obtain⟨g,off,hla,_,hgl,hcell⟩:=(H.out.below HBW.out).get hx;subst hla;obtain⟨q0,q1,q2⟩:=getF hcell;have hwf:=HW.out _ (zC hx);dsimp only at hwf q0 q1 q2;have HT:=zA (names_take hx);dsimp only at HT;obtain⟨fb,hfb⟩:∃b,b=wx.heap.size:=⟨_,rfl⟩
    obtain⟨o,ho⟩:∃o,o=Obj.cells #[.string ⟨f0.toArray⟩,.string ⟨f1.toArray⟩,.string ⟨f2.toArray⟩] 48 (0,0):=⟨_,rfl⟩
    have hb1:Below wx.heap.size wx (wx.alloc o):=(zE _ _).alloc (zD _) _;have hbl:(wx.alloc o).heap[fb]?=some o:=by rw[hfb];exact heap_alloc_new _ _
    have hG1:GrB (fun k=>S k\/k=fb) (wx.alloc o) gb mb nv (.slice none 0 0) D cc (namesF (fs.take i)) []:=(HG.out.more (fun k hk=>by
     rcases hk with hk|hk
     . exact .inl hk
     . exact .inr (by rw[hk,hfb];exact zD _))).below hb1
    have hS1:Low (fun k=>S k\/k=fb) (wx.alloc o):=fun k hk=>by
     rcases hk with hk|hk
     . have h1:=(HLS.out k).1 hk;have h2:=HBW.out.size;simp;omega
     . rw[hk,hfb];simp
    have C1:=zA (name_any hG1 hS1 f0 hwf.1 (by have:=HNL.out i;omega) (by omega));have HS1:=zA hS1;have HB1:=zA hb1;have HBL:=zA hbl;have HFB:=zA hfb;have HO:=zA ho;obtain⟨hw0,_,hw2⟩:=hwf;subst ho;clear hx hcell hb1 hbl hG1 hS1 hfb;go_wp2_with fail;refine C1.out.mono ?_;rintro e w1 ⟨rfl,⟨nv1,D1,c1,hc1,hg1⟩,hf1⟩;have hbl1:w1.heap[fb]?=_:=(hf1.block fb (.inr rfl)).trans HBL.out;obtain⟨⟨p0,p1,p2⟩,_⟩:=cells3G hbl1;have C2:=zA (name_any hg1 (HS1.out.fr hf1) f2 hw2 (by have:=HNL.out i;have:=nameL_len (namesF (fs.take i)) f0;omega) (by omega));have HF1:=zA hf1;rw[HFB.out]at p0 p1 p2;clear hg1 hf1 hbl1;go_wp2_with fail;refine C2.out.mono ?_;rintro e w2 ⟨rfl,⟨nv2,D2,c2,hc2,hg2⟩,hf2⟩;have HG2:Hid (GrB S w2 gb mb nv2 (.slice none 0 0) D2 c2 (namesF (fs.take (i+1))) []):=zA (by
     rw[HT.out];exact hg2.more (fun k hk=>.inl (.inl hk)))
    have HB2:Hid (Below w.heap.size w w2):=zA (HBW.out.trans ((HB1.out.mono HBW.out.size).trans ((HF1.out.trans hf2).below (fun k hk=>.inl ((HLS.out k).2 hk)))));clear hg2 hf2 p0 p1 p2;go_wp2;go_roundw
    case rel=>exact⟨i+1,nv2,D2,c2,by omega,by go_num,by omega,HG2.out,HB2.out⟩
    case measure=>simp[intOf];omega
  . have hltI:¬(i:Int)<(n:Int):=by omega
    have HN1:Hid (namesF (fs.take i)=namesF fs):=zA (by rw[zJ (by rw[<- HN.out];omega)]);have HNL2:Hid ((namesF fs).length<=2*n):=zA (by rw[<- HN1.out];exact HNL.out i);rw[HN1.out]at HG;obtain⟨⟨g0,g1,g2⟩,_⟩:=cells3G HG.out.blk;have C:=zA (sortS_any HG.out.ow (by have:=HNL2.out;omega));clear HN1;go_wp2_with fail;refine C.out.mono ?_;rintro e ws ⟨rfl,hows,hgrs⟩;obtain⟨V,hV⟩:∃V,V=vertsL fs:=⟨_,rfl⟩
    rw[sort_names,<- hV]at hows;have hVl:V.length=(namesF fs).length:=by rw[hV,<- sort_names,(sortW_perm _).length_eq]
    have hVn:V.Nodup:=by rw[hV,<- sort_names];exact(sortW_perm _).nodup_iff.2 (namesF_spec fs [] List.nodup_nil).1
    have HVN:=zA hVn;have HGS:Hid (GrB S ws gb mb nv (.slice none 0 0) D cc V []):=zA { HG.out with
     blk:=blk_grownG HG.out.blk hgrs (own_neG HG.out.ow HG.out.blk (by decide))
     ow:=by rw[hVl];exact hows
     oe:=⟨rfl,.inl ⟨rfl,rfl⟩⟩
     om:=map_keyG HG.out.om (fun o ho=>blk_grownG ho hgrs (own_ne_mapG HG.out.ow HG.out.om))
     keys:=fun s=>by
      rw[HG.out.keys s];congr 1;rw[hV,<- sort_names,(sortW_perm _).mem_iff] }
    have HBS:Hid (Below w.heap.size w ws):=zA (HBW.out.grown hgrs HBW.out.size (fun k e=>by
     rcases Nat.lt_or_ge k w.heap.size with h1|h1
     . exact absurd ((HLS.out k).2 h1) (HG.out.outw k e)
     . exact h1))
    have hVl2:V.length<=2*n:=by rw[hVl];exact HNL2.out
    have HV:=zA hV;clear hows hgrs g0 g1 g2 hVl hVn hV;obtain⟨na,ncap,hnv⟩:=own_slice HGS.out.ow;obtain⟨k,hk⟩:∃k,k=V.length:=⟨_,rfl⟩
    rw[<- hk]at hnv hVl2;subst hnv;have HK:=zA hk;clear hk;obtain⟨⟨g0,g1,g2⟩,_⟩:=cells3G HGS.out.blk;obtain⟨wo,hwo⟩:∃wo,wo=ws:=⟨_,rfl⟩
    subst hwo;have HVW:Hid (∀s∈V,s.length<=140737488351232):=zA (fun s hs=>by
     rw[HV.out,mem_verts]at hs;obtain⟨f,hf,e|e⟩:=hs
     . rw[e];exact(HW.out f hf).1
     . rw[e];exact(HW.out f hf).2.2)
    go_wp2_with fail;go_loopw [38] (fun c wr=>∃(i:Nat) (D:DataW Unit) (cc:Nat),i<=k/\c=.int .i64 i/\cc<=2*n+i/\GrB S wr gb mb (.slice na k ncap) (.slice none 0 0) D cc V []/\TellsG D V i/\Below w.heap.size w wr) (fun c _=>k-(intOf c).toNat)
    case atStart=>exact⟨0,D,cc,zO _,rfl,by omega,HGS.out,fun j s hj=>absurd hj (Nat.not_lt_zero _),HBS.out⟩
    case round=>
     obtain⟨j,D,cj,hj,rfl,hcj,hg,htell,hbw⟩:=hrel;obtain⟨wy,hwy⟩:∃wy,wy=wr:=⟨_,rfl⟩
     subst hwy;have HG:=zA hg;have HBW:=zA hbw;have HTL:=zA htell;clear hg hbw htell g0 g1 g2;obtain⟨⟨g0,g1,g2⟩,_⟩:=cells3G HG.out.blk;by_cases hlt2:j<k
     . have hltI2:(j:Int)<(k:Int):=by omega
       obtain⟨s,hs⟩:∃s,V[j]?=some s:=⟨_,zB (by rw[<- HK.out];exact hlt2)⟩
       obtain⟨g,off,hna,q0⟩:∃g off,na=some ⟨g,off,none⟩/\wy.cell? ⟨g,off+j,none⟩=some (.string ⟨s.toArray⟩):=by
        have h1:TxtS _ wy (.slice na k ncap) V:=own_sl (enc:=csT) (fun _=>rfl) HG.out.ow rfl;obtain⟨g,off,e1,_,_,e4⟩:=h1.get hs;have e5:=e4 0 _ rfl;rw[yD,yA]at e5;exact⟨g,off,e1,e5⟩
       subst hna;have HSV:=zA hs;have HKY:=zA (keySG s (by have:=HVW.out s (zC hs);unfold maxLen;omega));clear hs;go_wp2_with (at_mapUpdate;refine wpList_mapUpdate_own _ rfl _ _ _ 72 rfl 9 3 lawSG Tryz.underlying72 _ mb _ D rfl HG.out.om ?m1 _ _ _ rfl rfl HKY.out _ [] (plainElem_int Tryz.underlying3 ?m2) ?_)
       case m1=>unfold maxLen;omega
       case m2=>simp[Lit.wf,IntKind.min,IntKind.max,IntKind.bits,IntKind.signed];omega
       intro w3 hown3 hgrow3;obtain⟨hb3,ho3,he3⟩:=HG.out.turned hgrow3;have HG3:Hid (GrB S w3 gb mb (.slice (some ⟨g,off,none⟩) k ncap) (.slice none 0 0) (D.put (.string s) (.lit (.int .i64 (j:Int)))) (cj+1) V []):=zA { HG.out with blk:=hb3,ow:=ho3,oe:=he3,om:=hown3,keys:=keys_same HG.out.om.isMap HG.out.keys (zC HSV.out) };have HT3:=zA (HTL.out.put HG.out.om.isMap HVN.out HSV.out);have HB3:Hid (Below w.heap.size w w3):=zA (HBW.out.grown hgrow3 HBW.out.size (fun k e=>by
        cases e
        have:=HMB.out;omega))
       clear hown3 hgrow3 hb3 ho3 he3 g0 g1 g2;go_wp2;go_roundw
       case rel=>exact⟨j+1,_,cj+1,by omega,by go_num,by omega,HG3.out,HT3.out,HB3.out⟩
       case measure=>simp[intOf];omega
     . have hltI2:¬(j:Int)<(k:Int):=by omega
       have HTV:Hid (TellsG D V V.length):=zA (fun a s ha=>HTL.out a s (by have:=HK.out;omega));obtain⟨wp,hwp⟩:∃wp,wp=wy:=⟨_,rfl⟩
       subst hwp;have HGP:=HG;have HBP:=HBW;clear HG HBW HTL g0 g1 g2;have hcj2:cj<=1000000:=by omega
       go_wp2_with fail;go_loopw [52] (fun c wr=>∃(i:Nat) (ev:Value),i<=n/\c=.int .i64 i/\GrB S wr gb mb (.slice na k ncap) ev D cj V ((fs.take i).map (egOf V))/\Below w.heap.size w wr) (fun c _=>n-(intOf c).toNat)
       case atStart=>exact⟨0,_,zO _,rfl,HGP.out,HBP.out⟩
       case round=>
        obtain⟨i,ev,hi2,rfl,hg,hbw⟩:=hrel;obtain⟨wy2,hwy2⟩:∃wy,wy=wr:=⟨_,rfl⟩
        subst hwy2;have HG:=zA hg;have HBW:=zA hbw;clear hg hbw;by_cases hlt3:i<n
        . have hltI3:(i:Int)<(n:Int):=by omega
          obtain⟨⟨f0,f1,f2⟩,hx⟩:∃x,fs[i]?=some x:=⟨_,zB (by rw[<- HN.out];exact hlt3)⟩
          obtain⟨g,off,hla,_,hgl,hcell⟩:=(H.out.below HBW.out).get hx;subst hla;obtain⟨q0,q1,q2⟩:=getF hcell;have hwf:=HW.out _ (zC hx);dsimp only at hwf q0 q1 q2;have hm0:f0∈V:=by rw[HV.out,mem_verts];exact⟨_,zC hx,.inl rfl⟩
          have hm2:f2∈V:=by rw[HV.out,mem_verts];exact⟨_,zC hx,.inr rfl⟩
          have HT:Hid ((fs.take (i+1)).map (egOf V)=(fs.take i).map (egOf V)++[(V.idxOf f0,f1,V.idxOf f2)]):=zA (by
           rw[zS,hx,yR,yK];rfl)
          obtain⟨x0,hx0⟩:∃x,x=V.idxOf f0:=⟨_,rfl⟩
          obtain⟨x2,hx2⟩:∃x,x=V.idxOf f2:=⟨_,rfl⟩
          have hi0':=idx_at hm0;have hi2':=idx_at hm2;rw[<- hx0]at HT hi0';rw[<- hx2]at HT hi2';have HLK:Hid (∀u:World,u.heap[mb]?=wy2.heap[mb]?->(Instr.lookup 72 (.map (some mb)) (.string ⟨f0.toArray⟩) false).run Tryz.prog u=.ok (.int .i64 (x0:Int)) u/\(Instr.lookup 72 (.map (some mb)) (.string ⟨f2.toArray⟩) false).run Tryz.prog u=.ok (.int .i64 (x2:Int)) u):=zA (fun u hu=>by
           have hom:=map_keyG (w':=u) HG.out.om (fun o ho=>hu.trans ho);constructor
           . obtain⟨z,hr,hat,_⟩:=hom.lookup_int lawSG Tryz.underlying72 Tryz.underlying3 (zeroIG u) (keySG f0 (by unfold maxLen;omega));rw[HTV.out x0 f0 (zF.1 hi0').1 hi0']at hat;injection hat with hat;injection hat with _ hat;rw[hat];exact hr
           . obtain⟨z,hr,hat,_⟩:=hom.lookup_int lawSG Tryz.underlying72 Tryz.underlying3 (zeroIG u) (keySG f2 (by unfold maxLen;omega));rw[HTV.out x2 f2 (zF.1 hi2').1 hi2']at hat;injection hat with hat;injection hat with _ hat;rw[hat];exact hr)
          obtain⟨ea,ec,hev⟩:=own_slice HG.out.oe;obtain⟨ne,hne⟩:∃e,e=((fs.take i).map (egOf V)).length:=⟨_,rfl⟩
          have hnel:ne<=10000:=by rw[hne,zH,zX];omega
          rw[<- hne]at hev;subst hev;have HNE:=zA hne;obtain⟨fbk,hfb⟩:∃b,b=wy2.heap.size:=⟨_,rfl⟩
          obtain⟨o,ho⟩:∃o,o=Obj.cells #[.string ⟨f0.toArray⟩,.string ⟨f1.toArray⟩,.string ⟨f2.toArray⟩] 48 (0,0):=⟨_,rfl⟩
          obtain⟨wz,hwz⟩:∃wz,wz=wy2.alloc o:=⟨_,rfl⟩
          have hb1:Below wy2.heap.size wy2 wz:=by rw[hwz];exact(zE _ _).alloc (zD _) _
          have hbl:wz.heap[fbk]?=some o:=by rw[hwz,hfb];exact heap_alloc_new _ _
          have hGz:=HG.out.below hb1;have KS:Hid (∀u,Below wz.heap.size wz u->u.cell? ⟨gb,1,none⟩=some (.map (some mb))/\u.cell? ⟨fbk,0,none⟩=some (.string ⟨f0.toArray⟩)/\u.cell? ⟨fbk,1,none⟩=some (.string ⟨f1.toArray⟩)/\u.cell? ⟨fbk,2,none⟩=some (.string ⟨f2.toArray⟩)/\(Instr.lookup 72 (.map (some mb)) (.string ⟨f0.toArray⟩) false).run Tryz.prog u=.ok (.int .i64 (x0:Int)) u/\(Instr.lookup 72 (.map (some mb)) (.string ⟨f2.toArray⟩) false).run Tryz.prog u=.ok (.int .i64 (x2:Int)) u):=zA (fun u hu=>by
           have hbu:u.heap[fbk]?=some o:=(hu.block fbk (lt_of_block hbl)).trans hbl;rw[ho]at hbu;obtain⟨⟨p0,p1,p2⟩,_⟩:=cells3G hbu;obtain⟨⟨c0,c1,c2⟩,_⟩:=cells3G (hGz.below hu).blk;have hmb2:u.heap[mb]?=wy2.heap[mb]?:=(hu.block mb hGz.om.lt).trans (hb1.block mb HG.out.om.lt);exact⟨c1,p0,p1,p2,(HLK.out u hmb2).1,(HLK.out u hmb2).2⟩)
          have HA1:Hid (Below wz.heap.size wz wz.drew):=zA (zE _ _).drew;have HA2:Hid (Below wz.heap.size wz (wz.drew.alloc (.cells #[.int .i64 (x0:Int),.string ⟨f1.toArray⟩,.int .i64 (x2:Int)] 109))):=zA ((zE _ _).drew.alloc (zD _) _);have HOE2:Hid ((wz.drew.alloc (.cells #[.int .i64 (x0:Int),.string ⟨f1.toArray⟩,.int .i64 (x2:Int)] 109)).ownsRow 0 109 3 (.slice ea ne ec) ne (((fs.take i).map (egOf V)).flatMap csE)):=zA (by
           have:=(hGz.below HA2.out).oe;rw[<- HNE.out]at this;exact this)
          have HNW:Hid (∀(j:Nat) u,[Value.int .i64 (x0:Int),.string ⟨f1.toArray⟩,.int .i64 (x2:Int)][j]?=some u->(wz.drew.alloc (.cells #[.int .i64 (x0:Int),.string ⟨f1.toArray⟩,.int .i64 (x2:Int)] 109)).cell? ((⟨wz.heap.size,0,none⟩:Addr).add j)=some u):=zA (World.news_of_block (cs:=#[.int .i64 (x0:Int),.string ⟨f1.toArray⟩,.int .i64 (x2:Int)]) (t:=109) (fr:=(0,0)) (heap_alloc_new wz.drew _));have HKG:Hid (∀gg cap2 w9,w9.ownsRow 0 109 3 (.slice (some ⟨gg,0,none⟩) (ne+1) cap2) (ne+1) (((fs.take i).map (egOf V)).flatMap csE++[.int .i64 (x0:Int),.string ⟨f1.toArray⟩,.int .i64 (x2:Int)])->(wz.drew.alloc (.cells #[.int .i64 (x0:Int),.string ⟨f1.toArray⟩,.int .i64 (x2:Int)] 109)).grownBy w9 (Value.slice ea ne ec).ownBlock->((Value.slice ea ne ec).ownBlock=some gg\/gg=wz.heap.size+1)->
           (w9.cell? ⟨gb,1,none⟩=some (.map (some mb))/\w9.cell? ⟨fbk,0,none⟩=some (.string ⟨f0.toArray⟩)/\w9.cell? ⟨fbk,1,none⟩=some (.string ⟨f1.toArray⟩)/\w9.cell? ⟨fbk,2,none⟩=some (.string ⟨f2.toArray⟩)/\(Instr.lookup 72 (.map (some mb)) (.string ⟨f0.toArray⟩) false).run Tryz.prog w9=.ok (.int .i64 (x0:Int)) w9/\(Instr.lookup 72 (.map (some mb)) (.string ⟨f2.toArray⟩) false).run Tryz.prog w9=.ok (.int .i64 (x2:Int)) w9)/\((w9.setCell ⟨gb,2,none⟩ (.slice (some ⟨gg,0,none⟩) (ne+1) cap2)).cell? ⟨gb,1,none⟩=some (.map (some mb))/\(w9.setCell ⟨gb,2,none⟩ (.slice (some ⟨gg,0,none⟩) (ne+1) cap2)).cell? ⟨fbk,0,none⟩=some (.string ⟨f0.toArray⟩)/\(w9.setCell ⟨gb,2,none⟩ (.slice (some ⟨gg,0,none⟩) (ne+1) cap2)).cell? ⟨fbk,1,none⟩=some (.string ⟨f1.toArray⟩)/\(w9.setCell ⟨gb,2,none⟩ (.slice (some ⟨gg,0,none⟩) (ne+1) cap2)).cell? ⟨fbk,2,none⟩=some (.string ⟨f2.toArray⟩)/\(Instr.lookup 72 (.map (some mb)) (.string ⟨f0.toArray⟩) false).run Tryz.prog (w9.setCell ⟨gb,2,none⟩ (.slice (some ⟨gg,0,none⟩) (ne+1) cap2))=.ok (.int .i64 (x0:Int)) (w9.setCell ⟨gb,2,none⟩ (.slice (some ⟨gg,0,none⟩) (ne+1) cap2))/\(Instr.lookup 72 (.map (some mb)) (.string ⟨f2.toArray⟩) false).run Tryz.prog (w9.setCell ⟨gb,2,none⟩ (.slice (some ⟨gg,0,none⟩) (ne+1) cap2))=.ok (.int .i64 (x2:Int)) (w9.setCell ⟨gb,2,none⟩ (.slice (some ⟨gg,0,none⟩) (ne+1) cap2)))/\(w9.cell? ⟨gb,2,none⟩=some (.slice ea ne ec)/\w9.frozen? ⟨gb,2,none⟩=false)/\GrB S (w9.setCell ⟨gb,2,none⟩ (.slice (some ⟨gg,0,none⟩) (ne+1) cap2)) gb mb (.slice na k ncap) (.slice (some ⟨gg,0,none⟩) (ne+1) cap2) D cj V ((fs.take (i+1)).map (egOf V))/\Below w.heap.size w (w9.setCell ⟨gb,2,none⟩ (.slice (some ⟨gg,0,none⟩) (ne+1) cap2))):=zA (fun gg cap2 w9 h1 h2 h3=>by
           have hG2:=hGz.below HA2.out;have hgb9:=blk_grownG hG2.blk h2 (own_neG hG2.oe hG2.blk (by decide));have hm9:=map_keyG (w':=w9) hG2.om (fun o ho=>blk_grownG ho h2 (own_ne_mapG hG2.oe hG2.om));have hw9:w9.ownsRow 0 9 1 (.slice na k ncap) V.length (V.flatMap csT):=owns_grownG hG2.ow h2 (fun g e e2=>by
            rcases hG2.oe.2 with⟨e3,_⟩|⟨b,c3,cur,e3,_,e4,_⟩
            . rw[e3]at e;simp[Value.ownBlock]at e
            . have:b=g:=by rw[e3]at e;simpa[Value.ownBlock]using e
              subst this;exact own_neG hG2.ow e4 (by decide) e2)
           have hbk9:w9.heap[fbk]?=some o:=by
            refine blk_grownG ((HA2.out.block fbk (lt_of_block hbl)).trans hbl) h2 ?_;have hbl2:=(HA2.out.block fbk (lt_of_block hbl)).trans hbl;rw[ho]at hbl2;exact own_neG hG2.oe hbl2 (by decide)
           have hmb9:w9.heap[mb]?=wy2.heap[mb]?:=by
            obtain⟨es,cl,e1,_⟩:=HG.out.om;rw[e1];exact blk_grownG ((HA2.out.block mb hGz.om.lt).trans ((hb1.block mb HG.out.om.lt).trans e1)) h2 (own_ne_mapG hG2.oe hG2.om)
           rw[ho]at hbk9;obtain⟨⟨p0,p1,p2⟩,_⟩:=cells3G hbk9;obtain⟨⟨c0,c1,c2⟩,⟨_,_,c5⟩⟩:=cells3G hgb9;have hset:∀b,b≠gb->(w9.setCell ⟨gb,2,none⟩ (.slice (some ⟨gg,0,none⟩) (ne+1) cap2)).heap[b]?=w9.heap[b]?:=fun b hb=>zN _ _ _ _ hb
           have hfin:(w9.setCell ⟨gb,2,none⟩ (.slice (some ⟨gg,0,none⟩) (ne+1) cap2)).heap[fbk]?=_:=(hset fbk (fun e=>by rw[e,hgb9]at hbk9;cases hbk9)).trans hbk9;obtain⟨⟨z0,z1,z2⟩,_⟩:=cells3G hfin;obtain⟨⟨y0,y1,y2⟩,_⟩:=cells3G (set3_2 (v:=.slice (some ⟨gg,0,none⟩) (ne+1) cap2) hgb9);have hmbf:(w9.setCell ⟨gb,2,none⟩ (.slice (some ⟨gg,0,none⟩) (ne+1) cap2)).heap[mb]?=wy2.heap[mb]?:=(hset mb (blk_ne_mapG hgb9 hm9)).trans hmb9;refine⟨⟨c1,p0,p1,p2,(HLK.out w9 hmb9).1,(HLK.out w9 hmb9).2⟩,⟨y1,z0,z1,z2,(HLK.out _ hmbf).1,(HLK.out _ hmbf).2⟩,⟨c2,c5⟩,?_,?_⟩
           . refine { HG.out with blk:=set3_2 hgb9,ow:=owns_key hw9 (fun g o hg ho=>(hset g (fun e=>own_neG hw9 hgb9 (by decide) (by rw[hg,e]))).trans ho),oe:=?_,om:=map_keyG hm9 (fun o ho=>(hset mb (blk_ne_mapG hgb9 hm9)).trans ho),oute:=fun g hg hs=>?_ }
             . have h4:w9.ownsRow 0 109 3 (.slice (some ⟨gg,0,none⟩) (ne+1) cap2) ((fs.take (i+1)).map (egOf V)).length (((fs.take (i+1)).map (egOf V)).flatMap csE):=by
                rw[HT.out,zG,<- HNE.out,zR];exact h1
               exact owns_key h4 (fun g o hg ho=>(hset g (fun e=>own_neG h4 hgb9 (by decide) (by rw[hg,e]))).trans ho)
             . have e1:gg=g:=by simpa[Value.ownBlock]using hg
               subst e1;rcases h3 with h3|h3
               . exact HG.out.oute gg h3 hs
               . have h5:=(HLS.out gg).1 hs;have h6:=HBW.out.size;have h7:=hb1.size;omega
           . refine Below.setCell (p:=⟨gb,2,none⟩) ?_ (by have:=HGB.out;show w.heap.size<=gb;omega) _;exact(HBW.out.trans ((hb1.mono HBW.out.size).trans (HA2.out.mono (zT HBW.out.size hb1.size)))).grown h2 (by have h6:=HBW.out.size;have h7:=hb1.size;simp;omega) (fun k e=>by
              rcases Nat.lt_or_ge k w.heap.size with h8|h8
              . exact absurd ((HLS.out k).2 h8) (HG.out.oute k e)
              . exact h8))
          have HL2:Hid (wz.drew.cell? ⟨gb,2,none⟩=some (.slice ea ne ec)):=zA (cells3G (hGz.below HA1.out).blk).1.2.2;have HL3:=zA (cells3G (hGz.below HA2.out).blk).1.2.2;have hgl2:=hgl;clear hx hcell hm0 hm2 hi0' hi2' hx0 hx2 hwf hb1 hbl hGz hne;subst ho;rw[hfb]at KS;go_wp2_with fail;rw[<- hwz];rw[<- hfb]at KS ⊢;clear hwz hfb q0 q1 q2;have hl2:wz.drew.cell? ⟨gb,2,none⟩=some (.slice ea ne ec):=HL2.out;have hl3:(wz.alloc (.cells #[.int .i64 (x0:Int),.string ⟨f1.toArray⟩,.int .i64 (x2:Int)] 109)).cell? ⟨gb,2,none⟩=some (.slice ea ne ec):=HL3.out;refine wp_region_held_drew (S:=fun u=>u.cell? ⟨gb,1,none⟩=some (.map (some mb))/\u.cell? ⟨fbk,0,none⟩=some (.string ⟨f0.toArray⟩)/\u.cell? ⟨fbk,1,none⟩=some (.string ⟨f1.toArray⟩)/\u.cell? ⟨fbk,2,none⟩=some (.string ⟨f2.toArray⟩)/\(Instr.lookup 72 (.map (some mb)) (.string ⟨f0.toArray⟩) false).run Tryz.prog u=.ok (.int .i64 (x0:Int)) u/\(Instr.lookup 72 (.map (some mb)) (.string ⟨f2.toArray⟩) false).run Tryz.prog u=.ok (.int .i64 (x2:Int)) u) (by kernel_rfl) ?_ (fun hHeld=>?_)
          . exact KS.out _ HA1.out
          refine tkH (i:=0) (oi:=⟨some 56,.move (.tmp 3),65, "model.go:79",#[],none⟩) (v:=?_) rfl ?_ hHeld ?_;rotate_left 1
          . rintro W ⟨l1,l2,l3,l4,l5,l6⟩;go_simp;try with_reducible rfl
          simp only[Act.put,zIB,zSZ,zSS];refine tkH (i:=1) (oi:=⟨some 57,.move (.tmp 3),65, "model.go:79",#[],none⟩) (v:=?_) rfl ?_ hHeld ?_;rotate_left 1
          . rintro W ⟨l1,l2,l3,l4,l5,l6⟩;go_simp;try with_reducible rfl
          simp only[Act.put,zIB,zSZ,zSS];refine tkH (i:=2) (oi:=⟨some 58,.nilCheck (.tmp 57),0, "model.go:79",#[⟨1,.data⟩],none⟩) (v:=?_) rfl ?_ hHeld ?_;rotate_left 1
          . rintro W ⟨l1,l2,l3,l4,l5,l6⟩;go_simp;try with_reducible rfl
          simp only[Act.put,zIB,zSZ,zSS];refine tkH (i:=3) (oi:=⟨some 59,.fieldAddr 75 (.tmp 58) 2,0, "model.go:79",#[⟨2,.data⟩],none⟩) (v:=?_) rfl ?_ hHeld ?_;rotate_left 1
          . rintro W ⟨l1,l2,l3,l4,l5,l6⟩;go_simp;try with_reducible rfl
          simp only[Act.put,zIB,zSZ,zSS];refine tkH (i:=5) (oi:=⟨some 61,.move (.tmp 3),65, "model.go:79",#[],none⟩) (v:=?_) rfl ?_ hHeld ?_;rotate_left 1
          . rintro W ⟨l1,l2,l3,l4,l5,l6⟩;go_simp;try with_reducible rfl
          simp only[Act.put,zIB,zSZ,zSS];refine tkH (i:=6) (oi:=⟨some 62,.nilCheck (.tmp 61),0, "model.go:79",#[⟨5,.data⟩],none⟩) (v:=?_) rfl ?_ hHeld ?_;rotate_left 1
          . rintro W ⟨l1,l2,l3,l4,l5,l6⟩;go_simp;try with_reducible rfl
          simp only[Act.put,zIB,zSZ,zSS];refine tkH (i:=7) (oi:=⟨some 63,.fieldAddr 75 (.tmp 62) 1,0, "model.go:79",#[⟨6,.data⟩],none⟩) (v:=?_) rfl ?_ hHeld ?_;rotate_left 1
          . rintro W ⟨l1,l2,l3,l4,l5,l6⟩;go_simp;try with_reducible rfl
          simp only[Act.put,zIB,zSZ,zSS];refine tkH (i:=8) (oi:=⟨some 64,.load 72 (.tmp 63),72, "model.go:79",#[⟨7,.data⟩],none⟩) (v:=?_) rfl ?_ hHeld ?_;rotate_left 1
          . rintro W ⟨l1,l2,l3,l4,l5,l6⟩;go_simp;try with_reducible rfl
          simp only[Act.put,zIB,zSZ,zSS];refine tkH (i:=9) (oi:=⟨some 65,.fieldAddr 48 (.tmp 9) 0,0, "model.go:79",#[],none⟩) (v:=?_) rfl ?_ hHeld ?_;rotate_left 1
          . rintro W ⟨l1,l2,l3,l4,l5,l6⟩;go_simp;try with_reducible rfl
          simp only[Act.put,zIB,zSZ,zSS];refine tkH (i:=10) (oi:=⟨some 66,.load 9 (.tmp 65),9, "model.go:79",#[⟨9,.data⟩],none⟩) (v:=?_) rfl ?_ hHeld ?_;rotate_left 1
          . rintro W ⟨l1,l2,l3,l4,l5,l6⟩;go_simp;try with_reducible rfl
          simp only[Act.put,zIB,zSZ,zSS];refine tkH (i:=11) (oi:=⟨some 67,.lookup 72 (.tmp 64) (.tmp 66) false,3, "model.go:79",#[⟨8,.data⟩,⟨10,.data⟩],none⟩) (v:=?_) rfl ?_ hHeld ?_;rotate_left 1
          . rintro W ⟨l1,l2,l3,l4,l5,l6⟩;go_simp;try with_reducible rfl
          simp only[Act.put,zIB,zSZ,zSS];refine tkH (i:=12) (oi:=⟨some 68,.fieldAddr 48 (.tmp 9) 1,0, "model.go:79",#[],none⟩) (v:=?_) rfl ?_ hHeld ?_;rotate_left 1
          . rintro W ⟨l1,l2,l3,l4,l5,l6⟩;go_simp;try with_reducible rfl
          simp only[Act.put,zIB,zSZ,zSS];refine tkH (i:=13) (oi:=⟨some 69,.load 9 (.tmp 68),9, "model.go:79",#[⟨12,.data⟩],none⟩) (v:=?_) rfl ?_ hHeld ?_;rotate_left 1
          . rintro W ⟨l1,l2,l3,l4,l5,l6⟩;go_simp;try with_reducible rfl
          simp only[Act.put,zIB,zSZ,zSS];refine tkH (i:=14) (oi:=⟨some 70,.move (.tmp 3),65, "model.go:79",#[],none⟩) (v:=?_) rfl ?_ hHeld ?_;rotate_left 1
          . rintro W ⟨l1,l2,l3,l4,l5,l6⟩;go_simp;try with_reducible rfl
          simp only[Act.put,zIB,zSZ,zSS];refine tkH (i:=15) (oi:=⟨some 71,.nilCheck (.tmp 70),0, "model.go:79",#[⟨14,.data⟩],none⟩) (v:=?_) rfl ?_ hHeld ?_;rotate_left 1
          . rintro W ⟨l1,l2,l3,l4,l5,l6⟩;go_simp;try with_reducible rfl
          simp only[Act.put,zIB,zSZ,zSS];refine tkH (i:=16) (oi:=⟨some 72,.fieldAddr 75 (.tmp 71) 1,0, "model.go:79",#[⟨15,.data⟩],none⟩) (v:=?_) rfl ?_ hHeld ?_;rotate_left 1
          . rintro W ⟨l1,l2,l3,l4,l5,l6⟩;go_simp;try with_reducible rfl
          simp only[Act.put,zIB,zSZ,zSS];refine tkH (i:=17) (oi:=⟨some 73,.load 72 (.tmp 72),72, "model.go:79",#[⟨16,.data⟩],none⟩) (v:=?_) rfl ?_ hHeld ?_;rotate_left 1
          . rintro W ⟨l1,l2,l3,l4,l5,l6⟩;go_simp;try with_reducible rfl
          simp only[Act.put,zIB,zSZ,zSS];refine tkH (i:=18) (oi:=⟨some 74,.fieldAddr 48 (.tmp 9) 2,0, "model.go:79",#[],none⟩) (v:=?_) rfl ?_ hHeld ?_;rotate_left 1
          . rintro W ⟨l1,l2,l3,l4,l5,l6⟩;go_simp;try with_reducible rfl
          simp only[Act.put,zIB,zSZ,zSS];refine tkH (i:=19) (oi:=⟨some 75,.load 9 (.tmp 74),9, "model.go:79",#[⟨18,.data⟩],none⟩) (v:=?_) rfl ?_ hHeld ?_;rotate_left 1
          . rintro W ⟨l1,l2,l3,l4,l5,l6⟩;go_simp;try with_reducible rfl
          simp only[Act.put,zIB,zSZ,zSS];refine tkH (i:=20) (oi:=⟨some 76,.lookup 72 (.tmp 73) (.tmp 75) false,3, "model.go:79",#[⟨17,.data⟩,⟨19,.data⟩],none⟩) (v:=?_) rfl ?_ hHeld ?_;rotate_left 1
          . rintro W ⟨l1,l2,l3,l4,l5,l6⟩;go_simp;try with_reducible rfl
          simp only[Act.put,zIB,zSZ,zSS];refine tkH (i:=21) (oi:=⟨some 77,.build 109 #[(0,.tmp 67),(1,.tmp 69),(2,.tmp 76)],109, "model.go:79",#[⟨11,.data⟩,⟨13,.data⟩,⟨20,.data⟩],none⟩) (v:=?_) rfl ?_ hHeld ?_;rotate_left 1
          . rintro W ⟨l1,l2,l3,l4,l5,l6⟩;go_simp;try with_reducible rfl
          simp only[Act.put,zIB,zSZ,zSS];refine wpAnyH_ready (rs:=[4,22]) (by kernel_rfl) (by simp) ?_;refine AllReadyH.cons (o:=⟨some 60,.load 73 (.tmp 59),73, "model.go:79",#[⟨3,.data⟩],none⟩) rfl (fun K hK=>?_) (AllReadyH.cons (o:=⟨some 78,.buildSlice 73 1 #[(0,.tmp 77)],73, "model.go:79",#[⟨21,.data⟩],none⟩) rfl (fun K hK=>?_) AllReadyH.nil)
          . go_simp;refine hK.out _ _ (KS.out _ HA1.out) (fun hHeld=>?_);clear hK K;refine wpAnyH_ready (rs:=[22]) (by kernel_rfl) (by simp) ?_;refine AllReadyH.cons (o:=⟨some 78,.buildSlice 73 1 #[(0,.tmp 77)],73, "model.go:79",#[⟨21,.data⟩],none⟩) rfl (fun K hK=>?_) AllReadyH.nil;go_simp;refine hK.out _ _ (KS.out _ HA2.out) (fun hHeld=>?_);clear hK K;refine wpAnyH_ready (rs:=[23]) (by kernel_rfl) (by simp) ?_;refine AllReadyH.cons (o:=⟨some 79,.call { callee:=.builtin .append,args:=#[.tmp 60,.tmp 78],argTypes:=#[73,73] },73, "model.go:79",#[⟨4,.data⟩,⟨22,.data⟩],none⟩) rfl (fun K hK=>?_) AllReadyH.nil;refine step_append_lies _ (by rfl) _ _ _ (by rfl) 0 109 i0 _ 3 32 Tryz.underlying73 hi0 hz0 hz1 hz2 rfl (by decide) (.slice ea ne ec) _ _ (by rfl) HOE2.out ⟨wz.heap.size,0,none⟩ 1 1 [.int .i64 (x0:Int),.string ⟨f1.toArray⟩,.int .i64 (x2:Int)] (by rfl) (by rfl) HNW.out (by simp[Value.oneCell']) (by decide) (by unfold maxLen;omega) (by omega) (zO _) (wz.heap.size+1) (by simp) ?_;intro gg cap2 w9 hown9 hgrow9 hat9 hlt9;have HW9:=zA (HKG.out gg cap2 w9 hown9 hgrow9 hat9);refine hK.out _ _ HW9.out.1 (fun hHeld=>?_);clear hK K hown9 hgrow9 hat9 hlt9;obtain⟨c2,c8⟩:=HW9.out.2.2.1;refine tkH (i:=24) (oi:=⟨some 80,.nilCheck (.tmp 56),0, "model.go:79",#[⟨0,.data⟩,⟨0,.phase⟩,⟨1,.phase⟩,⟨2,.phase⟩,⟨3,.phase⟩,⟨4,.phase⟩,⟨5,.phase⟩,⟨6,.phase⟩,⟨7,.phase⟩,⟨8,.phase⟩,⟨9,.phase⟩,⟨10,.phase⟩,⟨11,.phase⟩,⟨12,.phase⟩,⟨13,.phase⟩,⟨14,.phase⟩,⟨15,.phase⟩,⟨16,.phase⟩,⟨17,.phase⟩,⟨18,.phase⟩,⟨19,.phase⟩,⟨20,.phase⟩,⟨21,.phase⟩,⟨22,.phase⟩,⟨23,.phase⟩],none⟩) (v:=?_) rfl ?_ hHeld ?_;rotate_left 1
            . rintro W ⟨l1,l2,l3,l4,l5,l6⟩;go_simp;try with_reducible rfl
            simp only[Act.put,zIB,zSZ,zSS];refine tkH (i:=25) (oi:=⟨some 81,.fieldAddr 75 (.tmp 80) 2,0, "model.go:79",#[⟨24,.data⟩,⟨0,.phase⟩,⟨1,.phase⟩,⟨2,.phase⟩,⟨3,.phase⟩,⟨4,.phase⟩,⟨5,.phase⟩,⟨6,.phase⟩,⟨7,.phase⟩,⟨8,.phase⟩,⟨9,.phase⟩,⟨10,.phase⟩,⟨11,.phase⟩,⟨12,.phase⟩,⟨13,.phase⟩,⟨14,.phase⟩,⟨15,.phase⟩,⟨16,.phase⟩,⟨17,.phase⟩,⟨18,.phase⟩,⟨19,.phase⟩,⟨20,.phase⟩,⟨21,.phase⟩,⟨22,.phase⟩,⟨23,.phase⟩],none⟩) (v:=?_) rfl ?_ hHeld ?_;rotate_left 1
            . rintro W ⟨l1,l2,l3,l4,l5,l6⟩;go_simp;try with_reducible rfl
            simp only[Act.put,zIB,zSZ,zSS];refine wpAnyH_ready (rs:=[26]) (by kernel_rfl) (by simp) ?_;refine AllReadyH.cons (o:=⟨none,.store 73 (.tmp 81) (.tmp 79),0, "model.go:79",#[⟨25,.data⟩,⟨23,.data⟩,⟨23,.chain⟩,⟨0,.phase⟩,⟨1,.phase⟩,⟨2,.phase⟩,⟨3,.phase⟩,⟨4,.phase⟩,⟨5,.phase⟩,⟨6,.phase⟩,⟨7,.phase⟩,⟨8,.phase⟩,⟨9,.phase⟩,⟨10,.phase⟩,⟨11,.phase⟩,⟨12,.phase⟩,⟨13,.phase⟩,⟨14,.phase⟩,⟨15,.phase⟩,⟨16,.phase⟩,⟨17,.phase⟩,⟨18,.phase⟩,⟨19,.phase⟩,⟨20,.phase⟩,⟨21,.phase⟩,⟨22,.phase⟩,⟨23,.phase⟩],none⟩) rfl (fun K hK=>?_) AllReadyH.nil;go_simp;refine hK.out _ _ HW9.out.2.1 (fun hHeld=>?_);clear hK K c2 c8;refine wpAnyH_done (by kernel_rfl) ?_ _;go_wp2;go_roundw
            case rel=>exact⟨i+1,_,by omega,by go_num,HW9.out.2.2.2.1,HW9.out.2.2.2.2⟩
            case measure=>simp[intOf];omega
          . go_simp;refine hK.out _ _ (KS.out _ HA2.out) (fun hHeld=>?_);clear hK K;refine wpAnyH_ready (rs:=[4]) (by kernel_rfl) (by simp) ?_;refine AllReadyH.cons (o:=⟨some 60,.load 73 (.tmp 59),73, "model.go:79",#[⟨3,.data⟩],none⟩) rfl (fun K hK=>?_) AllReadyH.nil;go_simp;refine hK.out _ _ (KS.out _ HA2.out) (fun hHeld=>?_);clear hK K;refine wpAnyH_ready (rs:=[23]) (by kernel_rfl) (by simp) ?_;refine AllReadyH.cons (o:=⟨some 79,.call { callee:=.builtin .append,args:=#[.tmp 60,.tmp 78],argTypes:=#[73,73] },73, "model.go:79",#[⟨4,.data⟩,⟨22,.data⟩],none⟩) rfl (fun K hK=>?_) AllReadyH.nil;refine step_append_lies _ (by rfl) _ _ _ (by rfl) 0 109 i0 _ 3 32 Tryz.underlying73 hi0 hz0 hz1 hz2 rfl (by decide) (.slice ea ne ec) _ _ (by rfl) HOE2.out ⟨wz.heap.size,0,none⟩ 1 1 [.int .i64 (x0:Int),.string ⟨f1.toArray⟩,.int .i64 (x2:Int)] (by rfl) (by rfl) HNW.out (by simp[Value.oneCell']) (by decide) (by unfold maxLen;omega) (by omega) (zO _) (wz.heap.size+1) (by simp) ?_;intro gg cap2 w9 hown9 hgrow9 hat9 hlt9;have HW9:=zA (HKG.out gg cap2 w9 hown9 hgrow9 hat9);refine hK.out _ _ HW9.out.1 (fun hHeld=>?_);clear hK K hown9 hgrow9 hat9 hlt9;obtain⟨c2,c8⟩:=HW9.out.2.2.1;refine tkH (i:=24) (oi:=⟨some 80,.nilCheck (.tmp 56),0, "model.go:79",#[⟨0,.data⟩,⟨0,.phase⟩,⟨1,.phase⟩,⟨2,.phase⟩,⟨3,.phase⟩,⟨4,.phase⟩,⟨5,.phase⟩,⟨6,.phase⟩,⟨7,.phase⟩,⟨8,.phase⟩,⟨9,.phase⟩,⟨10,.phase⟩,⟨11,.phase⟩,⟨12,.phase⟩,⟨13,.phase⟩,⟨14,.phase⟩,⟨15,.phase⟩,⟨16,.phase⟩,⟨17,.phase⟩,⟨18,.phase⟩,⟨19,.phase⟩,⟨20,.phase⟩,⟨21,.phase⟩,⟨22,.phase⟩,⟨23,.phase⟩],none⟩) (v:=?_) rfl ?_ hHeld ?_;rotate_left 1
            . rintro W ⟨l1,l2,l3,l4,l5,l6⟩;go_simp;try with_reducible rfl
            simp only[Act.put,zIB,zSZ,zSS];refine tkH (i:=25) (oi:=⟨some 81,.fieldAddr 75 (.tmp 80) 2,0, "model.go:79",#[⟨24,.data⟩,⟨0,.phase⟩,⟨1,.phase⟩,⟨2,.phase⟩,⟨3,.phase⟩,⟨4,.phase⟩,⟨5,.phase⟩,⟨6,.phase⟩,⟨7,.phase⟩,⟨8,.phase⟩,⟨9,.phase⟩,⟨10,.phase⟩,⟨11,.phase⟩,⟨12,.phase⟩,⟨13,.phase⟩,⟨14,.phase⟩,⟨15,.phase⟩,⟨16,.phase⟩,⟨17,.phase⟩,⟨18,.phase⟩,⟨19,.phase⟩,⟨20,.phase⟩,⟨21,.phase⟩,⟨22,.phase⟩,⟨23,.phase⟩],none⟩) (v:=?_) rfl ?_ hHeld ?_;rotate_left 1
            . rintro W ⟨l1,l2,l3,l4,l5,l6⟩;go_simp;try with_reducible rfl
            simp only[Act.put,zIB,zSZ,zSS];refine wpAnyH_ready (rs:=[26]) (by kernel_rfl) (by simp) ?_;refine AllReadyH.cons (o:=⟨none,.store 73 (.tmp 81) (.tmp 79),0, "model.go:79",#[⟨25,.data⟩,⟨23,.data⟩,⟨23,.chain⟩,⟨0,.phase⟩,⟨1,.phase⟩,⟨2,.phase⟩,⟨3,.phase⟩,⟨4,.phase⟩,⟨5,.phase⟩,⟨6,.phase⟩,⟨7,.phase⟩,⟨8,.phase⟩,⟨9,.phase⟩,⟨10,.phase⟩,⟨11,.phase⟩,⟨12,.phase⟩,⟨13,.phase⟩,⟨14,.phase⟩,⟨15,.phase⟩,⟨16,.phase⟩,⟨17,.phase⟩,⟨18,.phase⟩,⟨19,.phase⟩,⟨20,.phase⟩,⟨21,.phase⟩,⟨22,.phase⟩,⟨23,.phase⟩],none⟩) rfl (fun K hK=>?_) AllReadyH.nil;go_simp;refine hK.out _ _ HW9.out.2.1 (fun hHeld=>?_);clear hK K c2 c8;refine wpAnyH_done (by kernel_rfl) ?_ _;go_wp2;go_roundw
            case rel=>exact⟨i+1,_,by omega,by go_num,HW9.out.2.2.2.1,HW9.out.2.2.2.2⟩
            case measure=>simp[intOf];omega
        . have hltI3:¬(i:Int)<(n:Int):=by omega
          have HE:Hid ((fs.take i).map (egOf V)=fs.map (egOf V)):=zA (by rw[zJ (by rw[<- HN.out];omega)]);go_wp2;go_ret;refine⟨gb,mb,.slice na k ncap,ev,D,cj,rfl,?_,HBW.out⟩;rw[<- HV.out,<- HE.out];exact HG.out.read (fun k hk=>(HLS.out k).2 hk) HTV.out
def VRow(w:World)(g:Nat)(t:TypeId)(l:List Value):Prop:=w.heap[g]?=some (.cells l.toArray t (0,0))
theorem VRow.cell{w:World}{g i:Nat}{t:TypeId}{l:List Value}{v:Value}(h:VRow w g t l)(hi:l[i]?=some v):w.cell? ⟨g,i,none⟩=some v/\w.frozen? ⟨g,i,none⟩=false:=by
 have h:w.heap[g]?=_:=h;constructor
 . simp[World.cell?,h,hi]
 . simp[World.frozen?,h]
theorem VRow.set{w:World}{g:Nat}{t:TypeId}{l:List Value}(h:VRow w g t l)(i:Nat)(v:Value):VRow (w.setCell ⟨g,i,none⟩ v) g t (l.set i v):=by
 unfold VRow at h ⊢;simp[World.setCell,Array.getElem?_modify,h]
theorem VRow.sl{α:Type}{enc:α->List Value}(hk:∀x,(enc x).length=1){w:World}{g n:Nat}{t:TypeId}{L:List α}(h:VRow w g t (L.flatMap enc))(hn:n=L.length):SlS enc 1 (fun k=>k=g) w (.slice (some ⟨g,0,none⟩) n n) L:=by
 refine⟨_,n,by rw[hn],.inr ⟨g,0,rfl,rfl,lt_of_block h,fun j x hx c u hu=>?_⟩⟩;have hc:c=0:=by have:=(zF.1 hu).1;rw[hk]at this;omega
 subst hc;have h1:=flat_at hk L j 0 x hx (by omega);rw[hu]at h1;have:=(h.cell h1).1;rw[show 0+j*1+0=j*1+0 by omega];exact this
theorem VRow.below{w w':World}{g:Nat}{t:TypeId}{l:List Value}(h:VRow w g t l)(hb:Below w.heap.size w w'):VRow w' g t l:=(hb.block g (lt_of_block h)).trans h
theorem made_list(z:Value)(n:Nat):madeCells #[z] n=(List.replicate n z).toArray:=by
 apply Array.ext_getElem?;intro j;by_cases hj:j<n
 . simp[madeCells,hj,Nat.mod_one]
 . rw[Array.getElem?_eq_none (by simp[madeCells];omega),Array.getElem?_eq_none (by simp;omega)]
theorem made_row(w:World)(z:Value)(n:Nat)(t:TypeId):VRow (w.alloc (.cells (madeCells #[z] n) t)) w.heap.size t (List.replicate n z):=by
 unfold VRow;rw[made_list];exact heap_alloc_new _ _
def NatC(S:Nat->Prop)(w:World)(v:Value)(l:List Nat):Prop:=NatS S w v l/\∃ao cap,v=.slice ao l.length cap/\l.length<=cap
theorem own_natC{w:World}{B:Nat}{v:Value}{l:List Nat}(h:w.ownsRow B 3 1 v l.length (l.flatMap csI)):NatC (fun g=>v.ownBlock=some g) w v l:=by
 refine⟨own_nat h,?_⟩;obtain⟨ao,cap,rfl⟩:=own_slice h;exact⟨ao,cap,rfl,own_cap h⟩
theorem NatC.sub{S T:Nat->Prop}{w:World}{v:Value}{l:List Nat}(h:NatC S w v l)(hs:∀b,S b->b<w.heap.size->T b):NatC T w v l:=⟨h.1.sub hs,h.2⟩
theorem NatC.fr{S:Nat->Prop}{w w':World}{v:Value}{l:List Nat}(h:NatC S w v l)(hf:Fr S w w'):NatC S w' v l:=⟨h.1.fr hf,h.2⟩
theorem NatC.keep{S T:Nat->Prop}{w w':World}{v:Value}{l:List Nat}(h:NatC S w v l)(hz:w.heap.size<=w'.heap.size)(hk:∀b,S b->b<w.heap.size->T b/\w'.heap[b]?=w.heap[b]?):NatC T w' v l:=⟨h.1.keep hz hk,h.2⟩
theorem NatC.below{S:Nat->Prop}{w w':World}{v:Value}{l:List Nat}(h:NatC S w v l)(hb:Below w.heap.size w w'):NatC S w' v l:=⟨h.1.below hb,h.2⟩
set_option maxHeartbeats 4000000 in
theorem vertices_any{S:Nat->Prop}{w:World}{gb:Nat}{N:List Wd}{E:List Eg}{mb:Nat}{nv ev:Value}{D:DataW Unit}{c:Nat}(h:GrS S w gb N E mb nv ev D c)(hl:N.length<=100000):
 Calls Tryz.prog 33 #[.pointer (some ⟨gb,0,none⟩)] w fun e w'=>e=.returned (.slice (some ⟨w.heap.size,0,none⟩) N.length N.length)/\VRow w' w.heap.size 3 ((List.range N.length).flatMap csI)/\Below w.heap.size w w':=by
 obtain⟨i0,hi0,hz0,hz1,hz2⟩:=info_partsG infoZG;obtain⟨⟨g0,g1,g2⟩,_⟩:=cells3G h.blk;obtain⟨ao,cap,hnv⟩:=h.names.slice;rw[hnv]at g0;obtain⟨n,hn⟩:∃n,n=N.length:=⟨_,rfl⟩
 rw[<- hn]at g0 hl ⊢;have hgb:=lt_of_block h.blk;have HM:=zA (made_row w (.int .i64 0) n 3);have HB0:Hid (Below w.heap.size w (w.alloc (.cells (madeCells #[.int .i64 0] n) 3))):=zA ((zE _ _).alloc (zD _) _);clear h hn hnv g1 g2;go_enter Tryz.func33,Tryz.ntmps33;go_wp2_with (at_make;refine wpList_make_row _ rfl _ _ 59 rfl 3 i0 (.int .i64 0) Tryz.underlying59 hi0 hz0 hz1 rfl _ _ n rfl rfl (by rw[hz2];omega) (by omega) ?_);obtain⟨W0,hW0⟩:∃W,W=w.alloc (.cells (madeCells #[.int .i64 0] n) 3):=⟨_,rfl⟩
 rw[<- hW0]at HM HB0 ⊢;clear hW0 g0;go_wp2_with fail;go_loopw [13] (fun c wr=>∃(i:Nat) (l:List Nat),i<=n/\c=.int .i64 i/\l.length=n/\l.take i=List.range i/\VRow wr w.heap.size 3 (l.flatMap csI)/\Below w.heap.size w wr) (fun c _=>n-(intOf c).toNat)
 case atStart=>exact⟨0,List.replicate n 0,zO _,rfl,by simp,by simp,by
  have:=HM.out;rw[show (List.replicate n 0).flatMap csI=List.replicate n (Value.int .i64 0) by rw[flat_mapI];simp];exact this,HB0.out⟩
 case round=>
  obtain⟨i,l,hi,rfl,hll,htk,hrow,hbw⟩:=hrel;obtain⟨wx,hwx⟩:∃wx,wx=wr:=⟨_,rfl⟩
  subst hwx;have HROW:=zA hrow;have HBW:=zA hbw;have HTK:=zA htk;have HLL:=zA hll;clear hrow hbw htk hll;by_cases hlt:i<n
  . have hltI:(i:Int)<(n:Int):=by omega
    obtain⟨x,hx⟩:∃x,l[i]?=some x:=⟨_,zB (by rw[HLL.out];exact hlt)⟩
    obtain⟨q0,q1⟩:=HROW.out.cell (i:=i) (v:=.int .i64 (x:Int)) (by rw[flat_mapI,zI,zI,hx];rfl);have HR2:Hid (VRow (wx.setCell ⟨w.heap.size,i,none⟩ (.int .i64 (i:Int))) w.heap.size 3 ((l.set i i).flatMap csI)):=zA (by
     have:=HROW.out.set i (.int .i64 (i:Int));rw[flat_mapI]at this ⊢;rw[List.map_set,List.map_set];exact this)
    have HB2:=zA (HBW.out.setCell (p:=⟨w.heap.size,i,none⟩) (zD _) (.int .i64 (i:Int)));have HT2:Hid ((l.set i i).take (i+1)=List.range (i+1)):=zA (by
     rw[List.range_succ,<- HTK.out,zS,List.getElem?_set_self (by rw[HLL.out];exact hlt),List.take_set_of_le (zD _)];rfl)
    clear hx;go_wp2;go_roundw
    case rel=>exact⟨i+1,l.set i i,by omega,by go_num,by rw[List.length_set];exact HLL.out,HT2.out,HR2.out,HB2.out⟩
    case measure=>simp[intOf];omega
  . have hltI:¬(i:Int)<(n:Int):=by omega
    have HE:Hid (l=List.range n):=zA (by
     have:=HTK.out;have e:i=n:=by omega
     rw[e,zJ (by rw[HLL.out];exact zD _)]at this;exact this)
    go_wp2;go_ret;exact⟨rfl,by rw[<- HE.out];exact HROW.out,HBW.out⟩
def OneE(S:Nat->Prop)(w:World)(l:List Nat)(e:Ending)(w':World):Prop:=
 ∃L:List (Value×List Nat),e=.returned (.slice (some ⟨w.heap.size,0,none⟩) l.length l.length)/\VRow w' w.heap.size 59 (L.flatMap csRow)/\L.map (·.2)=l.map (fun x=>[x])/\(∀r∈L,NatS S w' r.1 r.2)/\Below w.heap.size w w'
theorem infoIsG:(Tryz.prog.info? 59).map (fun i=>(i.zero,i.size,i.bytes))=some (some (.slice none 0 0),1,24):=by kernel_rfl
theorem flat_row{α:Type}(L:List (Value×α)):L.flatMap csRow=L.map (·.1):=by
 induction L with
 |nil=>rfl
 |cons a l ih=>rw[yT,ih];rfl
set_option maxHeartbeats 4000000 in
theorem oneByOne_any{S:Nat->Prop}{w:World}{v:Value}{l:List Nat}(h:NatC S w v l)(hl:l.length<=100000):
 Calls Tryz.prog 32 #[v] w (OneE S w l):=by
 obtain⟨i0,hi0,hz0,hz1,hz2⟩:=info_partsG infoIsG;obtain⟨h,ao,cap,rfl,hcap⟩:=h;have H:=zA h;obtain⟨n,hn⟩:∃n,n=l.length:=⟨_,rfl⟩
 have HP:Hid (OneE S w l=OneE S w l):=zA rfl;have HN:=zA hn;rw[<- hn]at hcap hl H;show Calls Tryz.prog _ #[.slice ao l.length cap] w _;rw[<- hn];have HM:=zA (made_row w (.slice none 0 0) n 59);have HB0:Hid (Below w.heap.size w (w.alloc (.cells (madeCells #[.slice none 0 0] n) 59))):=zA ((zE _ _).alloc (zD _) _);clear h hn HP;go_enter Tryz.func32,Tryz.ntmps32;go_wp2_with (at_make;refine wpList_make_row _ rfl _ _ 60 rfl 59 i0 (.slice none 0 0) Tryz.underlying60 hi0 hz0 hz1 rfl _ _ n rfl rfl (by rw[hz2];omega) (by omega) ?_);obtain⟨W0,hW0⟩:∃W,W=w.alloc (.cells (madeCells #[.slice none 0 0] n) 59):=⟨_,rfl⟩
 rw[<- hW0]at HM HB0 ⊢;clear hW0;go_wp2_with fail;go_loopw [10] (fun c wr=>∃(i:Nat) (L:List (Value×List Nat)),i<=n/\c=.int .i64 i/\L.length=i/\L.map (·.2)=(l.take i).map (fun x=>[x])/\(∀r∈L,NatS S wr r.1 r.2)/\VRow wr w.heap.size 59 (L.map (·.1)++List.replicate (n-i) (.slice none 0 0))/\Below w.heap.size w wr) (fun c _=>n-(intOf c).toNat)
 case atStart=>exact⟨0,[],zO _,rfl,rfl,by simp,by simp,by simpa using HM.out,HB0.out⟩
 case round=>
  obtain⟨i,L,hi,rfl,hll,hmap,hats,hrow,hbw⟩:=hrel;obtain⟨wx,hwx⟩:∃wx,wx=wr:=⟨_,rfl⟩
  subst hwx;have HROW:=zA hrow;have HBW:=zA hbw;have HMAP:=zA hmap;have HLL:=zA hll;have HATS:=zA hats;clear hrow hbw hmap hll hats;by_cases hlt:i<n
  . have hltI:(i:Int)<(n:Int):=by omega
    obtain⟨x,hx⟩:∃x,l[i]?=some x:=⟨_,zB (by rw[<- HN.out];exact hlt)⟩
    have hsl:=H.out.below HBW.out;obtain⟨g,off,hao,hsg,hgl,hcell⟩:=hsl.get hx;subst hao;obtain⟨q0,q1⟩:=HROW.out.cell (i:=i) (v:=.slice none 0 0) (by
     rw[yO (by rw[zH,HLL.out];exact zD _),zH,HLL.out,Nat.sub_self];rw[List.getElem?_replicate];rw[if_pos (by omega)])
    have hcI:(i:Int)+1<=(cap:Int):=by omega
    have HNS:Hid (NatS S (wx.setCell ⟨w.heap.size,i,none⟩ (.slice (some ⟨g,off+i,none⟩) 1 (cap-i))) (.slice (some ⟨g,off+i,none⟩) 1 (cap-i)) [x]):=zA (by
     have hne:g≠w.heap.size:=fun e=>by
      obtain⟨g',off',e1,_,e3,_⟩:=H.out.get hx;injection e1 with e1;injection e1 with e1;omega
     refine⟨_,_,rfl,.inr ⟨g,off+i,rfl,hsg,by simpa using hgl,fun j y hy c u hu=>?_⟩⟩;have hj:j=0:=by have:=(zF.1 hy).1;simp at this;exact this
     subst hj;simp at hy;subst hy;have h2:=hcell c u hu;rw[yD]at h2;rw[Nat.zero_mul,yA];have hb:(wx.setCell ⟨w.heap.size,i,none⟩ (.slice (some ⟨g,off+i,none⟩) 1 (cap-i))).heap[g]?=wx.heap[g]?:=zN _ _ _ _ hne;simpa only[World.cell?,hb]using h2)
    have HR2:Hid (VRow (wx.setCell ⟨w.heap.size,i,none⟩ (.slice (some ⟨g,off+i,none⟩) 1 (cap-i))) w.heap.size 59 ((L++[((.slice (some ⟨g,off+i,none⟩) 1 (cap-i):Value),[x])]).map (fun(r:Value×List Nat)=>r.1)++List.replicate (n-(i+1)) (.slice none 0 0))):=zA (by
     have:=HROW.out.set i (.slice (some ⟨g,off+i,none⟩) 1 (cap-i));rw[List.set_append_right _ _ (by rw[zH,HLL.out];exact zD _),zH,HLL.out,Nat.sub_self,show n-i=(n-(i+1))+1 by omega,List.replicate_succ,List.set_cons_zero]at this;simpa using this)
    have HB2:=zA (HBW.out.setCell (p:=⟨w.heap.size,i,none⟩) (zD _) (.slice (some ⟨g,off+i,none⟩) 1 (cap-i)));have HA2:Hid (∀r∈L++[((.slice (some ⟨g,off+i,none⟩) 1 (cap-i):Value),[x])],NatS S (wx.setCell ⟨w.heap.size,i,none⟩ (.slice (some ⟨g,off+i,none⟩) 1 (cap-i))) r.1 r.2):=zA (fun r hr=>by
     rcases zM.1 hr with hr|hr
     . have h1:=HATS.out r hr;obtain⟨ao2,cap2,e,h2⟩:=h1;refine⟨ao2,cap2,e,?_⟩;rcases h2 with h2|⟨g2,o2,e1,hs,hl2,hc2⟩
       . exact .inl h2
       . refine .inr ⟨g2,o2,e1,hs,by simpa using hl2,fun j y hy c u hu=>?_⟩;have h3:=hc2 j y hy c u hu;by_cases hg2:g2=w.heap.size
         . exfalso;have h4:=HROW.out;rw[<- hg2]at h4;unfold VRow at h4;have hc0:c=0:=by have:=(zF.1 hu).1;simp at this;exact this
           subst hc0;simp at hu;subst hu;simp only[World.cell?,h4]at h3;have h5:=zC (by simpa using h3);rcases zM.1 h5 with h6|h6
           . obtain⟨r2,hr2,e2⟩:=zV.1 h6;obtain⟨_,_,e3,_⟩:=HATS.out r2 hr2;rw[e3]at e2;cases e2
           . have:=List.eq_of_mem_replicate h6;cases this
         . have hb:(wx.setCell ⟨w.heap.size,i,none⟩ (.slice (some ⟨g,off+i,none⟩) 1 (cap-i))).heap[g2]?=wx.heap[g2]?:=zN _ _ _ _ hg2;simpa only[World.cell?,hb]using h3
     . rw[zK.1 hr];exact HNS.out)
    have HM2:Hid ((L++[((.slice (some ⟨g,off+i,none⟩) 1 (cap-i):Value),[x])]).map (·.2)=(l.take (i+1)).map (fun x=>[x])):=zA (by
     rw[yK,HMAP.out,zS,hx];simp)
    clear hx hcell hsl;go_wp2;go_roundw
    case rel=>exact⟨i+1,_,by omega,by go_num,by rw[zG,HLL.out];rfl,HM2.out,HA2.out,HR2.out,HB2.out⟩
    case measure=>simp[intOf];omega
  . have hltI:¬(i:Int)<(n:Int):=by omega
    have hin:i=n:=by omega
    go_wp2;go_ret;refine⟨L,by rw[<- HN.out];rfl,?_,?_,HATS.out,HBW.out⟩
    . have:=HROW.out;rw[hin,Nat.sub_self]at this;rw[flat_row];simpa using this
    . have:=HMAP.out;rw[hin,HN.out,List.take_length]at this;exact this
def endsL(d:Sd)(s:Ss):List Nat:=sortN (s.seen.filter fun v=>decide (s.came.getD v 0 &&& d.last≠0))
theorem endsL_spec{d:Sd}{s:Ss}(h:Rest d s):(endsL d s).Pairwise (·<·)/\∀v,v∈endsL d s↔s.came.getD v 0 &&& d.last≠0:=by
 refine⟨sortN_rise (List.Pairwise.filter _ h.nd),fun v=>?_⟩;unfold endsL;rw[(sortN_perm _).mem_iff,zY,decide_eq_true_eq];refine⟨fun h1=>h1.2,fun h1=>⟨h.sn v (fun h2=>h1 (by rw[h2];simp)),h1⟩⟩
theorem filt_take{l:List Nat}{p:Nat->Bool}{i x:Nat}(h:l[i]?=some x):(l.take (i+1)).filter p=(l.take i).filter p++(if p x=true then [x]else []):=by
 rw[zS,h,yR,List.filter_append];congr 1;by_cases hp:p x=true
 . rw[if_pos hp];simp[hp]
 . rw[if_neg hp];simp[hp]
set_option maxHeartbeats 4000000 in
theorem ends_any{S:Nat->Prop}{w:World}{sb:Nat}{d:Sd}{s:Ss}{m:Sp}(h:SrS S w sb d s m)(hr:Rest d s)(hsl:s.seen.length<=1000000):
 Calls Tryz.prog 35 #[.pointer (some ⟨sb,0,none⟩)] w fun e w'=>∃v,e=.returned v/\w'.ownsRow w.heap.size 3 1 v (endsL d s).length ((endsL d s).flatMap csI)/\Below w.heap.size w w':=by
 obtain⟨i0,hi0,hz0,hz1,hz2⟩:=info_partsG infoZG;have H:=zA h;have HR:=zA hr;obtain⟨P,hP⟩:∃P:Nat->Bool,P=fun v=>decide (s.came.getD v 0 &&& d.last≠0):=⟨_,rfl⟩
 have HC:Hid (∀wr v,Below w.heap.size w wr->v<d.n->Calls Tryz.prog 62 #[.pointer (some ⟨sb,0,none⟩),.int .i64 (v:Int)] wr fun e w'=>e=.returned (.bool (P v))/\w'=wr.drew):=zA (fun wr v hb hv=>by rw[hP];exact endsAt_any (H.out.below hb) HR.out.cl HR.out.cb hv);obtain⟨R,hR⟩:∃R,R=endsL d s:=⟨_,rfl⟩
 rw[<- hR];have HRR:Hid (R=sortN (s.seen.filter P)):=zA (by rw[hR,hP];rfl);obtain⟨sa,sc,hsv⟩:=own_slice h.seen;obtain⟨n,hn⟩:∃n,n=s.seen.length:=⟨_,rfl⟩
 rw[<- hn]at hsv hsl;have HN:=zA hn;have g29:=h.cells.2.2.2.2.1;rw[hsv]at g29;have HSV:Hid (∀(i x:Nat),s.seen[i]?=some x->∃g off,sa=some ⟨g,off,none⟩/\g<w.heap.size/\w.cell? ⟨g,off+i,none⟩=some (.int .i64 (x:Int))):=zA (fun i x hx=>by
  have h1:=own_nat H.out.seen;rw[hsv]at h1;obtain⟨g,off,e1,_,e3,e4⟩:=h1.get hx;have e5:=getI e4;rw[yD]at e5;exact⟨g,off,e1,e3,e5⟩)
 clear h hr hP hR hn hsv;go_enter Tryz.func35,Tryz.ntmps35;go_wp2_with fail;go_loopw [3,11] (fun vl c wr=>∃(i:Nat) (u:Value),u=vl/\i<=n/\c=.int .i64 i/\wr.ownsRow w.heap.size 3 1 u ((s.seen.take i).filter P).length (((s.seen.take i).filter P).flatMap csI)/\Below w.heap.size w wr) (fun _ c _=>n-(intOf c).toNat)
 case atStart=>exact⟨0,.slice none 0 0,rfl,zO _,rfl,World.ownsRow_nil _ _ _ _,zE _ _⟩
 case round=>
  obtain⟨i,u,rfl,hi,rfl,hrow,hbq⟩:=hrel;obtain⟨wx,hwx⟩:∃wx,wx=wr:=⟨_,rfl⟩
  subst hwx;obtain⟨X,hX⟩:∃X,X=(s.seen.take i).filter P:=⟨_,rfl⟩
  rw[<- hX]at hrow;have hXl:X.length<=1000000:=by
   rw[hX];have h1:=yF P (s.seen.take i);rw[zX,<- HN.out]at h1;omega
  obtain⟨ua,uc,hu⟩:=own_slice hrow;obtain⟨nu,hnu⟩:∃n,n=X.length:=⟨_,rfl⟩
  rw[<- hnu]at hu hXl;subst hu;have HROW:Hid (wx.ownsRow w.heap.size 3 1 (.slice ua nu uc) nu (X.flatMap csI)):=zA (by rw[hnu];rw[hnu]at hrow;exact hrow);have HX:=zA hX;have HNU:=zA hnu;have HBQ:=zA hbq;have hsx:w.heap.size<=wx.heap.size:=hbq.size;clear hrow hbq hX hnu;by_cases hlt:i<n
  . have hltI:(i:Int)<(n:Int):=by omega
    obtain⟨x,hx⟩:∃x,s.seen[i]?=some x:=⟨_,zB (by rw[<- HN.out];exact hlt)⟩
    obtain⟨g,off,hsa,hgl,q0⟩:=HSV.out i x hx;subst hsa;have q1:wx.cell? ⟨g,off+i,none⟩=some (.int .i64 (x:Int)):=(HBQ.out.cell (p:=⟨g,off+i,none⟩) hgl).trans q0;have C:=zA (HC.out wx x HBQ.out (HR.out.slt x (zC hx)));have HT:=zA (filt_take (p:=P) hx);rw[<- HX.out]at HT;clear hx q0;cases hp:P x with
    |true=>
     rw[hp]at C HT;rw[if_pos rfl]at HT;clear hp;go_wp2_with fail;refine C.out.mono ?_;rintro e w1 ⟨rfl,rfl⟩;obtain⟨wy,hwy⟩:∃wy,wy=wx.drew:=⟨_,rfl⟩
     have hby:Below wx.heap.size wx wy:=by rw[hwy];exact(zE _ _).drew
     have HRY:=zA (owns_below HROW.out hby);have HBY:=zA (HBQ.out.trans (hby.mono HBQ.out.size));have hsy:w.heap.size<=wy.heap.size:=zT hsx hby.size;rw[<- hwy];clear hwy hby q1;go_wp2_with (at_builtin;refine wpList_append_lies _ rfl _ _ _ rfl w.heap.size 3 i0 _ 1 8 Tryz.underlying59 hi0 hz0 hz1 hz2 rfl (by decide) (.slice ua nu uc) _ _ (by rfl) (HRY.out.alloc _) ⟨wy.heap.size,0,none⟩ 1 1 (csI x) (by rfl) (by rfl) ?d1 ?d2 (by decide) ?d3 ?d4 ?d5 (wy.heap.size+1) (by simp) ?_)
     case d1=>exact World.news_of_block (cs:=#[.int .i64 (x:Int)]) (t:=3) (fr:=(0,0)) (heap_alloc_new wy _)
     case d2=>simp[Value.oneCell']
     case d3=>unfold maxLen;omega
     case d4=>omega
     case d5=>simp;omega
     intro gg cap2 w9 hown9 hgrow9 hat9 hlt9;have ba:Below wy.heap.size wy (wy.alloc (.cells #[.int .i64 (x:Int)] 3)):=(zE _ _).alloc (zD _) _;have HB9:Hid (Below w.heap.size w w9):=zA ((HBY.out.trans (ba.mono HBY.out.size)).grown hgrow9 (by simp;omega) (fun k e=>(HRY.out.lt k e).1));have HR9:Hid (w9.ownsRow w.heap.size 3 1 (.slice (some ⟨gg,0,none⟩) (nu+1) cap2) ((s.seen.take (i+1)).filter P).length (((s.seen.take (i+1)).filter P).flatMap csI)):=zA (by
      rw[HT.out,zG,<- HNU.out,zR];exact hown9)
     clear hown9 hgrow9 hat9 hlt9 ba;go_wp2;go_roundw
     case rel=>exact⟨i+1,_,rfl,by omega,by go_num,HR9.out,HB9.out⟩
     case measure=>simp[intOf];omega
    |false=>
     rw[hp]at C HT;rw[if_neg (by decide),List.append_nil]at HT;clear hp;go_wp2_with fail;refine C.out.mono ?_;rintro e w1 ⟨rfl,rfl⟩;have HR9:Hid (wx.drew.ownsRow w.heap.size 3 1 (.slice ua nu uc) ((s.seen.take (i+1)).filter P).length (((s.seen.take (i+1)).filter P).flatMap csI)):=zA (by
      rw[HT.out,<- HNU.out];exact HROW.out.drew)
     have HB9:=zA HBQ.out.drew;go_wp2;go_roundw
     case rel=>exact⟨i+1,_,rfl,by omega,by go_num,HR9.out,HB9.out⟩
     case measure=>simp[intOf];omega
  . have hltI:¬(i:Int)<(n:Int):=by omega
    have HF:Hid (X=s.seen.filter P):=zA (by rw[HX.out,zJ (by rw[<- HN.out];omega)]);have C:=zA (sortI_any (by have:=HROW.out;rw[HNU.out]at this;exact this) (by have:=HNU.out;omega));rw[<- HNU.out]at C;go_wp2_with fail;refine C.out.mono ?_;rintro e w1 ⟨rfl,hown,hgr⟩;have HB9:Hid (Below w.heap.size w w1):=zA (HBQ.out.grown hgr hsx (fun k e=>(HROW.out.lt k e).1));have HR9:Hid (w1.ownsRow w.heap.size 3 1 (.slice ua nu uc) R.length (R.flatMap csI)):=zA (by
     rw[HRR.out,<- HF.out,(sortN_perm X).length_eq,<- HNU.out];exact hown)
    clear hown hgr;go_wp2;go_ret;exact⟨_,rfl,HR9.out,HB9.out⟩
set_option maxHeartbeats 1000000 in
theorem placesOf_any{S:Nat->Prop}{w:World}{v:Value}{L:List Int}(h:IntZ S w v L)(hl:L.length<=1000000)(hz:∀z∈L,0<=z/\z<24):
 Calls Tryz.prog 57 #[v] w fun e w'=>e=.returned (.int .u32 (setN L:Int))/\w'=w:=by
 obtain⟨ao,cap,rfl⟩:=h.slice;have H:=zA h;obtain⟨n,hn⟩:∃n,n=L.length:=⟨_,rfl⟩
 rw[<- hn]at hl H ⊢;have HN:=zA hn;have HZ:=zA hz;obtain⟨ans,hans⟩:∃a,a=setN L:=⟨_,rfl⟩
 rw[<- hans];have HA:=zA hans;clear h hn hans hz;go_enter Tryz.func57,Tryz.ntmps57;go_wp2_with fail;go_loopw [3,8] (fun s c wr=>∃(i x:Nat),i<=n/\c=.int .i64 i/\s=.int .u32 (x:Int)/\setN (L.take i)=x/\wr=w) (fun _ c _=>n-(intOf c).toNat)
 case atStart=>exact⟨0,0,zO _,rfl,rfl,rfl,rfl⟩
 case round=>
  obtain⟨i,x,hi,rfl,rfl,hx,rfl⟩:=hrel;have hxl:x<16777216:=by rw[<- hx];exact setN_lt (fun z hz=>(HZ.out z (List.mem_of_mem_take hz)).2)
  have HX:=zA hx;clear hx;by_cases hlt:i<n
  . have hltI:(i:Int)<(n:Int):=by omega
    obtain⟨z,hz⟩:∃z,L[i]?=some z:=⟨_,zB (by rw[<- HN.out];exact hlt)⟩
    obtain⟨g,off,rfl,_,_,hcell⟩:=H.out.get hz;have q0:=getZ hcell;rw[yD]at q0;obtain⟨h0,h24⟩:=HZ.out z (zC hz);obtain⟨p,rfl⟩:∃p:Nat,z=p:=⟨z.toNat,by omega⟩
    have hp:p<24:=by omega
    have C:=zA (onlyM_any p wr (by omega));have hpow:=pow_lt24 hp;have HS:Hid (setN (L.take (i+1))=x ||| 2^p):=zA (by
     rw[setN,foldl_take hz];show setN (L.take i) ||| _=_;rw[HX.out];rfl)
    obtain⟨q,hqe⟩:∃q,q=2^p:=⟨_,rfl⟩
    rw[<- hqe]at C HS hpow;have hb:bits .or .u32 (x:Int) (q:Int)=((x ||| q:Nat):Int):=u32_or_nat x q (by omega) (by omega);clear hqe hcell hz h0 h24;go_wp2_with fail;refine C.out.mono ?_;rintro e w1 ⟨rfl,rfl⟩;go_wp2;go_roundw
    case rel=>exact⟨i+1,x ||| q,by omega,by go_num,rfl,HS.out,by trivial⟩
    case measure=>simp[intOf];omega
  . have hltI:¬(i:Int)<(n:Int):=by omega
    have HF:Hid (ans=x):=zA (by
     rw[HA.out,<- HX.out,zJ (by rw[<- HN.out];omega)])
    go_wp2;go_ret;exact⟨by rw[HF.out];rfl,rfl⟩
theorem alloc_getG(w:World)(o:Obj)(k:Nat):(w.alloc o).heap[k]?=if k=w.heap.size then some o else w.heap[k]?:=by
 unfold World.alloc;rw[Array.getElem?_push]
theorem get_atG:∀(os:List Obj) (w:World) (k:Nat),k<os.length->(os.foldl World.alloc w).heap[w.heap.size+k]?=os[k]?
 |[],_,k,h=>by simp at h
 |o::os,w,0,_=>by
  have key:∀(os:List Obj) (w:World) (j:Nat),j<w.heap.size->(os.foldl World.alloc w).heap[j]?=w.heap[j]?:=by
   intro os;induction os with
   |nil=>intro w j _;rfl
   |cons o os ih=>intro w j hj;rw[yM,ih (w.alloc o) j (by simp;omega),alloc_getG,if_neg (by omega)]
  rw[yM,key os (w.alloc o) _ (by simp),alloc_getG,if_pos (yA _)];rfl
 |o::os,w,k+1,h=>by
  have:=get_atG os (w.alloc o) k (by simpa using h);rw[yM,<- show (w.alloc o).heap.size+k=w.heap.size+(k+1) by simp;omega,this];rfl
def behA(a:Au)(p:Nat):Nat:=if p=24 then setN a.first else setN (a.follow.getD p [])
def lastA(a:Au):Nat:=if a.empty=true then setN a.last ||| 16777216 else setN a.last
def atW(a:Au)(s:Wd):Nat:=wsetN a.words s a.words.length
def stepsOf(a:Au)(E:List Eg)(v:Nat):List (Nat×Nat):=E.filterMap fun e=>if e.1=v/\atW a e.2.1≠0 then some (e.2.2,atW a e.2.1)else none
def sdOf(kp:Nat->Prop)(n:Nat)(E:List Eg)(a:Au):Sd:=⟨n,behA a,lastA a,(List.range n).map (stepsOf a E),kp⟩
abbrev noK:Nat->Prop:=fun _=>False
def updB(f:Nat->Nat)(j x:Nat):Nat->Nat:=fun i=>if i=j then x else f i
theorem sr_setB(n l:Nat)(f:Nat->Nat)(st:List (List (Nat×Nat)))(m:Sp)(x:Nat):∀j,j<25->(srCells ⟨n,f,l,st,noK⟩ m).setIfInBounds j (.int .u32 (x:Int))=srCells ⟨n,updB f j x,l,st,noK⟩ m
 |0,_|1,_|2,_|3,_|4,_|5,_|6,_|7,_|8,_|9,_|10,_|11,_|12,_|13,_|14,_|15,_|16,_|17,_|18,_|19,_|20,_|21,_|22,_|23,_|24,_=>by simp[srCells,updB]
 |j+25,h=>by omega
theorem sr_set25(n l:Nat)(f:Nat->Nat)(st:List (List (Nat×Nat)))(m:Sp)(x:Nat):(srCells ⟨n,f,l,st,noK⟩ m).setIfInBounds 25 (.int .u32 (x:Int))=srCells ⟨n,f,x,st,noK⟩ m:=by
 simp[srCells]
structure SrC (B:Nat) (w:World) (sb stb cb fb n l:Nat) (f:Nat->Nat) (rs:List (Value×List (Nat×Nat))):Prop where
 blk:w.heap[sb]?=some (.cells (srCells ⟨n,f,l,[],noK⟩ ⟨cb,fb,.slice none 0 0,.slice none 0 0,.slice (some ⟨stb,0,none⟩) n n,[]⟩) 116 (0,0))
 came:URow w cb (List.replicate n 0)
 fresh:URow w fb (List.replicate n 0)
 st:VRow w stb 119 (rs.map (·.1))
 len:rs.length=n
 rows:∀r∈rs,w.ownsRow B 121 2 r.1 r.2.length (r.2.flatMap csSt)
 apart:∀(i j:Nat) r q,rs[i]?=some r->rs[j]?=some q->i≠j->∀g,r.1.ownBlock=some g->q.1.ownBlock≠some g
 cf:cb≠fb
 lo:B<=sb/\B<=stb/\B<=cb/\B<=fb
section
variable {B:Nat} {w:World} {sb stb cb fb n l:Nat} {f:Nat->Nat} {rs:List (Value×List (Nat×Nat))}
theorem SrC.below{w':World}(h:SrC B w sb stb cb fb n l f rs)(hb:Below w.heap.size w w'):SrC B w' sb stb cb fb n l f rs:=
 { h with
  blk:=(hb.block sb (lt_of_block h.blk)).trans h.blk
  came:=(hb.block cb (lt_of_block h.came)).trans h.came
  fresh:=(hb.block fb (lt_of_block h.fresh)).trans h.fresh
  st:=h.st.below hb
  rows:=fun r hr=>owns_below (h.rows r hr) hb }
theorem SrC.setSb{w':World}(h:SrC B w sb stb cb fb n l f rs){l':Nat}{f':Nat->Nat}(hb:w'.heap[sb]?=some (.cells (srCells ⟨n,f',l',[],noK⟩ ⟨cb,fb,.slice none 0 0,.slice none 0 0,.slice (some ⟨stb,0,none⟩) n n,[]⟩) 116 (0,0)))(ho:∀k,k≠sb->w'.heap[k]?=w.heap[k]?):SrC B w' sb stb cb fb n l' f' rs:=
 { h with
  blk:=hb
  came:=(ho cb (fun e=>blk_neG h.blk h.came (by decide) e.symm)).trans h.came
  fresh:=(ho fb (fun e=>blk_neG h.blk h.fresh (by decide) e.symm)).trans h.fresh
  st:=(ho stb (fun e=>blk_neG h.blk h.st (by decide) e.symm)).trans h.st
  rows:=fun r hr=>owns_key (h.rows r hr) (fun g o hg hg2=>(ho g (fun e=>own_neG (h.rows r hr) h.blk (by decide) (by rw[hg,e]))).trans hg2) }
theorem SrC.setBeh(h:SrC B w sb stb cb fb n l f rs){j:Nat}(hj:j<25)(x:Nat):SrC B (w.setCell ⟨sb,j,none⟩ (.int .u32 (x:Int))) sb stb cb fb n l (updB f j x) rs:=
 h.setSb (by simp[World.setCell,Array.getElem?_modify,h.blk,sr_setB _ _ _ _ _ _ j hj]) (fun k hk=>zN _ _ _ _ hk)
theorem SrC.setLast(h:SrC B w sb stb cb fb n l f rs)(x:Nat):SrC B (w.setCell ⟨sb,25,none⟩ (.int .u32 (x:Int))) sb stb cb fb n x f rs:=
 h.setSb (by simp[World.setCell,Array.getElem?_modify,h.blk,sr_set25]) (fun k hk=>zN _ _ _ _ hk)
theorem SrC.behAt(h:SrC B w sb stb cb fb n l f rs){j:Nat}(hj:j<25):w.cell? ⟨sb,j,none⟩=some (.int .u32 (f j:Int))/\w.frozen? ⟨sb,j,none⟩=false:=by
 have hb:=h.blk;have:=sr_beh ⟨n,f,l,[],noK⟩ ⟨cb,fb,.slice none 0 0,.slice none 0 0,.slice (some ⟨stb,0,none⟩) n n,[]⟩ j hj;constructor
 . simp[World.cell?,hb,this]
 . simp[World.frozen?,hb]
theorem SrC.cells(h:SrC B w sb stb cb fb n l f rs):w.cell? ⟨sb,25,none⟩=some (.int .u32 (l:Int))/\w.frozen? ⟨sb,25,none⟩=false/\w.cell? ⟨sb,26,none⟩=some (.slice (some ⟨stb,0,none⟩) n n):=by
 have hb:=h.blk;simp[World.cell?,World.frozen?,hb,srCells]
theorem SrC.setRow{w':World}(h:SrC B w sb stb cb fb n l f rs){i:Nat}{r:Value×List (Nat×Nat)}(hi:rs[i]?=some r){v:Value}{L:List (Nat×Nat)}(hk:∀k,k<w.heap.size->r.1.ownBlock≠some k->w'.heap[k]?=w.heap[k]?)(hv:w'.ownsRow B 121 2 v L.length (L.flatMap csSt))(hg:∀g,v.ownBlock=some g->r.1.ownBlock=some g\/w.heap.size<=g):
 SrC B (w'.setCell ⟨stb,i,none⟩ v) sb stb cb fb n l f (rs.set i (v,L)):=by
 have hrm:=zC hi;have hrow:=h.rows r hrm;have hil:=(zF.1 hi).1;have hset:∀j,(rs.set i (v,L))[j]?=if i=j then some (v,L)else rs[j]?:=fun j=>by
  rw[List.getElem?_set];simp[hil]
 have hsb:=(hk sb (lt_of_block h.blk) (own_neG hrow h.blk (by decide))).trans h.blk;have hcb:URow w' cb _:=(hk cb (lt_of_block h.came) (own_neG hrow h.came (by decide))).trans h.came;have hfb:URow w' fb _:=(hk fb (lt_of_block h.fresh) (own_neG hrow h.fresh (by decide))).trans h.fresh;have hst:VRow w' stb _ _:=(hk stb (lt_of_block h.st) (own_neG hrow h.st (by decide))).trans h.st;have ho:∀k,k≠stb->(w'.setCell ⟨stb,i,none⟩ v).heap[k]?=w'.heap[k]?:=fun k hk=>zN _ _ _ _ hk
 have hother:∀j q,rs[j]?=some q->j≠i->w'.ownsRow B 121 2 q.1 q.2.length (q.2.flatMap csSt):=fun j q hq hji=>owns_key (h.rows q (zC hq)) (fun g o hg2 ho2=>(hk g (lt_of_block ho2) (fun e=>h.apart i j r q hi hq (fun e2=>hji e2.symm) g e hg2)).trans ho2)
 have hst2:∀ {u:Value} {M:List (Nat×Nat)},w'.ownsRow B 121 2 u M.length (M.flatMap csSt)->(w'.setCell ⟨stb,i,none⟩ v).ownsRow B 121 2 u M.length (M.flatMap csSt):=fun hu=>owns_key hu (fun g o hg2 ho2=>(ho g (fun e=>own_neG hu hst (by decide) (by rw[hg2,e]))).trans ho2)
 refine⟨(ho sb (blk_neG hsb hst (by decide))).trans hsb,(ho cb (blk_neG hcb hst (by decide))).trans hcb,(ho fb (blk_neG hfb hst (by decide))).trans hfb,?_,by rw[List.length_set];exact h.len,?_,?_,h.cf,h.lo⟩
 . rw[List.map_set];exact hst.set i v
 . intro q hq;obtain⟨j,hj⟩:=List.getElem?_of_mem hq;rw[hset]at hj;split at hj
   . injection hj with hj;subst hj;exact hst2 hv
   . rename_i hne;exact hst2 (hother j q hj (fun e=>hne e.symm))
 . intro a b p q hp hq hab g hpg hqg;rw[hset]at hp hq;split at hp
   . rename_i ea;injection hp with hp;subst hp;rw[if_neg (fun e=>hab (ea.symm.trans e))]at hq;rcases hg g hpg with h1|h1
     . exact h.apart i b r q hi hq (by omega) g h1 hqg
     . have:=(h.rows q (zC hq)).lt g hqg;omega
   . rename_i ea;split at hq
     . rename_i eb;injection hq with hq;subst hq;rcases hg g hqg with h1|h1
       . exact h.apart a i p r hp hi (by omega) g hpg h1
       . have:=(h.rows p (zC hp)).lt g hpg;omega
     . exact h.apart a b p q hp hq hab g hpg hqg
end
def NewE(w:World)(n:Nat)(E:List Eg)(a:Au)(e:Ending)(w':World):Prop:=
 ∃(sb:Nat) (m:Sp) (kp:Nat->Prop),e=.returned (.pointer (some ⟨sb,0,none⟩))/\SrS (fun k=>k<w'.heap.size/\¬OwnB sb m k) w' sb (sdOf kp n E a) ⟨List.replicate n 0,List.replicate n 0,[],[]⟩ m/\(∀k,OwnB sb m k->w.heap.size<=k)/\(∀k,kp k->w.heap.size<=k/\k<w'.heap.size)/\Below w.heap.size w w'
theorem rest_new(d:Sd):Rest d ⟨List.replicate d.n 0,List.replicate d.n 0,[],[]⟩:=by
 have hz:∀v,(List.replicate d.n 0).getD v 0=0:=fun v=>by
  rw[List.getD,List.getElem?_replicate];split<;>rfl
 exact⟨by simp,by simp,fun x hx=>by rw[List.eq_of_mem_replicate hx];omega,hz,rfl,fun v hv=>absurd (hz v) hv,by simp,by simp,by simp,by simp⟩
theorem SrC.done{B:Nat}{w:World}{sb stb cb fb n l:Nat}{f:Nat->Nat}{rs:List (Value×List (Nat×Nat))}(h:SrC B w sb stb cb fb n l f rs){d:Sd}(hd:d.Ok)(e1:d.n=n)(e2:∀j,j<25->d.beh j=f j)(e3:d.last=l)(e4:d.steps=rs.map (·.2))(e5:∀k,d.kp k↔(k=stb\/∃r∈rs,r.1.ownBlock=some k)):
 SrS (fun k=>k<w.heap.size/\¬OwnB sb ⟨cb,fb,.slice none 0 0,.slice none 0 0,.slice (some ⟨stb,0,none⟩) n n,rs⟩ k) w sb d ⟨List.replicate d.n 0,List.replicate d.n 0,[],[]⟩ ⟨cb,fb,.slice none 0 0,.slice none 0 0,.slice (some ⟨stb,0,none⟩) n n,rs⟩:=by
 have hcells:srCells d ⟨cb,fb,.slice none 0 0,.slice none 0 0,.slice (some ⟨stb,0,none⟩) n n,rs⟩=srCells ⟨n,f,l,[],noK⟩ ⟨cb,fb,.slice none 0 0,.slice none 0 0,.slice (some ⟨stb,0,none⟩) n n,[]⟩:=by
  unfold srCells;simp only[e1,e3];rw[e2 0 (by omega),e2 1 (by omega),e2 2 (by omega),e2 3 (by omega),e2 4 (by omega),e2 5 (by omega),e2 6 (by omega),e2 7 (by omega),e2 8 (by omega),e2 9 (by omega),e2 10 (by omega),e2 11 (by omega),e2 12 (by omega),e2 13 (by omega),e2 14 (by omega),e2 15 (by omega),e2 16 (by omega),e2 17 (by omega),e2 18 (by omega),e2 19 (by omega),e2 20 (by omega),e2 21 (by omega),e2 22 (by omega),e2 23 (by omega),e2 24 (by omega)]
 have hown:∀k,k≠sb->k≠cb->k≠fb->¬OwnB sb ⟨cb,fb,.slice none 0 0,.slice none 0 0,.slice (some ⟨stb,0,none⟩) n n,rs⟩ k:=fun k h1 h2 h3 h4=>by
  rcases h4 with h4|h4|h4|h4|h4
  . exact h1 h4
  . exact h2 h4
  . exact h3 h4
  . simp[Value.ownBlock]at h4
  . simp[Value.ownBlock]at h4
 have hkp:∀k,d.kp k->k<w.heap.size/\¬OwnB sb ⟨cb,fb,.slice none 0 0,.slice none 0 0,.slice (some ⟨stb,0,none⟩) n n,rs⟩ k:=fun k hk=>by
  rcases (e5 k).1 hk with hk|⟨r,hr,hb⟩
  . subst hk;exact⟨lt_of_block h.st,hown _ (fun e=>blk_neG h.blk h.st (by decide) e.symm) (fun e=>blk_neG h.came h.st (by decide) e.symm) (fun e=>blk_neG h.fresh h.st (by decide) e.symm)⟩
  . exact⟨((h.rows r hr).lt k hb).2,hown _ (fun e=>own_neG (h.rows r hr) h.blk (by decide) (by rw[hb,e])) (fun e=>own_neG (h.rows r hr) h.came (by decide) (by rw[hb,e])) (fun e=>own_neG (h.rows r hr) h.fresh (by decide) (by rw[hb,e]))⟩
 refine⟨by rw[hcells];exact h.blk,by rw[e1];exact h.came,by rw[e1];exact h.fresh,⟨rfl,.inl ⟨rfl,rfl⟩⟩,⟨rfl,.inl ⟨rfl,rfl⟩⟩,fun hk=>hk.2 (.inl rfl),fun hk=>hk.2 (.inr (.inl rfl)),fun hk=>hk.2 (.inr (.inr (.inl rfl))),by intro g hg;simp[Value.ownBlock]at hg,by intro g hg;simp[Value.ownBlock]at hg,h.cf,by intro g hg;simp[Value.ownBlock]at hg,?_,fun r hr=>?_,hkp,e4.symm,hd⟩
 . have h1:=h.st;rw[<- flat_row]at h1;exact(h1.sl csRow_len h.len.symm).sub (fun b hb _=>(e5 b).2 (.inl hb))
 . exact(own_sl csSt_len (h.rows r hr) rfl).sub (fun b hb _=>(e5 b).2 (.inr ⟨r,hr,hb⟩))
end Go.Proofs.YtkbgmcmcpbegjaaGreatDoor
