/- QNames, QFault. -/
import Derived.Test.YtdalcipmpelifaaGreatDoorMG4
import Derived.Maps.AppendAt
import Derived.LaidEqlPtr
import Derived.Carry
set_option maxRecDepth 100000
namespace Go.Proofs.YtdalcipmpelifaaGreatDoor
open Go.RowKit
theorem lawQ:Maps.Keyed Tryz.prog 9:=Maps.string_keyed Tryz.underlying9
theorem keyQ(s:List UInt8)(hs:s.length<=140737488351232):keyOf Tryz.prog 9 (.string ⟨s.toArray⟩)=some (.string s):=by
 have:=WideMaps.keyOf_string_mk (P:=Tryz.prog) (k:=9) Tryz.underlying9 (s:=⟨s.toArray⟩) (by rw[size_list];unfold maxLen;omega);simpa using this
theorem zeroQU(w:World):(zeroValue 189).run Tryz.prog w=.ok (.agg #[]) w:=by kernel_rfl
theorem infoQS:(Tryz.prog.info? 9).map (fun i=>(i.zero,i.size,i.bytes))=some (some (.string ⟨#[]⟩),1,16):=by kernel_rfl
theorem idx0(a b c d:Value)(w:World):(Instr.index 188 (.agg #[a,b,c,d]) (.int .i64 0)).run Tryz.prog w=.ok (.agg #[a,b]) w:=by kernel_rfl
theorem idx1(a b c d:Value)(w:World):(Instr.index 188 (.agg #[a,b,c,d]) (.int .i64 1)).run Tryz.prog w=.ok (.agg #[c,d]) w:=by kernel_rfl
def Says(D:DataW Unit)(ns:List (List UInt8)):Prop:=∀s,Maps.has D (.string s)=decide (s∈ns)
theorem says_nil:Says (.map []) []:=fun s=>by simp[Maps.has]
theorem Says.put{D:DataW Unit}{ns:List (List UInt8)}{t:List UInt8}(h:Says D ns)(hm:Maps.IsMap D):Says (D.put (.string t) (.agg [])) (ns++[t]):=fun s=>by
 by_cases e:s=t
 . subst e;rw[Maps.has_put_same hm (show WideAt.IsKeyLit (.string s)from trivial)];simp
 . rw[Maps.has_put_other (by simpa using e),h s];simp[e]
theorem own_ne_mapQ{w:World}{B n b m:Nat}{e k:TypeId}{size:Nat}{v:Value}{xs:List Value}{R:Value->Option (DataW Unit×List MemPlace)}{D:DataW Unit}(h:w.ownsRow B e size v n xs)(hb:w.ownsMap Tryz.prog k R b m D):v.ownBlock≠some b:=by
 obtain⟨es,clock,hb,_⟩:=hb;intro hv;rcases h.2 with⟨rfl,_⟩|⟨g,cap,cur,rfl,_,e3,_⟩
 . simp[Value.ownBlock]at hv
 . have:g=b:=by simpa[Value.ownBlock]using hv
   subst this;rw[hb]at e3;cases e3
theorem map_keyQ{w w':World}{k:TypeId}{R:Value->Option (DataW Unit×List MemPlace)}{b n:Nat}{D:DataW Unit}(h:w.ownsMap Tryz.prog k R b n D)(key:∀o,w.heap[b]?=some o->w'.heap[b]?=some o):w'.ownsMap Tryz.prog k R b n D:=by
 obtain⟨es,clock,h1,h2⟩:=h;exact⟨es,clock,key _ h1,h2⟩
structure NmI (w wr:World) (mb:Nat) (v:Value) (D:DataW Unit) (ns:List (List UInt8)):Prop where
 row:wr.ownsRow w.heap.size 9 1 v ns.length (ns.flatMap csT)
 map:wr.ownsMap Tryz.prog 9 (unitElem (H:=Unit)) mb ns.length D
 says:Says D ns
 bel:Below w.heap.size w wr
theorem NmI.step{w wr wx:World}{mb:Nat}{v:Value}{D:DataW Unit}{ns:List (List UInt8)}(h:NmI w wr mb v D ns)(hb:Below wr.heap.size wr wx):NmI w wx mb v D ns:=
 ⟨owns_below h.row hb,map_keyQ h.map (fun _ ho=>(hb.block _ (lt_of_block ho)).trans ho),h.says,h.bel.trans (hb.mono h.bel.size)⟩
def nmJ(b:List (List UInt8))(a:Am)(j:Nat):List (List UInt8):=if j=0 then b else if j=1 then addN b a.1 else addN (addN b a.1) a.2.2
def NmT(w wr:World)(mb:Nat)(v:Value)(ns:List (List UInt8)):Prop:=∃D,NmI w wr mb v D ns
theorem take_pa{l:List Am}{i:Nat}{a:Am}(h:l[i]?=some a):(l.take (i+1)).map Am.pa=(l.take i).map Am.pa++[a.pa]:=by
 rw[zT,h];simp
theorem names_len(l:List Pa):(namesP l).length<=2*l.length:=by
 have key:∀(l:List Pa) (n:List (List UInt8)),(l.foldl (fun n a=>addN (addN n a.1) a.2.2) n).length<=n.length+2*l.length:=by
  intro l;induction l with
  |nil=>intro n;simp
  |cons a l ih=>
   intro n;have h1:=ih (addN (addN n a.1) a.2.2);have h2:=addN_len n a.1;have h3:=addN_len (addN n a.1) a.2.2;rw[yN,yE];omega
 simpa[namesP]using key l []
set_option maxHeartbeats 8000000 in
theorem names_any{S:Nat->Prop}{w:World}{q:Qm}(h:QOk S w q)(hal:q.atoms.length<=1000000000):
 Calls Tryz.prog 118 #[encQ q] w fun e w'=>∃v,e=.returned v/\w'.ownsRow w.heap.size 9 1 v (namesP (q.atoms.map Am.pa)).length ((namesP (q.atoms.map Am.pa)).flatMap csT)/\Below w.heap.size w w':=by
 obtain⟨va,vc,hvv⟩:=h.vs.slice;obtain⟨ao,cap,hv⟩:=h.ats.slice;obtain⟨i0,hi0,hz0,hz1,hz2⟩:=info_parts infoQS;obtain⟨vv,vars,av,atoms⟩:=q;dsimp only at hvv hv hal ⊢;subst hvv hv;have H:=zA h;obtain⟨n,hn⟩:∃n,n=atoms.length:=⟨_,rfl⟩
 rw[<- hn]at hal H ⊢;have HN:=zA hn;obtain⟨o,ho⟩:∃o,o=Obj.cells #[.slice va vars.length vc,.slice ao n cap] 47:=⟨_,rfl⟩
 have HO:=zA ho;have HB0:Hid (NmT w ((w.alloc o).alloc (.map #[] 0)) (w.heap.size+1) (.slice none 0 0) []):=zA ⟨.map [],by
  refine⟨World.ownsRow_nil _ _ _ _,?_,says_nil,((zF _ _).alloc (zD _) _).alloc (by simp) _⟩;have:=World.ownsMap_made (H:=Unit) (w.alloc o) Tryz.prog 9 unitElem;simpa using this⟩
 obtain⟨nv,hnv⟩:∃nv,nv=vars.length:=⟨_,rfl⟩
 rw[<- hnv]at HO ⊢;clear h hn ho hnv;have hmm:=@run_makeMap Tryz.prog;have hx0:=idx0;have hx1:=idx1;go_enter Tryz.func118,Tryz.ntmps118;go_wp2_with fail;go_loopw [3,15] (fun vl c wr=>∃(i:Nat) (v:Value),v=vl/\i<=n/\c=.int .i64 i/\NmT w wr (w.heap.size+1) v (namesP ((atoms.take i).map Am.pa))) (fun _ c _=>n-(intOf c).toNat)
 case atStart=>exact⟨0,_,rfl,zS _,rfl,by have:=HB0.out;rw[HO.out]at this;exact this⟩
 case round=>
  obtain⟨i,v,rfl,hi,rfl,hnt⟩:=hrel;have HT:=zA hnt;clear hnt;by_cases hlt:i<n
  . have hltI:(i:Int)<(n:Int):=by omega
    obtain⟨a,ha⟩:∃a,atoms[i]?=some a:=⟨_,zB (by rw[<- HN.out];exact hlt)⟩
    obtain⟨D0,hD0⟩:=HT.out;obtain⟨g,off,rfl,_,_,hcell⟩:=(H.out.ats.below hD0.bel).get ha;obtain⟨q0,q1,q2,q3,q4,q5,q6⟩:=getA hcell;have hfine:=H.out.fine a (zC ha);obtain⟨xa,xc,hxv⟩:=(H.out.ok a (zC ha)).parts.1.slice;have HA:=zA ha;obtain⟨wx,hwx⟩:∃wx,wx=wr:=⟨_,rfl⟩
    subst hwx;have HBx:=zA hD0.bel;obtain⟨B0,hB0⟩:∃B0,B0=namesP ((atoms.take i).map Am.pa):=⟨_,rfl⟩
    rw[<- hB0]at HT;have HBL:Hid (B0.length<=2000000000):=zA (by
     have:=names_len ((atoms.take i).map Am.pa);rw[<- hB0,zH,yL]at this;omega)
    have HNX:Hid (nmJ B0 a 2=namesP ((atoms.take (i+1)).map Am.pa)):=zA (by rw[take_pa HA.out,namesP_snoc,hB0];rfl);obtain⟨nx,hnx⟩:∃nx,nx=a.2.1.kids.length:=⟨_,rfl⟩
    rw[<- hnx]at hxv;obtain⟨⟨b1,n1⟩,⟨xk,xw,xv,xl⟩,⟨b2,n2⟩⟩:=a;dsimp only at q0 q1 q2 q3 q4 q5 q6 hxv hfine;subst hxv;have HF1:Hid (n1.length<=140737488351232):=zA hfine.1;have HF2:Hid (n2.length<=140737488351232):=zA hfine.2;have HTa:Hid (∀o,NmT w (wx.alloc o) (w.heap.size+1) v B0):=zA (fun o=>by
     obtain⟨D,hD⟩:=HT.out;exact⟨D,hD.step ((zF _ _).alloc (zD _) _)⟩)
    clear ha hcell hfine hnx hD0 hB0 D0;go_wp2_with fail;go_loopw [3,24] (fun vl c wr=>∃(j:Nat) (v:Value),v=vl/\j<=2/\c=.int .i64 j/\NmT w wr (w.heap.size+1) v (nmJ B0 ((b1,n1),⟨xk,xw,.slice xa nx xc,xl⟩,(b2,n2)) j)) (fun _ c _=>2-(intOf c).toNat)
    case atStart=>exact⟨0,_,rfl,zS _,rfl,HTa.out _⟩
    case round=>
     obtain⟨j,v2,rfl,hj,rfl,hnt⟩:=hrel;have HT2:=zA hnt;clear hnt;obtain⟨wy,hwy⟩:∃wy,wy=wr:=⟨_,rfl⟩
     subst hwy;obtain rfl|rfl|rfl:j=0\/j=1\/j=2:=by omega
     . obtain⟨D,hD⟩:=HT2.out;obtain⟨ns,hns⟩:∃ns,ns=nmJ B0 ((b1,n1),⟨xk,xw,.slice xa nx xc,xl⟩,(b2,n2)) 0:=⟨_,rfl⟩
       rw[<- hns]at hD;obtain⟨av,cv,hvl⟩:=own_slice hD.row;obtain⟨nl,hnl⟩:∃nl,nl=ns.length:=⟨_,rfl⟩
       rw[<- hnl]at hvl;subst hvl;have HNL:=zA hnl;have HD:=zA hD;have HNX2:Hid (nmJ B0 ((b1,n1),⟨xk,xw,.slice xa nx xc,xl⟩,(b2,n2)) (0+1)=addN ns (b1,n1)):=zA (by rw[hns];rfl);have HLN:nl<=2000000001:=by
        have h1:=HBL.out;have h2:=addN_len B0 (b1,n1);rw[hnl,hns];simp only[nmJ,if_true];omega
       have HK:=zA (keyQ n1 HF1.out);have hszy:w.heap.size<=wy.heap.size:=hD.bel.size;clear hD hns hnl;have HDa:Hid (∀o,NmI w (wy.alloc o) (w.heap.size+1) (.slice av nl cv) D ns):=zA (fun o=>HD.out.step ((zF _ _).alloc (zD _) _));obtain⟨m,hm⟩:∃m,m=decide (n1∈ns):=⟨_,rfl⟩
       have HS:Hid (Maps.has D (.string n1)=m):=zA (by rw[HD.out.says,hm]);have HM:=zA hm;clear hm;cases m with
       |true=>
        have HE:Hid (∀wz,NmI w wz (w.heap.size+1) (.slice av nl cv) D ns->NmT w wz (w.heap.size+1) (.slice av nl cv) (nmJ B0 ((b1,n1),⟨xk,xw,.slice xa nx xc,xl⟩,(b2,n2)) (0+1))):=zA (fun wz h=>by
         rw[HNX2.out];refine⟨D,?_⟩;rw[addN,if_neg (fun hh=>hh.2 (of_decide_eq_true HM.out.symm))];exact h)
        go_wp2_with (at_lookup;refine wpList_lookup_own_unit _ rfl _ _ 187 rfl 9 189 lawQ Tryz.underlying187 (zeroQU _) (w.heap.size+1) _ D rfl (HDa.out _).map _ _ rfl HK.out ?_;rw[HS.out]);go_roundw
        case rel=>exact⟨0+1,_,rfl,by omega,by go_num,HE.out _ ((HDa.out _).step ((zF _ _).alloc (zD _) _))⟩
        case measure=>simp[intOf]
       |false=>
        cases b1 with
        |false=>
         have HE:Hid (∀wz,NmI w wz (w.heap.size+1) (.slice av nl cv) D ns->NmT w wz (w.heap.size+1) (.slice av nl cv) (nmJ B0 ((false,n1),⟨xk,xw,.slice xa nx xc,xl⟩,(b2,n2)) (0+1))):=zA (fun wz h=>by
          rw[HNX2.out];refine⟨D,?_⟩;rw[addN,if_neg (fun hh=>by cases hh.1)];exact h)
         go_wp2_with (at_lookup;refine wpList_lookup_own_unit _ rfl _ _ 187 rfl 9 189 lawQ Tryz.underlying187 (zeroQU _) (w.heap.size+1) _ D rfl (HDa.out _).map _ _ rfl HK.out ?_;rw[HS.out]);go_roundw
         case rel=>exact⟨0+1,_,rfl,by omega,by go_num,HE.out _ ((HDa.out _).step ((zF _ _).alloc (zD _) _))⟩
         case measure=>simp[intOf]
        |true=>
         have HE:Hid (addN ns (true,n1)=ns++[n1]):=zA (by rw[addN,if_pos ⟨rfl,of_decide_eq_false HM.out.symm⟩]);obtain⟨WZ,hWZ⟩:∃WZ,WZ=(wy.alloc (.cells #[.bool true,.string ⟨n1.toArray⟩] 42)).alloc (.cells #[] 189):=⟨_,rfl⟩
         have hbz:Below wy.heap.size wy WZ:=by rw[hWZ];exact((zF _ _).alloc (zD _) _).alloc (by simp) _
         have HDz:Hid (NmI w WZ (w.heap.size+1) (.slice av nl cv) D ns):=zA (HD.out.step hbz);have HCz:Hid (WZ.heap[wy.heap.size]?=some (.cells #[.bool true,.string ⟨n1.toArray⟩] 42 (0,0))):=zA (by
          rw[hWZ,((zF _ (wy.alloc _)).alloc (zD _) _).block wy.heap.size (by simp),heap_alloc_new])
         have HMN:Hid (w.heap.size+1<wy.heap.size):=zA HD.out.map.lt;have HWZ:=zA hWZ;have hszz:w.heap.size<=WZ.heap.size:=HDz.out.bel.size;have HFX:Hid (n1.length<=140737488351232):=zA HF1.out;clear hbz hWZ;have HDaa:Hid (∀o1 o2,NmI w ((wy.alloc o1).alloc o2) (w.heap.size+1) (.slice av nl cv) D ns):=zA (fun o1 o2=>(HDa.out o1).step ((zF _ _).alloc (zD _) _));go_wp2_with (first|(at_lookup;refine wpList_lookup_own_unit _ rfl _ _ 187 rfl 9 189 lawQ Tryz.underlying187 (zeroQU _) (w.heap.size+1) _ D rfl (HDa.out _).map _ _ rfl HK.out ?_;rw[HS.out])|(at_mapUpdate;refine wpList_mapUpdate_own _ rfl _ _ _ 187 rfl 9 189 lawQ Tryz.underlying187 _ (w.heap.size+1) _ D rfl (HDaa.out _ _).map ?m1 _ _ _ rfl rfl HK.out _ [] unitElem_mk ?_))
         case m1=>have:=HNL.out;unfold maxLen;omega
         intro w2 hown2 hgrow2;rw[<- HWZ.out]at hgrow2;have hc2:=(hgrow2.block wy.heap.size (lt_of_block HCz.out) (fun e=>by have:=HMN.out;injection e with e;omega)).trans HCz.out;have c1:w2.cell? ⟨wy.heap.size,1,none⟩=some (.string ⟨n1.toArray⟩):=by simp[World.cell?,hc2]
         have HR2:Hid (w2.ownsRow w.heap.size 9 1 (.slice av nl cv) ns.length (ns.flatMap csT)):=zA (owns_key HDz.out.row (fun g _ hg ho=>(hgrow2.block g (lt_of_block ho) (fun e=>own_ne_mapQ HDz.out.row HDz.out.map (by rw[hg,e]))).trans ho));have HM2:=zA hown2;have HB2:Hid (Below w.heap.size w w2):=zA (HDz.out.bel.grown hgrow2 hszz (fun k e=>by injection e with e;omega));clear hgrow2 hown2 hc2;go_wp2_with fail;refine(clone_any _ _ (by rw[size_list];have:=HFX.out;omega)).mono ?_;rintro e w3 ⟨rfl,hb3⟩;have HR3:=zA (owns_below HR2.out hb3);have HM3:=zA (map_keyQ HM2.out (fun _ ho=>(hb3.block _ (lt_of_block ho)).trans ho));have HB3:=zA (HB2.out.trans (hb3.mono HB2.out.size));have hs3:w.heap.size<=w3.heap.size:=HB3.out.size;rw[<- HNL.out]at HR3;clear hb3;go_wp2_with (at_builtin;refine wpList_append_lies _ rfl _ _ _ rfl w.heap.size 9 i0 _ 1 16 Tryz.underlying22 hi0 hz0 hz1 hz2 rfl (by decide) (.slice av nl cv) _ _ (by rfl) (HR3.out.alloc _) ⟨w3.heap.size,0,none⟩ 1 1 (csT n1) (by rfl) (by rfl) ?d1 ?d2 (by decide) ?d3 ?d4 ?d5 (w3.heap.size+1) (by simp) ?_)
         case d1=>exact World.news_of_block (cs:=#[.string ⟨n1.toArray⟩]) (t:=9) (fr:=(0,0)) (heap_alloc_new w3 _)
         case d2=>simp[Value.oneCell']
         case d3=>unfold maxLen;omega
         case d4=>omega
         case d5=>simp;omega
         intro gg cap2 w9 hown9 hgrow9 hat9 hlt9;have ba:Below w3.heap.size w3 (w3.alloc (.cells #[.string ⟨n1.toArray⟩] 9)):=(zF _ _).alloc (zD _) _;have HB9:Hid (Below w.heap.size w w9):=zA ((HB3.out.trans (ba.mono HB3.out.size)).grown hgrow9 (by simp;omega) (fun k e=>(HR3.out.lt k e).1));have hm4:=map_keyQ HM3.out (fun _ ho=>(ba.block _ (lt_of_block ho)).trans ho);have HM9:Hid (w9.ownsMap Tryz.prog 9 (unitElem (H:=Unit)) (w.heap.size+1) (ns++[n1]).length (D.put (.string n1) (.agg []))):=zA (by
          rw[zG];exact map_keyQ hm4 (fun _ ho=>(hgrow9.block _ (lt_of_block ho) (fun e=>own_ne_mapQ (HR3.out.alloc _) hm4 e.symm)).trans ho))
         have HR9:Hid (w9.ownsRow w.heap.size 9 1 (.slice (some ⟨gg,0,none⟩) (nl+1) cap2) (ns++[n1]).length ((ns++[n1]).flatMap csT)):=zA (by
          rw[zG,<- HNL.out,zY];have h2:=hown9;simpa[csT]using h2)
         have HSY:Hid (Says (D.put (.string n1) (.agg [])) (ns++[n1])):=zA (HD.out.says.put HD.out.map.isMap);clear hown9 hgrow9 hat9 hlt9 ba hm4;go_wp2;go_roundw
         case rel=>exact⟨0+1,_,rfl,by omega,by go_num,by rw[HNX2.out,HE.out];exact⟨_,HR9.out,HM9.out,HSY.out,HB9.out⟩⟩
         case measure=>simp[intOf]
     . obtain⟨D,hD⟩:=HT2.out;obtain⟨ns,hns⟩:∃ns,ns=nmJ B0 ((b1,n1),⟨xk,xw,.slice xa nx xc,xl⟩,(b2,n2)) 1:=⟨_,rfl⟩
       rw[<- hns]at hD;obtain⟨av,cv,hvl⟩:=own_slice hD.row;obtain⟨nl,hnl⟩:∃nl,nl=ns.length:=⟨_,rfl⟩
       rw[<- hnl]at hvl;subst hvl;have HNL:=zA hnl;have HD:=zA hD;have HNX2:Hid (nmJ B0 ((b1,n1),⟨xk,xw,.slice xa nx xc,xl⟩,(b2,n2)) (1+1)=addN ns (b2,n2)):=zA (by rw[hns];rfl);have HLN:nl<=2000000001:=by
        have h1:=HBL.out;have h2:=addN_len B0 (b1,n1);rw[hnl,hns];simp only[nmJ,Nat.one_ne_zero,if_true,if_false];omega
       have HK:=zA (keyQ n2 HF2.out);have hszy:w.heap.size<=wy.heap.size:=hD.bel.size;clear hD hns hnl;have HDa:Hid (∀o,NmI w (wy.alloc o) (w.heap.size+1) (.slice av nl cv) D ns):=zA (fun o=>HD.out.step ((zF _ _).alloc (zD _) _));obtain⟨m,hm⟩:∃m,m=decide (n2∈ns):=⟨_,rfl⟩
       have HS:Hid (Maps.has D (.string n2)=m):=zA (by rw[HD.out.says,hm]);have HM:=zA hm;clear hm;cases m with
       |true=>
        have HE:Hid (∀wz,NmI w wz (w.heap.size+1) (.slice av nl cv) D ns->NmT w wz (w.heap.size+1) (.slice av nl cv) (nmJ B0 ((b1,n1),⟨xk,xw,.slice xa nx xc,xl⟩,(b2,n2)) (1+1))):=zA (fun wz h=>by
         rw[HNX2.out];refine⟨D,?_⟩;rw[addN,if_neg (fun hh=>hh.2 (of_decide_eq_true HM.out.symm))];exact h)
        go_wp2_with (at_lookup;refine wpList_lookup_own_unit _ rfl _ _ 187 rfl 9 189 lawQ Tryz.underlying187 (zeroQU _) (w.heap.size+1) _ D rfl (HDa.out _).map _ _ rfl HK.out ?_;rw[HS.out]);go_roundw
        case rel=>exact⟨1+1,_,rfl,by omega,by go_num,HE.out _ ((HDa.out _).step ((zF _ _).alloc (zD _) _))⟩
        case measure=>simp[intOf]
       |false=>
        cases b2 with
        |false=>
         have HE:Hid (∀wz,NmI w wz (w.heap.size+1) (.slice av nl cv) D ns->NmT w wz (w.heap.size+1) (.slice av nl cv) (nmJ B0 ((b1,n1),⟨xk,xw,.slice xa nx xc,xl⟩,(false,n2)) (1+1))):=zA (fun wz h=>by
          rw[HNX2.out];refine⟨D,?_⟩;rw[addN,if_neg (fun hh=>by cases hh.1)];exact h)
         go_wp2_with (at_lookup;refine wpList_lookup_own_unit _ rfl _ _ 187 rfl 9 189 lawQ Tryz.underlying187 (zeroQU _) (w.heap.size+1) _ D rfl (HDa.out _).map _ _ rfl HK.out ?_;rw[HS.out]);go_roundw
         case rel=>exact⟨1+1,_,rfl,by omega,by go_num,HE.out _ ((HDa.out _).step ((zF _ _).alloc (zD _) _))⟩
         case measure=>simp[intOf]
        |true=>
         have HE:Hid (addN ns (true,n2)=ns++[n2]):=zA (by rw[addN,if_pos ⟨rfl,of_decide_eq_false HM.out.symm⟩]);obtain⟨WZ,hWZ⟩:∃WZ,WZ=(wy.alloc (.cells #[.bool true,.string ⟨n2.toArray⟩] 42)).alloc (.cells #[] 189):=⟨_,rfl⟩
         have hbz:Below wy.heap.size wy WZ:=by rw[hWZ];exact((zF _ _).alloc (zD _) _).alloc (by simp) _
         have HDz:Hid (NmI w WZ (w.heap.size+1) (.slice av nl cv) D ns):=zA (HD.out.step hbz);have HCz:Hid (WZ.heap[wy.heap.size]?=some (.cells #[.bool true,.string ⟨n2.toArray⟩] 42 (0,0))):=zA (by
          rw[hWZ,((zF _ (wy.alloc _)).alloc (zD _) _).block wy.heap.size (by simp),heap_alloc_new])
         have HMN:Hid (w.heap.size+1<wy.heap.size):=zA HD.out.map.lt;have HWZ:=zA hWZ;have hszz:w.heap.size<=WZ.heap.size:=HDz.out.bel.size;have HFX:Hid (n2.length<=140737488351232):=zA HF2.out;clear hbz hWZ;have HDaa:Hid (∀o1 o2,NmI w ((wy.alloc o1).alloc o2) (w.heap.size+1) (.slice av nl cv) D ns):=zA (fun o1 o2=>(HDa.out o1).step ((zF _ _).alloc (zD _) _));go_wp2_with (first|(at_lookup;refine wpList_lookup_own_unit _ rfl _ _ 187 rfl 9 189 lawQ Tryz.underlying187 (zeroQU _) (w.heap.size+1) _ D rfl (HDa.out _).map _ _ rfl HK.out ?_;rw[HS.out])|(at_mapUpdate;refine wpList_mapUpdate_own _ rfl _ _ _ 187 rfl 9 189 lawQ Tryz.underlying187 _ (w.heap.size+1) _ D rfl (HDaa.out _ _).map ?m1 _ _ _ rfl rfl HK.out _ [] unitElem_mk ?_))
         case m1=>have:=HNL.out;unfold maxLen;omega
         intro w2 hown2 hgrow2;rw[<- HWZ.out]at hgrow2;have hc2:=(hgrow2.block wy.heap.size (lt_of_block HCz.out) (fun e=>by have:=HMN.out;injection e with e;omega)).trans HCz.out;have c1:w2.cell? ⟨wy.heap.size,1,none⟩=some (.string ⟨n2.toArray⟩):=by simp[World.cell?,hc2]
         have HR2:Hid (w2.ownsRow w.heap.size 9 1 (.slice av nl cv) ns.length (ns.flatMap csT)):=zA (owns_key HDz.out.row (fun g _ hg ho=>(hgrow2.block g (lt_of_block ho) (fun e=>own_ne_mapQ HDz.out.row HDz.out.map (by rw[hg,e]))).trans ho));have HM2:=zA hown2;have HB2:Hid (Below w.heap.size w w2):=zA (HDz.out.bel.grown hgrow2 hszz (fun k e=>by injection e with e;omega));clear hgrow2 hown2 hc2;go_wp2_with fail;refine(clone_any _ _ (by rw[size_list];have:=HFX.out;omega)).mono ?_;rintro e w3 ⟨rfl,hb3⟩;have HR3:=zA (owns_below HR2.out hb3);have HM3:=zA (map_keyQ HM2.out (fun _ ho=>(hb3.block _ (lt_of_block ho)).trans ho));have HB3:=zA (HB2.out.trans (hb3.mono HB2.out.size));have hs3:w.heap.size<=w3.heap.size:=HB3.out.size;rw[<- HNL.out]at HR3;clear hb3;go_wp2_with (at_builtin;refine wpList_append_lies _ rfl _ _ _ rfl w.heap.size 9 i0 _ 1 16 Tryz.underlying22 hi0 hz0 hz1 hz2 rfl (by decide) (.slice av nl cv) _ _ (by rfl) (HR3.out.alloc _) ⟨w3.heap.size,0,none⟩ 1 1 (csT n2) (by rfl) (by rfl) ?d1 ?d2 (by decide) ?d3 ?d4 ?d5 (w3.heap.size+1) (by simp) ?_)
         case d1=>exact World.news_of_block (cs:=#[.string ⟨n2.toArray⟩]) (t:=9) (fr:=(0,0)) (heap_alloc_new w3 _)
         case d2=>simp[Value.oneCell']
         case d3=>unfold maxLen;omega
         case d4=>omega
         case d5=>simp;omega
         intro gg cap2 w9 hown9 hgrow9 hat9 hlt9;have ba:Below w3.heap.size w3 (w3.alloc (.cells #[.string ⟨n2.toArray⟩] 9)):=(zF _ _).alloc (zD _) _;have HB9:Hid (Below w.heap.size w w9):=zA ((HB3.out.trans (ba.mono HB3.out.size)).grown hgrow9 (by simp;omega) (fun k e=>(HR3.out.lt k e).1));have hm4:=map_keyQ HM3.out (fun _ ho=>(ba.block _ (lt_of_block ho)).trans ho);have HM9:Hid (w9.ownsMap Tryz.prog 9 (unitElem (H:=Unit)) (w.heap.size+1) (ns++[n2]).length (D.put (.string n2) (.agg []))):=zA (by
          rw[zG];exact map_keyQ hm4 (fun _ ho=>(hgrow9.block _ (lt_of_block ho) (fun e=>own_ne_mapQ (HR3.out.alloc _) hm4 e.symm)).trans ho))
         have HR9:Hid (w9.ownsRow w.heap.size 9 1 (.slice (some ⟨gg,0,none⟩) (nl+1) cap2) (ns++[n2]).length ((ns++[n2]).flatMap csT)):=zA (by
          rw[zG,<- HNL.out,zY];have h2:=hown9;simpa[csT]using h2)
         have HSY:Hid (Says (D.put (.string n2) (.agg [])) (ns++[n2])):=zA (HD.out.says.put HD.out.map.isMap);clear hown9 hgrow9 hat9 hlt9 ba hm4;go_wp2;go_roundw
         case rel=>exact⟨1+1,_,rfl,by omega,by go_num,by rw[HNX2.out,HE.out];exact⟨_,HR9.out,HM9.out,HSY.out,HB9.out⟩⟩
         case measure=>simp[intOf]
     . go_wp2;go_roundw
       case rel=>exact⟨i+1,_,rfl,by omega,by go_num,by rw[<- HNX.out];exact HT2.out⟩
       case measure=>simp[intOf];omega
  . have hltI:¬(i:Int)<(n:Int):=by omega
    have HE:Hid (namesP ((atoms.take i).map Am.pa)=namesP (atoms.map Am.pa)):=zA (by rw[zK (by rw[<- HN.out];omega)]);go_wp2;go_ret;obtain⟨D,hD⟩:=HT.out;rw[HE.out]at hD;exact⟨_,rfl,hD.row,hD.bel⟩
theorem getT{w:World}{g o:Nat}{s:List UInt8}(h:∀(c:Nat) u,(csT s)[c]?=some u->w.cell? ⟨g,o+c,none⟩=some u):w.cell? ⟨g,o,none⟩=some (.string ⟨s.toArray⟩):=h 0 _ rfl
set_option maxHeartbeats 2000000 in
theorem index_any{S:Nat->Prop}{w:World}{v:Value}{L:List (List UInt8)}(h:TxtS S w v L)(hl:L.length<=9223372036854775806)(s:List UInt8):
 Calls Tryz.prog 127 #[v,.string ⟨s.toArray⟩] w fun e w'=>(∃z:Int,e=.returned (.int .i64 z)/\decide (0<=z)=decide (s∈L))/\w'=w:=by
 obtain⟨ao,cap,rfl⟩:=h.slice;have H:=zA h;obtain⟨n,hn⟩:∃n,n=L.length:=⟨_,rfl⟩
 rw[<- hn]at hl H ⊢;have HN:=zA hn;obtain⟨ans,hans⟩:∃a,a=decide (s∈L):=⟨_,rfl⟩
 rw[<- hans];have HA:=zA hans;clear h hn hans;go_enter Tryz.func127,Tryz.ntmps127;go_wp2_with fail;go_loopw [8] (fun c wr=>∃i:Nat,i<=n/\c=.int .i64 i/\s∉L.take i/\wr=w) (fun c _=>n-(intOf c).toNat)
 case atStart=>exact⟨0,zS _,rfl,by simp,rfl⟩
 case round=>
  obtain⟨i,hi,rfl,hall,rfl⟩:=hrel;have HAll:=zA hall;clear hall;by_cases hlt:i<n
  . have hltI:(i:Int)<(n:Int):=by omega
    obtain⟨x,hx⟩:∃x,L[i]?=some x:=⟨_,zB (by rw[<- HN.out];exact hlt)⟩
    obtain⟨g,off,rfl,_,_,hcell⟩:=H.out.get hx;have q0:=getT hcell;rw[yK]at q0;have HX:=zA hx;clear hx hcell;by_cases e:s=x
    . subst e;have HT:Hid (ans=true):=zA (by rw[HA.out];exact yC (zC HX.out));go_wp2;go_ret;exact⟨⟨_,rfl,by rw[HT.out];simp⟩,rfl⟩
    . have e1:(s==x)=false:=by simpa using e
      have HA2:Hid (s∉L.take (i+1)):=zA (by
       rw[zT,HX.out];intro h;rcases zN.1 h with h|h
       . exact HAll.out h
       . simp at h;exact e h)
      go_wp2;go_roundw
      case rel=>exact⟨i+1,by omega,by go_num,HA2.out,by trivial⟩
      case measure=>simp[intOf];omega
  . have hltI:¬(i:Int)<(n:Int):=by omega
    have HF:Hid (ans=false):=zA (by
     rw[HA.out];refine decide_eq_false (fun h=>HAll.out ?_);rw[zK (by rw[<- HN.out];omega)];exact h)
    go_wp2;go_ret;exact⟨⟨_,rfl,by rw[HF.out];rfl⟩,rfl⟩
set_option maxHeartbeats 2000000 in
theorem contains_any{S:Nat->Prop}{w:World}{v:Value}{L:List (List UInt8)}(h:TxtS S w v L)(hl:L.length<=9223372036854775806)(s:List UInt8):
 Calls Tryz.prog 119 #[v,.string ⟨s.toArray⟩] w fun e w'=>e=.returned (.bool (decide (s∈L)))/\w'=w:=by
 have C:=zA (index_any h hl s);obtain⟨ans,hans⟩:∃a,a=decide (s∈L):=⟨_,rfl⟩
 rw[<- hans]at C ⊢;clear h hl hans;go_enter Tryz.func119,Tryz.ntmps119;go_wp2_with fail;refine C.out.mono ?_;rintro e w1 ⟨⟨z,rfl,hz⟩,rfl⟩;have HZ:=zA hz;clear hz;go_wp2;go_ret;exact⟨by rw[<- HZ.out];rfl,rfl⟩
theorem batchFault_any(w:World)(ao:Option Addr)(n cap:Nat)(hn:n<=9223372036854775807):
 Calls Tryz.prog 103 #[.slice ao n cap] w fun e w'=>e=.returned (.int .i64 (if 64<n then 2 else 0))/\w'=w:=by
 by_cases h:64<n
 . have hI:(64:Int)<(n:Int):=by omega
   rw[if_pos h];go_enter Tryz.func103,Tryz.ntmps103;go_wp2;go_ret;exact⟨rfl,rfl⟩
 . have hI:¬(64:Int)<(n:Int):=by omega
   rw[if_neg h];go_enter Tryz.func103,Tryz.ntmps103;go_wp2;go_ret;exact⟨rfl,rfl⟩
theorem all_may{l:List Am}{i:Nat}{a:Am}(h:l[i]?=some a)(ha:∀x∈l.take i,mayP x.2.1.pt=true)(hm:mayP a.2.1.pt=true):∀x∈l.take (i+1),mayP x.2.1.pt=true:=by
 intro y hy;rw[zT,h]at hy;rcases zN.1 hy with hy|hy
 . exact ha y hy
 . simp at hy;subst hy;exact hm
theorem why_bad{vars:List (List UInt8)}{l:List Am}{a:Am}(ha:a∈l)(hm:mayP a.2.1.pt=false):whyQ vars (l.map Am.pa)=100:=by
 rw[whyQ,if_pos ⟨a.pa,zU ha,hm⟩]
theorem not_bad{l:List Am}(h:∀x∈l,mayP x.2.1.pt=true):¬ ∃a∈l.map Am.pa,mayP a.2.1=false:=by
 rintro⟨a,ha,hm⟩;obtain⟨x,hx,rfl⟩:=zR.1 ha;have:=h x hx;rw[show (Am.pa x).2.1=x.2.1.pt from rfl,this]at hm;cases hm
theorem nodup_snoc{l:List (List UInt8)}{i:Nat}{x:List UInt8}(h:l[i]?=some x)(hd:(l.take i).Nodup)(hm:x∉l.take i):(l.take (i+1)).Nodup:=by
 rw[zT,h];simp only[yR];rw[List.nodup_append];exact⟨hd,by simp,by intro a ha b hb e;simp at hb;subst hb;subst e;exact hm ha⟩
theorem not_nodup{l:List (List UInt8)}{i:Nat}{x:List UInt8}(h:l[i]?=some x)(hm:x∈l.take i):¬l.Nodup:=by
 intro hd;have e:l=l.take i++l.drop i:=(List.take_append_drop i l).symm;rw[e]at hd;have h2:x∈l.drop i:=zC (i:=0) (by rw[List.getElem?_drop];simpa using h);exact(List.nodup_append.1 hd).2.2 x hm x h2 rfl
theorem txt_cut{S:Nat->Prop}{w:World}{ao:Option Addr}{n cap cap2 i:Nat}{L:List (List UInt8)}(h:TxtS S w (.slice ao n cap) L)(hi:i<=L.length):TxtS S w (.slice ao i cap2) (L.take i):=by
 obtain⟨a,c,e,h⟩:=h;injection e with e1 e2 e3;subst e1;refine⟨ao,cap2,by rw[yL];congr 1;omega,?_⟩;rcases h with rfl|⟨g,off,e1,hs,hl,hc⟩
 . left;simp
 . refine .inr ⟨g,off,e1,hs,hl,fun j x hx c u hu=>hc j x ?_ c u hu⟩;rw[List.getElem?_take]at hx;split at hx
   . exact hx
   . cases hx
set_option maxHeartbeats 8000000 in
theorem queryFault_any{S:Nat->Prop}{w:World}{q:Qm}(h:QOk S w q):
 Calls Tryz.prog 101 #[encQ q] w fun e w'=>e=.returned (.int .i64 (whyQ q.vars (q.atoms.map Am.pa):Int))/\Below w.heap.size w w':=by
 obtain⟨va,vc,hvv,hvc⟩:=h.vcap;obtain⟨ao,cap,hv⟩:=h.ats.slice;have hvl:=h.vl;have hal:=h.al;have HNM:=zA (fun u (hu:Below w.heap.size w u) (ha:q.atoms.length<=1000000000)=>names_any (h.below hu) ha);obtain⟨vv,vars,av,atoms⟩:=q;dsimp only at hvv hvc hv hvl hal HNM ⊢;subst hvv hv;have H:=zA h;obtain⟨ans,hans⟩:∃a,a=whyQ vars (atoms.map Am.pa):=⟨_,rfl⟩
 rw[<- hans];have HA:=zA hans;obtain⟨n,hn⟩:∃n,n=atoms.length:=⟨_,rfl⟩
 rw[<- hn]at hal H HNM ⊢;have HN:=zA hn;obtain⟨nv,hnv⟩:∃nv,nv=vars.length:=⟨_,rfl⟩
 rw[<- hnv]at hvl hvc H HNM ⊢;have HNV:=zA hnv;obtain⟨o,ho⟩:∃o,o=Obj.cells #[.slice va nv vc,.slice ao n cap] 47:=⟨_,rfl⟩
 have HO:=zA ho;have HC:Hid (∀wr,Below (w.alloc o).heap.size (w.alloc o) wr->wr.cell? ⟨w.heap.size,0,none⟩=some (.slice va nv vc)/\wr.cell? ⟨w.heap.size,1,none⟩=some (.slice ao n cap)):=zA (fun wr hb=>by
  have h:=box_keptQ hb;rw[HO.out]at h;exact⟨by simp[World.cell?,h],by simp[World.cell?,h]⟩)
 clear h hn hnv ho hans;go_enter Tryz.func101,Tryz.ntmps101;go_wp2_with fail;go_loopw [13] (fun c wr=>∃i:Nat,i<=n/\c=.int .i64 i/\(∀x∈atoms.take i,mayP x.2.1.pt=true)/\Below (w.alloc o).heap.size (w.alloc o) wr) (fun c _=>n-(intOf c).toNat)
 case atStart=>exact⟨0,zS _,rfl,by simp,by rw[HO.out];exact zF _ _⟩
 case round=>
  obtain⟨i,hi,rfl,hall,hbq⟩:=hrel;have HAll:=zA hall;have HBQ:=zA hbq;clear hall hbq;by_cases hlt:i<n
  . have hltI:(i:Int)<(n:Int):=by omega
    obtain⟨a,ha⟩:∃a,atoms[i]?=some a:=⟨_,zB (by rw[<- HN.out];exact hlt)⟩
    obtain⟨g,off,rfl,_,_,hcell⟩:=(H.out.ats.below (below_boxQ HBQ.out)).get ha;obtain⟨q0,q1,q2,q3,q4,q5,q6⟩:=getA hcell;have hmem:=zC ha;have HOK:=H.out.ok a hmem;obtain⟨xa,xc,hxv⟩:=HOK.parts.1.slice;obtain⟨wx,hwx⟩:∃wx,wx=wr:=⟨_,rfl⟩
    subst hwx;have HP:=zA (fun u (hu:Below w.heap.size w u)=>pathMayBe_any (HOK.below hu));have HBa:Hid (∀ob:Obj,Below (w.alloc o).heap.size (w.alloc o) (wx.alloc ob)):=zA (fun ob=>HBQ.out.alloc HBQ.out.size _);obtain⟨m,hm⟩:∃m,m=mayP a.2.1.pt:=⟨_,rfl⟩
    rw[<- hm]at HP;have HM:=zA hm;have HX:=zA ha;have HXM:=zA hmem;obtain⟨nx,hnx⟩:∃nx,nx=a.2.1.kids.length:=⟨_,rfl⟩
    rw[<- hnx]at hxv;clear ha hcell hm hmem HOK hnx;cases m with
    |false=>
     have HF:Hid (ans=100):=zA (by rw[HA.out];exact why_bad HXM.out HM.out.symm);obtain⟨⟨b1,n1⟩,⟨xk,xw,xv,xl⟩,⟨b2,n2⟩⟩:=a;dsimp only at q0 q1 q2 q3 q4 q5 q6 hxv HP;subst hxv;go_wp2_with fail;refine(HP.out _ (below_boxQ (HBa.out _))).mono ?_;rintro e w2 ⟨rfl,hb2⟩;have HB2:=zA ((HBa.out _).trans (hb2.mono (HBa.out _).size));clear hb2;go_wp2;go_ret;exact⟨by rw[HF.out];rfl,below_boxQ HB2.out⟩
    |true=>
     have HA2:=zA (all_may HX.out HAll.out HM.out.symm);obtain⟨⟨b1,n1⟩,⟨xk,xw,xv,xl⟩,⟨b2,n2⟩⟩:=a;dsimp only at q0 q1 q2 q3 q4 q5 q6 hxv HP;subst hxv;go_wp2_with fail;refine(HP.out _ (below_boxQ (HBa.out _))).mono ?_;rintro e w2 ⟨rfl,hb2⟩;have HB2:=zA ((HBa.out _).trans (hb2.mono (HBa.out _).size));clear hb2;go_wp2;go_roundw
     case rel=>exact⟨i+1,by omega,by go_num,HA2.out,HB2.out⟩
     case measure=>simp[intOf];omega
  . have hltI:¬(i:Int)<(n:Int):=by omega
    have HAM:Hid (¬ ∃a∈atoms.map Am.pa,mayP a.2.1=false):=zA (not_bad (fun x hx=>HAll.out x (by rw[zK (by rw[<- HN.out];omega)];exact hx)));obtain⟨c0,c1⟩:=HC.out _ HBQ.out;have HWR:=zA (below_boxQ HBQ.out);obtain⟨wx,hwx⟩:∃wx,wx=wr:=⟨_,rfl⟩
    subst hwx;by_cases h6:6<nv
    . have h6I:(6:Int)<(nv:Int):=by omega
      have HF:Hid (ans=2):=zA (by rw[HA.out,whyQ,if_neg HAM.out,if_pos (.inl (by rw[<- HNV.out];exact h6))]);go_wp2;go_ret;exact⟨by rw[HF.out];rfl,HWR.out⟩
    . have h6I:¬(6:Int)<(nv:Int):=by omega
      by_cases h7:6<n
      . have h7I:(6:Int)<(n:Int):=by omega
        have HF:Hid (ans=2):=zA (by rw[HA.out,whyQ,if_neg HAM.out,if_pos (.inr (.inl (by rw[zH,<- HN.out];exact h7)))]);go_wp2;go_ret;exact⟨by rw[HF.out];rfl,HWR.out⟩
      . have h7I:¬(6:Int)<(n:Int):=by omega
        obtain⟨NL,hNL⟩:∃NL,NL=namesP (atoms.map Am.pa):=⟨_,rfl⟩
        have HNL:=zA hNL;have HNM2:=zA (HNM.out _ HWR.out (by omega));rw[<- hNL]at HNM2;clear hNL;go_wp2_with fail;refine HNM2.out.mono ?_;rintro e w2 ⟨v2,rfl,hrow2,hb2⟩;obtain⟨xa,xc,hx2⟩:=own_slice hrow2;subst hx2;have HT2:Hid (TxtS (fun _=>True) w2 (.slice xa NL.length xc) NL):=zA ((own_sl (enc:=csT) (fun _=>rfl) hrow2 rfl).sub (fun _ _ _=>trivial));have HB2:=zA (HBQ.out.trans (hb2.mono HBQ.out.size));have HW2:=zA (below_boxQ HB2.out);obtain⟨nn,hnn⟩:∃nn,nn=NL.length:=⟨_,rfl⟩
        rw[<- hnn]at HT2 ⊢;have HNN:=zA hnn;have hnb:nn<=2000000000:=by
         have:=names_len (atoms.map Am.pa);rw[<- HNL.out,<- hnn,zH,<- HN.out]at this;omega
        clear hrow2 hb2 hnn c0 c1;obtain⟨c0,c1⟩:=HC.out _ HB2.out;by_cases h8:6<nn
        . have h8I:(6:Int)<(nn:Int):=by omega
          have HF:Hid (ans=2):=zA (by rw[HA.out,whyQ,if_neg HAM.out,if_pos (.inr (.inr (by rw[<- HNL.out,<- HNN.out];exact h8)))]);go_wp2;go_ret;exact⟨by rw[HF.out];rfl,HW2.out⟩
        . have h8I:¬(6:Int)<(nn:Int):=by omega
          have HS6:Hid (¬(6<vars.length\/6<(atoms.map Am.pa).length\/6<(namesP (atoms.map Am.pa)).length)):=zA (by
           rw[<- HNV.out,zH,<- HN.out,<- HNL.out,<- HNN.out];omega)
          have HV2:=zA (H.out.vs.below HW2.out);go_wp2_with fail;go_loopw [40] (fun c wr=>∃i:Nat,i<=nv/\c=.int .i64 i/\(vars.take i).Nodup/\wr=w2) (fun c _=>nv-(intOf c).toNat)
          case atStart=>exact⟨0,zS _,rfl,by simp,rfl⟩
          case round=>
           obtain⟨k,hk,rfl,hnd,hwr⟩:=hrel;subst hwr;obtain⟨w2,hw2⟩:∃w2,w2=wr:=⟨_,rfl⟩
           subst hw2;have HND:=zA hnd;clear hnd;by_cases hlk:k<nv
           . have hlkI:(k:Int)<(nv:Int):=by omega
             obtain⟨x,hx⟩:∃x,vars[k]?=some x:=⟨_,zB (by rw[<- HNV.out];exact hlk)⟩
             obtain⟨g,off,rfl,_,_,hcell⟩:=HV2.out.get hx;have q0:=getT hcell;rw[yK]at q0;have HX:=zA hx;have hkc:(k:Int)<=(vc:Int):=by omega
             have HCT:=zA (fun c=>contains_any (txt_cut (cap2:=c) (i:=k) HV2.out (by rw[<- HNV.out];omega)) (by rw[yL];omega) x);obtain⟨m,hm⟩:∃m,m=decide (x∈vars.take k):=⟨_,rfl⟩
             rw[<- hm]at HCT;have HM:=zA hm;clear hx hcell hm;cases m with
             |true=>
              have HF:Hid (ans=1):=zA (by
               rw[HA.out,whyQ,if_neg HAM.out,if_neg HS6.out,if_pos (not_nodup HX.out (of_decide_eq_true HM.out.symm))])
              go_wp2_with fail;refine(HCT.out _).mono ?_;rintro e w3 ⟨rfl,rfl⟩;go_wp2;go_ret;exact⟨by rw[HF.out];rfl,HW2.out⟩
             |false=>
              have HND2:=zA (nodup_snoc HX.out HND.out (of_decide_eq_false HM.out.symm));go_wp2_with fail;refine(HCT.out _).mono ?_;rintro e w3 ⟨rfl,rfl⟩;go_wp2;go_roundw
              case rel=>exact⟨k+1,by omega,by go_num,HND2.out,by trivial⟩
              case measure=>simp[intOf];omega
           . have hlkI:¬(k:Int)<(nv:Int):=by omega
             have HN2:Hid (¬ ¬vars.Nodup):=zA (fun hn=>hn (by
              have:=HND.out;rwa[zK (by rw[<- HNV.out];omega)]at this))
             go_wp2_with fail;go_loopw [55] (fun c wr=>∃i:Nat,i<=nv/\c=.int .i64 i/\(∀v∈vars.take i,v∈NL)/\wr=w2) (fun c _=>nv-(intOf c).toNat)
             case atStart=>exact⟨0,zS _,rfl,by simp,rfl⟩
             case round=>
              obtain⟨j,hj,rfl,hin,hwr⟩:=hrel;subst hwr;have HIN:=zA hin;clear hin;by_cases hlj:j<nv
              . have hljI:(j:Int)<(nv:Int):=by omega
                obtain⟨x,hx⟩:∃x,vars[j]?=some x:=⟨_,zB (by rw[<- HNV.out];exact hlj)⟩
                obtain⟨g,off,rfl,_,_,hcell⟩:=HV2.out.get hx;have q0:=getT hcell;rw[yK]at q0;have HX:=zA hx;have HCT:=zA (contains_any HT2.out (by have:=HNN.out;omega) x);obtain⟨m,hm⟩:∃m,m=decide (x∈NL):=⟨_,rfl⟩
                rw[<- hm]at HCT;have HM:=zA hm;clear hx hcell hm;cases m with
                |false=>
                 have HF:Hid (ans=91):=zA (by
                  rw[HA.out,whyQ,if_neg HAM.out,if_neg HS6.out,if_neg HN2.out,if_pos ⟨x,zC HX.out,by rw[<- HNL.out];exact of_decide_eq_false HM.out.symm⟩])
                 go_wp2_with fail;refine HCT.out.mono ?_;rintro e w3 ⟨rfl,rfl⟩;go_wp2;go_ret;exact⟨by rw[HF.out];rfl,HW2.out⟩
                |true=>
                 have HIN2:Hid (∀v∈vars.take (j+1),v∈NL):=zA (by
                  intro v hv;rw[zT,HX.out]at hv;rcases zN.1 hv with hv|hv
                  . exact HIN.out v hv
                  . simp at hv;subst hv;exact of_decide_eq_true HM.out.symm)
                 go_wp2_with fail;refine HCT.out.mono ?_;rintro e w3 ⟨rfl,rfl⟩;go_wp2;go_roundw
                 case rel=>exact⟨j+1,by omega,by go_num,HIN2.out,by trivial⟩
                 case measure=>simp[intOf];omega
              . have hljI:¬(j:Int)<(nv:Int):=by omega
                have HF:Hid (ans=0):=zA (by
                 rw[HA.out,whyQ,if_neg HAM.out,if_neg HS6.out,if_neg HN2.out,if_neg];rintro⟨v,hv,hn⟩;rw[<- HNL.out]at hn;refine hn (HIN.out v ?_);rw[zK (by rw[<- HNV.out];omega)];exact hv)
                go_wp2;go_ret;exact⟨by rw[HF.out];rfl,HW2.out⟩
end Go.Proofs.YtdalcipmpelifaaGreatDoor
