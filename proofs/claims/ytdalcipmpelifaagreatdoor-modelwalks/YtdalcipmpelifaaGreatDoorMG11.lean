/- GNewG. -/
import Derived.Test.YtdalcipmpelifaaGreatDoorMG10
set_option maxRecDepth 100000
namespace Go.Proofs.YtdalcipmpelifaaGreatDoor
open Go.RowKit Go.Shelf
theorem GrB.more{S T:Nat->Prop}{w:World}{gb mb c:Nat}{nv ev:Value}{D:DataW Unit}{N:List Wd}{E:List Eg}(h:GrB S w gb mb nv ev D c N E)(hT:∀k,T k->S k\/w.heap.size<=k):GrB T w gb mb nv ev D c N E:=
 { h with
  out:=fun hk=>(hT gb hk).elim h.out (fun h1=>absurd (lt_of_block h.blk) (by omega))
  outw:=fun g hg hk=>(hT g hk).elim (h.outw g hg) (fun h1=>absurd (own_lt h.ow hg) (by omega))
  oute:=fun g hg hk=>(hT g hk).elim (h.oute g hg) (fun h1=>absurd (own_lt h.oe hg) (by omega))
  outm:=fun hk=>(hT mb hk).elim h.outm (fun h1=>absurd h.om.lt (by omega)) }
def TellsG(D:DataW Unit)(ws:List Wd)(i:Nat):Prop:=∀(j:Nat) s,j<i->ws[j]?=some s->D.atKey (.string s) (.lit (.int .i64 0))=.lit (.int .i64 (j:Int))
theorem TellsG.put{D:DataW Unit}{ws:List Wd}{i:Nat}{t:Wd}(h:TellsG D ws i)(hm:Maps.IsMap D)(hd:ws.Nodup)(ht:ws[i]?=some t):TellsG (D.put (.string t) (.lit (.int .i64 (i:Int)))) ws (i+1):=fun j s hj hs=>by
 by_cases e:j=i
 . subst e;rw[ht]at hs;injection hs with hs;subst hs;rw[Maps.atKey_put_same hm (show WideAt.IsKeyLit (.string t)from trivial)]
 . have hne:s≠t:=fun e2=>by
    subst e2;have h1:=(zE.1 ht).1;have h2:=(zE.1 hs).1;exact e ((List.getElem?_inj h2 hd).1 (by rw[hs,ht]))
   rw[Maps.atKey_put_other (by simpa using hne)];exact h j s (by omega) hs
def namesF(fs:List Fa):List Wd:=fs.foldl (fun N f=>nameL (nameL N f.1) f.2.2) []
theorem nameL_mem{N:List Wd}{s x:Wd}:x∈nameL N s↔x∈N\/x=s:=by
 unfold nameL;split
 . rename_i h;constructor
   . exact .inl
   . rintro (h1|rfl)
     . exact h1
     . exact h
 . simp
theorem nameL_nodup{N:List Wd}{s:Wd}(h:N.Nodup):(nameL N s).Nodup:=by
 unfold nameL;split
 . exact h
 . rename_i hs;rw[List.nodup_append];refine⟨h,by simp,fun a ha b hb e=>?_⟩;rw[zJ.1 hb]at e;subst e;exact hs ha
theorem nameL_len(N:List Wd)(s:Wd):(nameL N s).length<=N.length+1:=by
 unfold nameL;split<;>simp
theorem namesF_spec:∀(fs:List Fa) (N:List Wd),N.Nodup->(fs.foldl (fun N f=>nameL (nameL N f.1) f.2.2) N).Nodup/\(∀x,x∈fs.foldl (fun N f=>nameL (nameL N f.1) f.2.2) N↔x∈N\/∃f∈fs,x=f.1\/x=f.2.2)/\(fs.foldl (fun N f=>nameL (nameL N f.1) f.2.2) N).length<=N.length+2*fs.length
 |[],N,h=>⟨h,by simp,by simp⟩
 |f::fs,N,h=>by
  rw[yN];obtain⟨h1,h2,h3⟩:=namesF_spec fs (nameL (nameL N f.1) f.2.2) (nameL_nodup (nameL_nodup h));refine⟨h1,fun x=>?_,?_⟩
  . rw[h2,nameL_mem,nameL_mem];constructor
    . rintro (((h|h)|h)|⟨g,hg,h⟩)
      . exact .inl h
      . exact .inr ⟨f,zL ..,.inl h⟩
      . exact .inr ⟨f,zL ..,.inr h⟩
      . exact .inr ⟨g,zP _ hg,h⟩
    . rintro (h|⟨g,hg,h⟩)
      . exact .inl (.inl (.inl h))
      . rcases zX.1 hg with rfl|hg
        . rcases h with h|h
          . exact .inl (.inl (.inr h))
          . exact .inl (.inr h)
        . exact .inr ⟨g,hg,h⟩
  . have:=nameL_len (nameL N f.1) f.2.2;have:=nameL_len N f.1;simp only[yE];omega
theorem sort_names(fs:List Fa):sortW (namesF fs)=vertsL fs:=by
 obtain⟨h1,h2,_⟩:=namesF_spec fs [] List.nodup_nil;refine riseL_ext ordW (sortW_rise h1) (verts_rise fs) (fun t=>?_);rw[(sortW_perm _).mem_iff,mem_verts];unfold namesF;rw[h2];simp
theorem names_take{fs:List Fa}{i:Nat}{f:Fa}(h:fs[i]?=some f):namesF (fs.take (i+1))=nameL (nameL (namesF (fs.take i)) f.1) f.2.2:=by
 unfold namesF;rw[zT,h,yR,List.foldl_append,yN,List.foldl_nil]
def egOf(V:List Wd)(f:Fa):Eg:=(V.idxOf f.1,f.2.1,V.idxOf f.2.2)
theorem idx_at{V:List Wd}{s:Wd}(h:s∈V):V[V.idxOf s]?=some s:=by
 have h1:V.idxOf s<V.length:=zZ h;rw[zB h1,List.getElem_idxOf h1]
structure GrS (S:Nat->Prop) (w:World) (gb:Nat) (N:List Wd) (E:List Eg) (mb:Nat) (nv ev:Value) (D:DataW Unit) (c:Nat):Prop where
 blk:w.heap[gb]?=some (.cells #[nv,.map (some mb),ev] 72 (0,0))
 sg:S gb
 names:TxtS S w nv N
 edges:SlS csE 3 S w ev E
 map:w.ownsMap Tryz.prog 9 (plainElem Tryz.prog 3) mb c D
 sm:S mb
 keys:∀s,Maps.has D (.string s)=decide (s∈N)
 tells:TellsG D N N.length
theorem GrS.keep{S T:Nat->Prop}{w w':World}{gb:Nat}{N:List Wd}{E:List Eg}{mb:Nat}{nv ev:Value}{D:DataW Unit}{c:Nat}(h:GrS S w gb N E mb nv ev D c)(hz:w.heap.size<=w'.heap.size)(hk:∀b,S b->b<w.heap.size->T b/\w'.heap[b]?=w.heap[b]?):GrS T w' gb N E mb nv ev D c:=
 ⟨(hk gb h.sg (lt_of_block h.blk)).2.trans h.blk,(hk gb h.sg (lt_of_block h.blk)).1,h.names.keep hz hk,h.edges.keep hz hk,map_keyG h.map (fun _ ho=>(hk mb h.sm (lt_of_block ho)).2.trans ho),(hk mb h.sm h.map.lt).1,h.keys,h.tells⟩
theorem GrS.fr{S:Nat->Prop}{w w':World}{gb:Nat}{N:List Wd}{E:List Eg}{mb:Nat}{nv ev:Value}{D:DataW Unit}{c:Nat}(h:GrS S w gb N E mb nv ev D c)(hf:Fr S w w'):GrS S w' gb N E mb nv ev D c:=
 h.keep hf.size (fun b hs _=>⟨hs,hf.block b hs⟩)
def GraphE(w:World)(fs:List Fa)(e:Ending)(w':World):Prop:=
 ∃(gb mb:Nat) (nv ev:Value) (D:DataW Unit) (c:Nat),e=.returned (.pointer (some ⟨gb,0,none⟩))/\GrS (fun k=>w.heap.size<=k) w' gb (vertsL fs) (fs.map (egOf (vertsL fs))) mb nv ev D c/\Below w.heap.size w w'
theorem GrB.read{S:Nat->Prop}{w:World}{B gb mb c:Nat}{nv ev:Value}{D:DataW Unit}{N:List Wd}{E:List Eg}(h:GrB S w gb mb nv ev D c N E)(hB:∀k,k<B->S k)(ht:TellsG D N N.length):GrS (fun k=>B<=k) w gb N E mb nv ev D c:=by
 have hno:∀k,¬S k->B<=k:=fun k hk=>by
  rcases Nat.lt_or_ge k B with h1|h1
  . exact absurd (hB k h1) hk
  . exact h1
 exact⟨h.blk,hno _ h.out,(own_sl (enc:=csT) (fun _=>rfl) h.ow rfl).sub (fun b hb _=>hno b (h.outw b hb)),(own_sl csE_len h.oe rfl).sub (fun b hb _=>hno b (h.oute b hb)),h.om,hno _ h.outm,h.keys,ht⟩
set_option maxHeartbeats 16000000 in
theorem newGraph_any{S0:Nat->Prop}{w:World}{v:Value}{fs:List Fa}(h:FasS S0 w v fs)(hl:fs.length<=10000)(hw:∀f∈fs,f.1.length<=140737488351232/\f.2.1.length<=140737488351232/\f.2.2.length<=140737488351232):
 Calls Tryz.prog 19 #[v] w (GraphE w fs):=by
 have hmm:=@run_makeMap Tryz.prog;obtain⟨i0,hi0,hz0,hz1,hz2⟩:=info_partsG infoEG;obtain⟨ao,cap,rfl⟩:=h.slice;have H:=zA h;have HW:=zA hw;obtain⟨n,hn⟩:∃n,n=fs.length:=⟨_,rfl⟩
 rw[<- hn]at H hl ⊢;have HN:=zA hn;obtain⟨S,hSd⟩:∃S:Nat->Prop,S=fun k=>k<w.heap.size:=⟨_,rfl⟩
 have HLS:Hid (∀k,S k↔k<w.heap.size):=zA (fun k=>by rw[hSd]);have HS:Hid (Low S w):=zA (fun k hk=>(HLS.out k).1 hk);obtain⟨gb,hgb⟩:∃g,g=w.heap.size+1:=⟨_,rfl⟩
 obtain⟨mb,hmb⟩:∃g,g=w.heap.size:=⟨_,rfl⟩
 have HGB:=zA hgb;have HMB:=zA hmb;have HBG:Hid (Below w.heap.size w ((w.alloc (.map #[] 0)).alloc (.cells #[.slice none 0 0,.map (some w.heap.size),.slice none 0 0] 72))):=zA (((zF w.heap.size w).alloc (zD _) _).alloc (by simp) _);have HG0:Hid (GrB S ((w.alloc (.map #[] 0)).alloc (.cells #[.slice none 0 0,.map (some w.heap.size),.slice none 0 0] 72)) gb mb (.slice none 0 0) (.slice none 0 0) (.map []) 0 [] []):=zA (by
  have hsz:(w.alloc (.map #[] 0)).heap.size=w.heap.size+1:=by simp
  refine⟨?_,⟨rfl,.inl ⟨rfl,rfl⟩⟩,⟨rfl,.inl ⟨rfl,rfl⟩⟩,?_,fun hk=>?_,by intro g hg;simp[Value.ownBlock]at hg,by intro g hg;simp[Value.ownBlock]at hg,fun hk=>?_,fun s=>by simp[Maps.has]⟩
  . have:=box_at (w.alloc (.map #[] 0)) (.cells #[.slice none 0 0,.map (some w.heap.size),.slice none 0 0] 72);rw[hsz]at this;rw[HGB.out,HMB.out];exact this
  . rw[HMB.out];exact(World.ownsMap_made w Tryz.prog 9 (plainElem Tryz.prog 3)).alloc _
  . have:=(HLS.out gb).1 hk;have:=HGB.out;omega
  . have:=(HLS.out mb).1 hk;have:=HMB.out;omega)
 have hvl:=(namesF_spec fs [] List.nodup_nil).2.2;have HNL:Hid (∀i,(namesF (fs.take i)).length<=2*n):=zA (fun i=>by
  have h1:=(namesF_spec (fs.take i) [] List.nodup_nil).2.2;rw[yL]at h1;simp only[List.length_nil,<- HN.out]at h1;unfold namesF;omega)
 clear h hw hn hSd hgb hmb hvl;go_enter Tryz.func19,Tryz.ntmps19;go_wp2_with fail;have hgbe:w.heap.size+1=gb:=HGB.out.symm;rw[hgbe];clear hgbe;go_loopw [15] (fun c wr=>∃(i:Nat) (nv:Value) (D:DataW Unit) (cc:Nat),i<=n/\c=.int .i64 i/\cc<=2*i/\GrB S wr gb mb nv (.slice none 0 0) D cc (namesF (fs.take i)) []/\Below w.heap.size w wr) (fun c _=>n-(intOf c).toNat)
 case atStart=>exact⟨0,_,_,0,zS _,rfl,zS _,HG0.out,HBG.out⟩
 case round=>
  obtain⟨i,nv,D,cc,hi,rfl,hcc,hg,hbw⟩:=hrel;obtain⟨wx,hwx⟩:∃wx,wx=wr:=⟨_,rfl⟩
  subst hwx;have HG:=zA hg;have HBW:=zA hbw;clear hg hbw;by_cases hlt:i<n
  . have hltI:(i:Int)<(n:Int):=by omega
    obtain⟨⟨f0,f1,f2⟩,hx⟩:∃x,fs[i]?=some x:=⟨_,zB (by rw[<- HN.out];exact hlt)⟩
    obtain⟨g,off,hla,_,hgl,hcell⟩:=(H.out.below HBW.out).get hx;subst hla;obtain⟨q0,q1,q2⟩:=getF hcell;have hwf:=HW.out _ (zC hx);dsimp only at hwf q0 q1 q2;have HT:=zA (names_take hx);dsimp only at HT;obtain⟨fb,hfb⟩:∃b,b=wx.heap.size:=⟨_,rfl⟩
    obtain⟨o,ho⟩:∃o,o=Obj.cells #[.string ⟨f0.toArray⟩,.string ⟨f1.toArray⟩,.string ⟨f2.toArray⟩] 32 (0,0):=⟨_,rfl⟩
    have hb1:Below wx.heap.size wx (wx.alloc o):=(zF _ _).alloc (zD _) _;have hbl:(wx.alloc o).heap[fb]?=some o:=by rw[hfb];exact heap_alloc_new _ _
    have hG1:GrB (fun k=>S k\/k=fb) (wx.alloc o) gb mb nv (.slice none 0 0) D cc (namesF (fs.take i)) []:=(HG.out.more (fun k hk=>by
     rcases hk with hk|hk
     . exact .inl hk
     . exact .inr (by rw[hk,hfb];exact zD _))).below hb1
    have hS1:Low (fun k=>S k\/k=fb) (wx.alloc o):=fun k hk=>by
     rcases hk with hk|hk
     . have h1:=(HLS.out k).1 hk;have h2:=HBW.out.size;simp;omega
     . rw[hk,hfb];simp
    have C1:=zA (name_any hG1 hS1 f0 hwf.1 (by have:=HNL.out i;omega) (by omega));have HS1:=zA hS1;have HB1:=zA hb1;have HBL:=zA hbl;have HFB:=zA hfb;have HO:=zA ho;obtain⟨hw0,_,hw2⟩:=hwf;subst ho;clear hx hcell hb1 hbl hG1 hS1 hfb;go_wp2_with fail;refine C1.out.mono ?_;rintro e w1 ⟨rfl,⟨nv1,D1,c1,hc1,hg1⟩,hf1⟩;have hbl1:w1.heap[fb]?=_:=(hf1.block fb (.inr rfl)).trans HBL.out;obtain⟨⟨p0,p1,p2⟩,_⟩:=cells3G hbl1;have C2:=zA (name_any hg1 (HS1.out.fr hf1) f2 hw2 (by have:=HNL.out i;have:=nameL_len (namesF (fs.take i)) f0;omega) (by omega));have HF1:=zA hf1;rw[HFB.out]at p0 p1 p2;clear hg1 hf1 hbl1;go_wp2_with fail;refine C2.out.mono ?_;rintro e w2 ⟨rfl,⟨nv2,D2,c2,hc2,hg2⟩,hf2⟩;have HG2:Hid (GrB S w2 gb mb nv2 (.slice none 0 0) D2 c2 (namesF (fs.take (i+1))) []):=zA (by
     rw[HT.out];exact hg2.more (fun k hk=>.inl (.inl hk)))
    have HB2:Hid (Below w.heap.size w w2):=zA (HBW.out.trans ((HB1.out.mono HBW.out.size).trans ((HF1.out.trans hf2).below (fun k hk=>.inl ((HLS.out k).2 hk)))));clear hg2 hf2 p0 p1 p2;go_wp2;go_roundw
    case rel=>exact⟨i+1,nv2,D2,c2,by omega,by go_num,by omega,HG2.out,HB2.out⟩
    case measure=>simp[intOf];omega
  . have hltI:¬(i:Int)<(n:Int):=by omega
    have HN1:Hid (namesF (fs.take i)=namesF fs):=zA (by rw[zK (by rw[<- HN.out];omega)]);have HNL2:Hid ((namesF fs).length<=2*n):=zA (by rw[<- HN1.out];exact HNL.out i);rw[HN1.out]at HG;obtain⟨⟨g0,g1,g2⟩,_⟩:=cells3G HG.out.blk;have C:=zA (sortS_any HG.out.ow (by have:=HNL2.out;omega));clear HN1;go_wp2_with fail;refine C.out.mono ?_;rintro e ws ⟨rfl,hows,hgrs⟩;obtain⟨V,hV⟩:∃V,V=vertsL fs:=⟨_,rfl⟩
    rw[sort_names,<- hV]at hows;have hVl:V.length=(namesF fs).length:=by rw[hV,<- sort_names,(sortW_perm _).length_eq]
    have hVn:V.Nodup:=by rw[hV,<- sort_names];exact(sortW_perm _).nodup_iff.2 (namesF_spec fs [] List.nodup_nil).1
    have HVN:=zA hVn;have HGS:Hid (GrB S ws gb mb nv (.slice none 0 0) D cc V []):=zA { HG.out with
     blk:=blk_grownG HG.out.blk hgrs (own_neG HG.out.ow HG.out.blk (by decide))
     ow:=by rw[hVl];exact hows
     oe:=⟨rfl,.inl ⟨rfl,rfl⟩⟩
     om:=map_keyG HG.out.om (fun o ho=>blk_grownG ho hgrs (own_ne_mapG HG.out.ow HG.out.om))
     keys:=fun s=>by
      rw[HG.out.keys s];congr 1;rw[hV,<- sort_names,(sortW_perm _).mem_iff] }
    have HBS:Hid (Below w.heap.size w ws):=zA (HBW.out.grown hgrs HBW.out.size (fun k e=>by
     rcases Nat.lt_or_ge k w.heap.size with h1|h1
     . exact absurd ((HLS.out k).2 h1) (HG.out.outw k e)
     . exact h1))
    have hVl2:V.length<=2*n:=by rw[hVl];exact HNL2.out
    have HV:=zA hV;clear hows hgrs g0 g1 g2 hVl hVn hV;obtain⟨na,ncap,hnv⟩:=own_slice HGS.out.ow;obtain⟨k,hk⟩:∃k,k=V.length:=⟨_,rfl⟩
    rw[<- hk]at hnv hVl2;subst hnv;have HK:=zA hk;clear hk;obtain⟨⟨g0,g1,g2⟩,_⟩:=cells3G HGS.out.blk;obtain⟨wo,hwo⟩:∃wo,wo=ws:=⟨_,rfl⟩
    subst hwo;have HVW:Hid (∀s∈V,s.length<=140737488351232):=zA (fun s hs=>by
     rw[HV.out,mem_verts]at hs;obtain⟨f,hf,e|e⟩:=hs
     . rw[e];exact(HW.out f hf).1
     . rw[e];exact(HW.out f hf).2.2)
    go_wp2_with fail;go_loopw [38] (fun c wr=>∃(i:Nat) (D:DataW Unit) (cc:Nat),i<=k/\c=.int .i64 i/\cc<=2*n+i/\GrB S wr gb mb (.slice na k ncap) (.slice none 0 0) D cc V []/\TellsG D V i/\Below w.heap.size w wr) (fun c _=>k-(intOf c).toNat)
    case atStart=>exact⟨0,D,cc,zS _,rfl,by omega,HGS.out,fun j s hj=>absurd hj (Nat.not_lt_zero _),HBS.out⟩
    case round=>
     obtain⟨j,D,cj,hj,rfl,hcj,hg,htell,hbw⟩:=hrel;obtain⟨wy,hwy⟩:∃wy,wy=wr:=⟨_,rfl⟩
     subst hwy;have HG:=zA hg;have HBW:=zA hbw;have HTL:=zA htell;clear hg hbw htell g0 g1 g2;obtain⟨⟨g0,g1,g2⟩,_⟩:=cells3G HG.out.blk;by_cases hlt2:j<k
     . have hltI2:(j:Int)<(k:Int):=by omega
       obtain⟨s,hs⟩:∃s,V[j]?=some s:=⟨_,zB (by rw[<- HK.out];exact hlt2)⟩
       obtain⟨g,off,hna,q0⟩:∃g off,na=some ⟨g,off,none⟩/\wy.cell? ⟨g,off+j,none⟩=some (.string ⟨s.toArray⟩):=by
        have h1:TxtS _ wy (.slice na k ncap) V:=own_sl (enc:=csT) (fun _=>rfl) HG.out.ow rfl;obtain⟨g,off,e1,_,_,e4⟩:=h1.get hs;have e5:=e4 0 _ rfl;rw[yK,yF]at e5;exact⟨g,off,e1,e5⟩
       subst hna;have HSV:=zA hs;have HKY:=zA (keySG s (by have:=HVW.out s (zC hs);unfold maxLen;omega));clear hs;go_wp2_with (at_mapUpdate;refine wpList_mapUpdate_own _ rfl _ _ _ 69 rfl 9 3 lawSG Tryz.underlying69 _ mb _ D rfl HG.out.om ?m1 _ _ _ rfl rfl HKY.out _ [] (plainElem_int Tryz.underlying3 ?m2) ?_)
       case m1=>unfold maxLen;omega
       case m2=>simp[Lit.wf,IntKind.min,IntKind.max,IntKind.bits,IntKind.signed];omega
       intro w3 hown3 hgrow3;obtain⟨hb3,ho3,he3⟩:=HG.out.turned hgrow3;have HG3:Hid (GrB S w3 gb mb (.slice (some ⟨g,off,none⟩) k ncap) (.slice none 0 0) (D.put (.string s) (.lit (.int .i64 (j:Int)))) (cj+1) V []):=zA { HG.out with blk:=hb3,ow:=ho3,oe:=he3,om:=hown3,keys:=keys_same HG.out.om.isMap HG.out.keys (zC HSV.out) };have HT3:=zA (HTL.out.put HG.out.om.isMap HVN.out HSV.out);have HB3:Hid (Below w.heap.size w w3):=zA (HBW.out.grown hgrow3 HBW.out.size (fun k e=>by
        cases e
        have:=HMB.out;omega))
       clear hown3 hgrow3 hb3 ho3 he3 g0 g1 g2;go_wp2;go_roundw
       case rel=>exact⟨j+1,_,cj+1,by omega,by go_num,by omega,HG3.out,HT3.out,HB3.out⟩
       case measure=>simp[intOf];omega
     . have hltI2:¬(j:Int)<(k:Int):=by omega
       have HTV:Hid (TellsG D V V.length):=zA (fun a s ha=>HTL.out a s (by have:=HK.out;omega));obtain⟨wp,hwp⟩:∃wp,wp=wy:=⟨_,rfl⟩
       subst hwp;have HGP:=HG;have HBP:=HBW;clear HG HBW HTL g0 g1 g2;have hcj2:cj<=1000000:=by omega
       go_wp2_with fail;go_loopw [52] (fun c wr=>∃(i:Nat) (ev:Value),i<=n/\c=.int .i64 i/\GrB S wr gb mb (.slice na k ncap) ev D cj V ((fs.take i).map (egOf V))/\Below w.heap.size w wr) (fun c _=>n-(intOf c).toNat)
       case atStart=>exact⟨0,_,zS _,rfl,HGP.out,HBP.out⟩
       case round=>
        obtain⟨i,ev,hi2,rfl,hg,hbw⟩:=hrel;obtain⟨wy2,hwy2⟩:∃wy,wy=wr:=⟨_,rfl⟩
        subst hwy2;have HG:=zA hg;have HBW:=zA hbw;clear hg hbw;by_cases hlt3:i<n
        . have hltI3:(i:Int)<(n:Int):=by omega
          obtain⟨⟨f0,f1,f2⟩,hx⟩:∃x,fs[i]?=some x:=⟨_,zB (by rw[<- HN.out];exact hlt3)⟩
          obtain⟨g,off,hla,_,hgl,hcell⟩:=(H.out.below HBW.out).get hx;subst hla;obtain⟨q0,q1,q2⟩:=getF hcell;have hwf:=HW.out _ (zC hx);dsimp only at hwf q0 q1 q2;have hm0:f0∈V:=by rw[HV.out,mem_verts];exact⟨_,zC hx,.inl rfl⟩
          have hm2:f2∈V:=by rw[HV.out,mem_verts];exact⟨_,zC hx,.inr rfl⟩
          have HT:Hid ((fs.take (i+1)).map (egOf V)=(fs.take i).map (egOf V)++[(V.idxOf f0,f1,V.idxOf f2)]):=zA (by
           rw[zT,hx,yR,yP];rfl)
          obtain⟨x0,hx0⟩:∃x,x=V.idxOf f0:=⟨_,rfl⟩
          obtain⟨x2,hx2⟩:∃x,x=V.idxOf f2:=⟨_,rfl⟩
          have hi0':=idx_at hm0;have hi2':=idx_at hm2;rw[<- hx0]at HT hi0';rw[<- hx2]at HT hi2';have HLK:Hid (∀u:World,u.heap[mb]?=wy2.heap[mb]?->(Instr.lookup 69 (.map (some mb)) (.string ⟨f0.toArray⟩) false).run Tryz.prog u=.ok (.int .i64 (x0:Int)) u/\(Instr.lookup 69 (.map (some mb)) (.string ⟨f2.toArray⟩) false).run Tryz.prog u=.ok (.int .i64 (x2:Int)) u):=zA (fun u hu=>by
           have hom:=map_keyG (w':=u) HG.out.om (fun o ho=>hu.trans ho);constructor
           . obtain⟨z,hr,hat,_⟩:=hom.lookup_int lawSG Tryz.underlying69 Tryz.underlying3 (zeroIG u) (keySG f0 (by unfold maxLen;omega));rw[HTV.out x0 f0 (zE.1 hi0').1 hi0']at hat;injection hat with hat;injection hat with _ hat;rw[hat];exact hr
           . obtain⟨z,hr,hat,_⟩:=hom.lookup_int lawSG Tryz.underlying69 Tryz.underlying3 (zeroIG u) (keySG f2 (by unfold maxLen;omega));rw[HTV.out x2 f2 (zE.1 hi2').1 hi2']at hat;injection hat with hat;injection hat with _ hat;rw[hat];exact hr)
          obtain⟨ea,ec,hev⟩:=own_slice HG.out.oe;obtain⟨ne,hne⟩:∃e,e=((fs.take i).map (egOf V)).length:=⟨_,rfl⟩
          have hnel:ne<=10000:=by rw[hne,zH,yL];omega
          rw[<- hne]at hev;subst hev;have HNE:=zA hne;obtain⟨fbk,hfb⟩:∃b,b=wy2.heap.size:=⟨_,rfl⟩
          obtain⟨o,ho⟩:∃o,o=Obj.cells #[.string ⟨f0.toArray⟩,.string ⟨f1.toArray⟩,.string ⟨f2.toArray⟩] 32 (0,0):=⟨_,rfl⟩
          obtain⟨wz,hwz⟩:∃wz,wz=wy2.alloc o:=⟨_,rfl⟩
          have hb1:Below wy2.heap.size wy2 wz:=by rw[hwz];exact(zF _ _).alloc (zD _) _
          have hbl:wz.heap[fbk]?=some o:=by rw[hwz,hfb];exact heap_alloc_new _ _
          have hGz:=HG.out.below hb1;have KS:Hid (∀u,Below wz.heap.size wz u->u.cell? ⟨gb,1,none⟩=some (.map (some mb))/\u.cell? ⟨fbk,0,none⟩=some (.string ⟨f0.toArray⟩)/\u.cell? ⟨fbk,1,none⟩=some (.string ⟨f1.toArray⟩)/\u.cell? ⟨fbk,2,none⟩=some (.string ⟨f2.toArray⟩)/\(Instr.lookup 69 (.map (some mb)) (.string ⟨f0.toArray⟩) false).run Tryz.prog u=.ok (.int .i64 (x0:Int)) u/\(Instr.lookup 69 (.map (some mb)) (.string ⟨f2.toArray⟩) false).run Tryz.prog u=.ok (.int .i64 (x2:Int)) u):=zA (fun u hu=>by
           have hbu:u.heap[fbk]?=some o:=(hu.block fbk (lt_of_block hbl)).trans hbl;rw[ho]at hbu;obtain⟨⟨p0,p1,p2⟩,_⟩:=cells3G hbu;obtain⟨⟨c0,c1,c2⟩,_⟩:=cells3G (hGz.below hu).blk;have hmb2:u.heap[mb]?=wy2.heap[mb]?:=(hu.block mb hGz.om.lt).trans (hb1.block mb HG.out.om.lt);exact⟨c1,p0,p1,p2,(HLK.out u hmb2).1,(HLK.out u hmb2).2⟩)
          have HA1:Hid (Below wz.heap.size wz wz.drew):=zA (zF _ _).drew;have HA2:Hid (Below wz.heap.size wz (wz.drew.alloc (.cells #[.int .i64 (x0:Int),.string ⟨f1.toArray⟩,.int .i64 (x2:Int)] 93))):=zA ((zF _ _).drew.alloc (zD _) _);have HOE2:Hid ((wz.drew.alloc (.cells #[.int .i64 (x0:Int),.string ⟨f1.toArray⟩,.int .i64 (x2:Int)] 93)).ownsRow 0 93 3 (.slice ea ne ec) ne (((fs.take i).map (egOf V)).flatMap csE)):=zA (by
           have:=(hGz.below HA2.out).oe;rw[<- HNE.out]at this;exact this)
          have HNW:Hid (∀(j:Nat) u,[Value.int .i64 (x0:Int),.string ⟨f1.toArray⟩,.int .i64 (x2:Int)][j]?=some u->(wz.drew.alloc (.cells #[.int .i64 (x0:Int),.string ⟨f1.toArray⟩,.int .i64 (x2:Int)] 93)).cell? ((⟨wz.heap.size,0,none⟩:Addr).add j)=some u):=zA (World.news_of_block (cs:=#[.int .i64 (x0:Int),.string ⟨f1.toArray⟩,.int .i64 (x2:Int)]) (t:=93) (fr:=(0,0)) (heap_alloc_new wz.drew _));have HKG:Hid (∀gg cap2 w9,w9.ownsRow 0 93 3 (.slice (some ⟨gg,0,none⟩) (ne+1) cap2) (ne+1) (((fs.take i).map (egOf V)).flatMap csE++[.int .i64 (x0:Int),.string ⟨f1.toArray⟩,.int .i64 (x2:Int)])->(wz.drew.alloc (.cells #[.int .i64 (x0:Int),.string ⟨f1.toArray⟩,.int .i64 (x2:Int)] 93)).grownBy w9 (Value.slice ea ne ec).ownBlock->((Value.slice ea ne ec).ownBlock=some gg\/gg=wz.heap.size+1)->
           (w9.cell? ⟨gb,1,none⟩=some (.map (some mb))/\w9.cell? ⟨fbk,0,none⟩=some (.string ⟨f0.toArray⟩)/\w9.cell? ⟨fbk,1,none⟩=some (.string ⟨f1.toArray⟩)/\w9.cell? ⟨fbk,2,none⟩=some (.string ⟨f2.toArray⟩)/\(Instr.lookup 69 (.map (some mb)) (.string ⟨f0.toArray⟩) false).run Tryz.prog w9=.ok (.int .i64 (x0:Int)) w9/\(Instr.lookup 69 (.map (some mb)) (.string ⟨f2.toArray⟩) false).run Tryz.prog w9=.ok (.int .i64 (x2:Int)) w9)/\((w9.setCell ⟨gb,2,none⟩ (.slice (some ⟨gg,0,none⟩) (ne+1) cap2)).cell? ⟨gb,1,none⟩=some (.map (some mb))/\(w9.setCell ⟨gb,2,none⟩ (.slice (some ⟨gg,0,none⟩) (ne+1) cap2)).cell? ⟨fbk,0,none⟩=some (.string ⟨f0.toArray⟩)/\(w9.setCell ⟨gb,2,none⟩ (.slice (some ⟨gg,0,none⟩) (ne+1) cap2)).cell? ⟨fbk,1,none⟩=some (.string ⟨f1.toArray⟩)/\(w9.setCell ⟨gb,2,none⟩ (.slice (some ⟨gg,0,none⟩) (ne+1) cap2)).cell? ⟨fbk,2,none⟩=some (.string ⟨f2.toArray⟩)/\(Instr.lookup 69 (.map (some mb)) (.string ⟨f0.toArray⟩) false).run Tryz.prog (w9.setCell ⟨gb,2,none⟩ (.slice (some ⟨gg,0,none⟩) (ne+1) cap2))=.ok (.int .i64 (x0:Int)) (w9.setCell ⟨gb,2,none⟩ (.slice (some ⟨gg,0,none⟩) (ne+1) cap2))/\(Instr.lookup 69 (.map (some mb)) (.string ⟨f2.toArray⟩) false).run Tryz.prog (w9.setCell ⟨gb,2,none⟩ (.slice (some ⟨gg,0,none⟩) (ne+1) cap2))=.ok (.int .i64 (x2:Int)) (w9.setCell ⟨gb,2,none⟩ (.slice (some ⟨gg,0,none⟩) (ne+1) cap2)))/\(w9.cell? ⟨gb,2,none⟩=some (.slice ea ne ec)/\w9.frozen? ⟨gb,2,none⟩=false)/\GrB S (w9.setCell ⟨gb,2,none⟩ (.slice (some ⟨gg,0,none⟩) (ne+1) cap2)) gb mb (.slice na k ncap) (.slice (some ⟨gg,0,none⟩) (ne+1) cap2) D cj V ((fs.take (i+1)).map (egOf V))/\Below w.heap.size w (w9.setCell ⟨gb,2,none⟩ (.slice (some ⟨gg,0,none⟩) (ne+1) cap2))):=zA (fun gg cap2 w9 h1 h2 h3=>by
           have hG2:=hGz.below HA2.out;have hgb9:=blk_grownG hG2.blk h2 (own_neG hG2.oe hG2.blk (by decide));have hm9:=map_keyG (w':=w9) hG2.om (fun o ho=>blk_grownG ho h2 (own_ne_mapG hG2.oe hG2.om));have hw9:w9.ownsRow 0 9 1 (.slice na k ncap) V.length (V.flatMap csT):=owns_grownG hG2.ow h2 (fun g e e2=>by
            rcases hG2.oe.2 with⟨e3,_⟩|⟨b,c3,cur,e3,_,e4,_⟩
            . rw[e3]at e;simp[Value.ownBlock]at e
            . have:b=g:=by rw[e3]at e;simpa[Value.ownBlock]using e
              subst this;exact own_neG hG2.ow e4 (by decide) e2)
           have hbk9:w9.heap[fbk]?=some o:=by
            refine blk_grownG ((HA2.out.block fbk (lt_of_block hbl)).trans hbl) h2 ?_;have hbl2:=(HA2.out.block fbk (lt_of_block hbl)).trans hbl;rw[ho]at hbl2;exact own_neG hG2.oe hbl2 (by decide)
           have hmb9:w9.heap[mb]?=wy2.heap[mb]?:=by
            obtain⟨es,cl,e1,_⟩:=HG.out.om;rw[e1];exact blk_grownG ((HA2.out.block mb hGz.om.lt).trans ((hb1.block mb HG.out.om.lt).trans e1)) h2 (own_ne_mapG hG2.oe hG2.om)
           rw[ho]at hbk9;obtain⟨⟨p0,p1,p2⟩,_⟩:=cells3G hbk9;obtain⟨⟨c0,c1,c2⟩,⟨_,_,c5⟩⟩:=cells3G hgb9;have hset:∀b,b≠gb->(w9.setCell ⟨gb,2,none⟩ (.slice (some ⟨gg,0,none⟩) (ne+1) cap2)).heap[b]?=w9.heap[b]?:=fun b hb=>zM _ _ _ _ hb
           have hfin:(w9.setCell ⟨gb,2,none⟩ (.slice (some ⟨gg,0,none⟩) (ne+1) cap2)).heap[fbk]?=_:=(hset fbk (fun e=>by rw[e,hgb9]at hbk9;cases hbk9)).trans hbk9;obtain⟨⟨z0,z1,z2⟩,_⟩:=cells3G hfin;obtain⟨⟨y0,y1,y2⟩,_⟩:=cells3G (set3_2 (v:=.slice (some ⟨gg,0,none⟩) (ne+1) cap2) hgb9);have hmbf:(w9.setCell ⟨gb,2,none⟩ (.slice (some ⟨gg,0,none⟩) (ne+1) cap2)).heap[mb]?=wy2.heap[mb]?:=(hset mb (blk_ne_mapG hgb9 hm9)).trans hmb9;refine⟨⟨c1,p0,p1,p2,(HLK.out w9 hmb9).1,(HLK.out w9 hmb9).2⟩,⟨y1,z0,z1,z2,(HLK.out _ hmbf).1,(HLK.out _ hmbf).2⟩,⟨c2,c5⟩,?_,?_⟩
           . refine { HG.out with blk:=set3_2 hgb9,ow:=owns_key hw9 (fun g o hg ho=>(hset g (fun e=>own_neG hw9 hgb9 (by decide) (by rw[hg,e]))).trans ho),oe:=?_,om:=map_keyG hm9 (fun o ho=>(hset mb (blk_ne_mapG hgb9 hm9)).trans ho),oute:=fun g hg hs=>?_ }
             . have h4:w9.ownsRow 0 93 3 (.slice (some ⟨gg,0,none⟩) (ne+1) cap2) ((fs.take (i+1)).map (egOf V)).length (((fs.take (i+1)).map (egOf V)).flatMap csE):=by
                rw[HT.out,zG,<- HNE.out,zY];exact h1
               exact owns_key h4 (fun g o hg ho=>(hset g (fun e=>own_neG h4 hgb9 (by decide) (by rw[hg,e]))).trans ho)
             . have e1:gg=g:=by simpa[Value.ownBlock]using hg
               subst e1;rcases h3 with h3|h3
               . exact HG.out.oute gg h3 hs
               . have h5:=(HLS.out gg).1 hs;have h6:=HBW.out.size;have h7:=hb1.size;omega
           . refine Below.setCell (p:=⟨gb,2,none⟩) ?_ (by have:=HGB.out;show w.heap.size<=gb;omega) _;exact(HBW.out.trans ((hb1.mono HBW.out.size).trans (HA2.out.mono (zQ HBW.out.size hb1.size)))).grown h2 (by have h6:=HBW.out.size;have h7:=hb1.size;simp;omega) (fun k e=>by
              rcases Nat.lt_or_ge k w.heap.size with h8|h8
              . exact absurd ((HLS.out k).2 h8) (HG.out.oute k e)
              . exact h8))
          have HL2:Hid (wz.drew.cell? ⟨gb,2,none⟩=some (.slice ea ne ec)):=zA (cells3G (hGz.below HA1.out).blk).1.2.2;have HL3:=zA (cells3G (hGz.below HA2.out).blk).1.2.2;have hgl2:=hgl;clear hx hcell hm0 hm2 hi0' hi2' hx0 hx2 hwf hb1 hbl hGz hne;subst ho;rw[hfb]at KS;go_wp2_with fail;rw[<- hwz];rw[<- hfb]at KS ⊢;clear hwz hfb q0 q1 q2;have hl2:wz.drew.cell? ⟨gb,2,none⟩=some (.slice ea ne ec):=HL2.out;have hl3:(wz.alloc (.cells #[.int .i64 (x0:Int),.string ⟨f1.toArray⟩,.int .i64 (x2:Int)] 93)).cell? ⟨gb,2,none⟩=some (.slice ea ne ec):=HL3.out;refine wp_region_held_drew (S:=fun u=>u.cell? ⟨gb,1,none⟩=some (.map (some mb))/\u.cell? ⟨fbk,0,none⟩=some (.string ⟨f0.toArray⟩)/\u.cell? ⟨fbk,1,none⟩=some (.string ⟨f1.toArray⟩)/\u.cell? ⟨fbk,2,none⟩=some (.string ⟨f2.toArray⟩)/\(Instr.lookup 69 (.map (some mb)) (.string ⟨f0.toArray⟩) false).run Tryz.prog u=.ok (.int .i64 (x0:Int)) u/\(Instr.lookup 69 (.map (some mb)) (.string ⟨f2.toArray⟩) false).run Tryz.prog u=.ok (.int .i64 (x2:Int)) u) (by kernel_rfl) ?_ (fun hHeld=>?_)
          . exact KS.out _ HA1.out
          refine tkH (i:=0) (oi:=⟨some 56,.move (.tmp 3),62, "model.go:79",#[],none⟩) (v:=?_) rfl ?_ hHeld ?_;rotate_left 1
          . rintro W ⟨l1,l2,l3,l4,l5,l6⟩;go_simp;try with_reducible rfl
          simp only[Act.put,zIB,zSZ,zSS];refine tkH (i:=1) (oi:=⟨some 57,.move (.tmp 3),62, "model.go:79",#[],none⟩) (v:=?_) rfl ?_ hHeld ?_;rotate_left 1
          . rintro W ⟨l1,l2,l3,l4,l5,l6⟩;go_simp;try with_reducible rfl
          simp only[Act.put,zIB,zSZ,zSS];refine tkH (i:=2) (oi:=⟨some 58,.nilCheck (.tmp 57),0, "model.go:79",#[⟨1,.data⟩],none⟩) (v:=?_) rfl ?_ hHeld ?_;rotate_left 1
          . rintro W ⟨l1,l2,l3,l4,l5,l6⟩;go_simp;try with_reducible rfl
          simp only[Act.put,zIB,zSZ,zSS];refine tkH (i:=3) (oi:=⟨some 59,.fieldAddr 72 (.tmp 58) 2,0, "model.go:79",#[⟨2,.data⟩],none⟩) (v:=?_) rfl ?_ hHeld ?_;rotate_left 1
          . rintro W ⟨l1,l2,l3,l4,l5,l6⟩;go_simp;try with_reducible rfl
          simp only[Act.put,zIB,zSZ,zSS];refine tkH (i:=5) (oi:=⟨some 61,.move (.tmp 3),62, "model.go:79",#[],none⟩) (v:=?_) rfl ?_ hHeld ?_;rotate_left 1
          . rintro W ⟨l1,l2,l3,l4,l5,l6⟩;go_simp;try with_reducible rfl
          simp only[Act.put,zIB,zSZ,zSS];refine tkH (i:=6) (oi:=⟨some 62,.nilCheck (.tmp 61),0, "model.go:79",#[⟨5,.data⟩],none⟩) (v:=?_) rfl ?_ hHeld ?_;rotate_left 1
          . rintro W ⟨l1,l2,l3,l4,l5,l6⟩;go_simp;try with_reducible rfl
          simp only[Act.put,zIB,zSZ,zSS];refine tkH (i:=7) (oi:=⟨some 63,.fieldAddr 72 (.tmp 62) 1,0, "model.go:79",#[⟨6,.data⟩],none⟩) (v:=?_) rfl ?_ hHeld ?_;rotate_left 1
          . rintro W ⟨l1,l2,l3,l4,l5,l6⟩;go_simp;try with_reducible rfl
          simp only[Act.put,zIB,zSZ,zSS];refine tkH (i:=8) (oi:=⟨some 64,.load 69 (.tmp 63),69, "model.go:79",#[⟨7,.data⟩],none⟩) (v:=?_) rfl ?_ hHeld ?_;rotate_left 1
          . rintro W ⟨l1,l2,l3,l4,l5,l6⟩;go_simp;try with_reducible rfl
          simp only[Act.put,zIB,zSZ,zSS];refine tkH (i:=9) (oi:=⟨some 65,.fieldAddr 32 (.tmp 9) 0,0, "model.go:79",#[],none⟩) (v:=?_) rfl ?_ hHeld ?_;rotate_left 1
          . rintro W ⟨l1,l2,l3,l4,l5,l6⟩;go_simp;try with_reducible rfl
          simp only[Act.put,zIB,zSZ,zSS];refine tkH (i:=10) (oi:=⟨some 66,.load 9 (.tmp 65),9, "model.go:79",#[⟨9,.data⟩],none⟩) (v:=?_) rfl ?_ hHeld ?_;rotate_left 1
          . rintro W ⟨l1,l2,l3,l4,l5,l6⟩;go_simp;try with_reducible rfl
          simp only[Act.put,zIB,zSZ,zSS];refine tkH (i:=11) (oi:=⟨some 67,.lookup 69 (.tmp 64) (.tmp 66) false,3, "model.go:79",#[⟨8,.data⟩,⟨10,.data⟩],none⟩) (v:=?_) rfl ?_ hHeld ?_;rotate_left 1
          . rintro W ⟨l1,l2,l3,l4,l5,l6⟩;go_simp;try with_reducible rfl
          simp only[Act.put,zIB,zSZ,zSS];refine tkH (i:=12) (oi:=⟨some 68,.fieldAddr 32 (.tmp 9) 1,0, "model.go:79",#[],none⟩) (v:=?_) rfl ?_ hHeld ?_;rotate_left 1
          . rintro W ⟨l1,l2,l3,l4,l5,l6⟩;go_simp;try with_reducible rfl
          simp only[Act.put,zIB,zSZ,zSS];refine tkH (i:=13) (oi:=⟨some 69,.load 9 (.tmp 68),9, "model.go:79",#[⟨12,.data⟩],none⟩) (v:=?_) rfl ?_ hHeld ?_;rotate_left 1
          . rintro W ⟨l1,l2,l3,l4,l5,l6⟩;go_simp;try with_reducible rfl
          simp only[Act.put,zIB,zSZ,zSS];refine tkH (i:=14) (oi:=⟨some 70,.move (.tmp 3),62, "model.go:79",#[],none⟩) (v:=?_) rfl ?_ hHeld ?_;rotate_left 1
          . rintro W ⟨l1,l2,l3,l4,l5,l6⟩;go_simp;try with_reducible rfl
          simp only[Act.put,zIB,zSZ,zSS];refine tkH (i:=15) (oi:=⟨some 71,.nilCheck (.tmp 70),0, "model.go:79",#[⟨14,.data⟩],none⟩) (v:=?_) rfl ?_ hHeld ?_;rotate_left 1
          . rintro W ⟨l1,l2,l3,l4,l5,l6⟩;go_simp;try with_reducible rfl
          simp only[Act.put,zIB,zSZ,zSS];refine tkH (i:=16) (oi:=⟨some 72,.fieldAddr 72 (.tmp 71) 1,0, "model.go:79",#[⟨15,.data⟩],none⟩) (v:=?_) rfl ?_ hHeld ?_;rotate_left 1
          . rintro W ⟨l1,l2,l3,l4,l5,l6⟩;go_simp;try with_reducible rfl
          simp only[Act.put,zIB,zSZ,zSS];refine tkH (i:=17) (oi:=⟨some 73,.load 69 (.tmp 72),69, "model.go:79",#[⟨16,.data⟩],none⟩) (v:=?_) rfl ?_ hHeld ?_;rotate_left 1
          . rintro W ⟨l1,l2,l3,l4,l5,l6⟩;go_simp;try with_reducible rfl
          simp only[Act.put,zIB,zSZ,zSS];refine tkH (i:=18) (oi:=⟨some 74,.fieldAddr 32 (.tmp 9) 2,0, "model.go:79",#[],none⟩) (v:=?_) rfl ?_ hHeld ?_;rotate_left 1
          . rintro W ⟨l1,l2,l3,l4,l5,l6⟩;go_simp;try with_reducible rfl
          simp only[Act.put,zIB,zSZ,zSS];refine tkH (i:=19) (oi:=⟨some 75,.load 9 (.tmp 74),9, "model.go:79",#[⟨18,.data⟩],none⟩) (v:=?_) rfl ?_ hHeld ?_;rotate_left 1
          . rintro W ⟨l1,l2,l3,l4,l5,l6⟩;go_simp;try with_reducible rfl
          simp only[Act.put,zIB,zSZ,zSS];refine tkH (i:=20) (oi:=⟨some 76,.lookup 69 (.tmp 73) (.tmp 75) false,3, "model.go:79",#[⟨17,.data⟩,⟨19,.data⟩],none⟩) (v:=?_) rfl ?_ hHeld ?_;rotate_left 1
          . rintro W ⟨l1,l2,l3,l4,l5,l6⟩;go_simp;try with_reducible rfl
          simp only[Act.put,zIB,zSZ,zSS];refine tkH (i:=21) (oi:=⟨some 77,.build 93 #[(0,.tmp 67),(1,.tmp 69),(2,.tmp 76)],93, "model.go:79",#[⟨11,.data⟩,⟨13,.data⟩,⟨20,.data⟩],none⟩) (v:=?_) rfl ?_ hHeld ?_;rotate_left 1
          . rintro W ⟨l1,l2,l3,l4,l5,l6⟩;go_simp;try with_reducible rfl
          simp only[Act.put,zIB,zSZ,zSS];refine wpAnyH_ready (rs:=[4,22]) (by kernel_rfl) (by simp) ?_;refine AllReadyH.cons (o:=⟨some 60,.load 70 (.tmp 59),70, "model.go:79",#[⟨3,.data⟩],none⟩) rfl (fun K hK=>?_) (AllReadyH.cons (o:=⟨some 78,.buildSlice 70 1 #[(0,.tmp 77)],70, "model.go:79",#[⟨21,.data⟩],none⟩) rfl (fun K hK=>?_) AllReadyH.nil)
          . go_simp;refine hK.out _ _ (KS.out _ HA1.out) (fun hHeld=>?_);clear hK K;refine wpAnyH_ready (rs:=[22]) (by kernel_rfl) (by simp) ?_;refine AllReadyH.cons (o:=⟨some 78,.buildSlice 70 1 #[(0,.tmp 77)],70, "model.go:79",#[⟨21,.data⟩],none⟩) rfl (fun K hK=>?_) AllReadyH.nil;go_simp;refine hK.out _ _ (KS.out _ HA2.out) (fun hHeld=>?_);clear hK K;refine wpAnyH_ready (rs:=[23]) (by kernel_rfl) (by simp) ?_;refine AllReadyH.cons (o:=⟨some 79,.call { callee:=.builtin .append,args:=#[.tmp 60,.tmp 78],argTypes:=#[70,70] },70, "model.go:79",#[⟨4,.data⟩,⟨22,.data⟩],none⟩) rfl (fun K hK=>?_) AllReadyH.nil;refine step_append_lies _ (by rfl) _ _ _ (by rfl) 0 93 i0 _ 3 32 Tryz.underlying70 hi0 hz0 hz1 hz2 rfl (by decide) (.slice ea ne ec) _ _ (by rfl) HOE2.out ⟨wz.heap.size,0,none⟩ 1 1 [.int .i64 (x0:Int),.string ⟨f1.toArray⟩,.int .i64 (x2:Int)] (by rfl) (by rfl) HNW.out (by simp[Value.oneCell']) (by decide) (by unfold maxLen;omega) (by omega) (zS _) (wz.heap.size+1) (by simp) ?_;intro gg cap2 w9 hown9 hgrow9 hat9 hlt9;have HW9:=zA (HKG.out gg cap2 w9 hown9 hgrow9 hat9);refine hK.out _ _ HW9.out.1 (fun hHeld=>?_);clear hK K hown9 hgrow9 hat9 hlt9;obtain⟨c2,c8⟩:=HW9.out.2.2.1;refine tkH (i:=24) (oi:=⟨some 80,.nilCheck (.tmp 56),0, "model.go:79",#[⟨0,.data⟩,⟨0,.phase⟩,⟨1,.phase⟩,⟨2,.phase⟩,⟨3,.phase⟩,⟨4,.phase⟩,⟨5,.phase⟩,⟨6,.phase⟩,⟨7,.phase⟩,⟨8,.phase⟩,⟨9,.phase⟩,⟨10,.phase⟩,⟨11,.phase⟩,⟨12,.phase⟩,⟨13,.phase⟩,⟨14,.phase⟩,⟨15,.phase⟩,⟨16,.phase⟩,⟨17,.phase⟩,⟨18,.phase⟩,⟨19,.phase⟩,⟨20,.phase⟩,⟨21,.phase⟩,⟨22,.phase⟩,⟨23,.phase⟩],none⟩) (v:=?_) rfl ?_ hHeld ?_;rotate_left 1
            . rintro W ⟨l1,l2,l3,l4,l5,l6⟩;go_simp;try with_reducible rfl
            simp only[Act.put,zIB,zSZ,zSS];refine tkH (i:=25) (oi:=⟨some 81,.fieldAddr 72 (.tmp 80) 2,0, "model.go:79",#[⟨24,.data⟩,⟨0,.phase⟩,⟨1,.phase⟩,⟨2,.phase⟩,⟨3,.phase⟩,⟨4,.phase⟩,⟨5,.phase⟩,⟨6,.phase⟩,⟨7,.phase⟩,⟨8,.phase⟩,⟨9,.phase⟩,⟨10,.phase⟩,⟨11,.phase⟩,⟨12,.phase⟩,⟨13,.phase⟩,⟨14,.phase⟩,⟨15,.phase⟩,⟨16,.phase⟩,⟨17,.phase⟩,⟨18,.phase⟩,⟨19,.phase⟩,⟨20,.phase⟩,⟨21,.phase⟩,⟨22,.phase⟩,⟨23,.phase⟩],none⟩) (v:=?_) rfl ?_ hHeld ?_;rotate_left 1
            . rintro W ⟨l1,l2,l3,l4,l5,l6⟩;go_simp;try with_reducible rfl
            simp only[Act.put,zIB,zSZ,zSS];refine wpAnyH_ready (rs:=[26]) (by kernel_rfl) (by simp) ?_;refine AllReadyH.cons (o:=⟨none,.store 70 (.tmp 81) (.tmp 79),0, "model.go:79",#[⟨25,.data⟩,⟨23,.data⟩,⟨23,.chain⟩,⟨0,.phase⟩,⟨1,.phase⟩,⟨2,.phase⟩,⟨3,.phase⟩,⟨4,.phase⟩,⟨5,.phase⟩,⟨6,.phase⟩,⟨7,.phase⟩,⟨8,.phase⟩,⟨9,.phase⟩,⟨10,.phase⟩,⟨11,.phase⟩,⟨12,.phase⟩,⟨13,.phase⟩,⟨14,.phase⟩,⟨15,.phase⟩,⟨16,.phase⟩,⟨17,.phase⟩,⟨18,.phase⟩,⟨19,.phase⟩,⟨20,.phase⟩,⟨21,.phase⟩,⟨22,.phase⟩,⟨23,.phase⟩],none⟩) rfl (fun K hK=>?_) AllReadyH.nil;go_simp;refine hK.out _ _ HW9.out.2.1 (fun hHeld=>?_);clear hK K c2 c8;refine wpAnyH_done (by kernel_rfl) ?_ _;go_wp2;go_roundw
            case rel=>exact⟨i+1,_,by omega,by go_num,HW9.out.2.2.2.1,HW9.out.2.2.2.2⟩
            case measure=>simp[intOf];omega
          . go_simp;refine hK.out _ _ (KS.out _ HA2.out) (fun hHeld=>?_);clear hK K;refine wpAnyH_ready (rs:=[4]) (by kernel_rfl) (by simp) ?_;refine AllReadyH.cons (o:=⟨some 60,.load 70 (.tmp 59),70, "model.go:79",#[⟨3,.data⟩],none⟩) rfl (fun K hK=>?_) AllReadyH.nil;go_simp;refine hK.out _ _ (KS.out _ HA2.out) (fun hHeld=>?_);clear hK K;refine wpAnyH_ready (rs:=[23]) (by kernel_rfl) (by simp) ?_;refine AllReadyH.cons (o:=⟨some 79,.call { callee:=.builtin .append,args:=#[.tmp 60,.tmp 78],argTypes:=#[70,70] },70, "model.go:79",#[⟨4,.data⟩,⟨22,.data⟩],none⟩) rfl (fun K hK=>?_) AllReadyH.nil;refine step_append_lies _ (by rfl) _ _ _ (by rfl) 0 93 i0 _ 3 32 Tryz.underlying70 hi0 hz0 hz1 hz2 rfl (by decide) (.slice ea ne ec) _ _ (by rfl) HOE2.out ⟨wz.heap.size,0,none⟩ 1 1 [.int .i64 (x0:Int),.string ⟨f1.toArray⟩,.int .i64 (x2:Int)] (by rfl) (by rfl) HNW.out (by simp[Value.oneCell']) (by decide) (by unfold maxLen;omega) (by omega) (zS _) (wz.heap.size+1) (by simp) ?_;intro gg cap2 w9 hown9 hgrow9 hat9 hlt9;have HW9:=zA (HKG.out gg cap2 w9 hown9 hgrow9 hat9);refine hK.out _ _ HW9.out.1 (fun hHeld=>?_);clear hK K hown9 hgrow9 hat9 hlt9;obtain⟨c2,c8⟩:=HW9.out.2.2.1;refine tkH (i:=24) (oi:=⟨some 80,.nilCheck (.tmp 56),0, "model.go:79",#[⟨0,.data⟩,⟨0,.phase⟩,⟨1,.phase⟩,⟨2,.phase⟩,⟨3,.phase⟩,⟨4,.phase⟩,⟨5,.phase⟩,⟨6,.phase⟩,⟨7,.phase⟩,⟨8,.phase⟩,⟨9,.phase⟩,⟨10,.phase⟩,⟨11,.phase⟩,⟨12,.phase⟩,⟨13,.phase⟩,⟨14,.phase⟩,⟨15,.phase⟩,⟨16,.phase⟩,⟨17,.phase⟩,⟨18,.phase⟩,⟨19,.phase⟩,⟨20,.phase⟩,⟨21,.phase⟩,⟨22,.phase⟩,⟨23,.phase⟩],none⟩) (v:=?_) rfl ?_ hHeld ?_;rotate_left 1
            . rintro W ⟨l1,l2,l3,l4,l5,l6⟩;go_simp;try with_reducible rfl
            simp only[Act.put,zIB,zSZ,zSS];refine tkH (i:=25) (oi:=⟨some 81,.fieldAddr 72 (.tmp 80) 2,0, "model.go:79",#[⟨24,.data⟩,⟨0,.phase⟩,⟨1,.phase⟩,⟨2,.phase⟩,⟨3,.phase⟩,⟨4,.phase⟩,⟨5,.phase⟩,⟨6,.phase⟩,⟨7,.phase⟩,⟨8,.phase⟩,⟨9,.phase⟩,⟨10,.phase⟩,⟨11,.phase⟩,⟨12,.phase⟩,⟨13,.phase⟩,⟨14,.phase⟩,⟨15,.phase⟩,⟨16,.phase⟩,⟨17,.phase⟩,⟨18,.phase⟩,⟨19,.phase⟩,⟨20,.phase⟩,⟨21,.phase⟩,⟨22,.phase⟩,⟨23,.phase⟩],none⟩) (v:=?_) rfl ?_ hHeld ?_;rotate_left 1
            . rintro W ⟨l1,l2,l3,l4,l5,l6⟩;go_simp;try with_reducible rfl
            simp only[Act.put,zIB,zSZ,zSS];refine wpAnyH_ready (rs:=[26]) (by kernel_rfl) (by simp) ?_;refine AllReadyH.cons (o:=⟨none,.store 70 (.tmp 81) (.tmp 79),0, "model.go:79",#[⟨25,.data⟩,⟨23,.data⟩,⟨23,.chain⟩,⟨0,.phase⟩,⟨1,.phase⟩,⟨2,.phase⟩,⟨3,.phase⟩,⟨4,.phase⟩,⟨5,.phase⟩,⟨6,.phase⟩,⟨7,.phase⟩,⟨8,.phase⟩,⟨9,.phase⟩,⟨10,.phase⟩,⟨11,.phase⟩,⟨12,.phase⟩,⟨13,.phase⟩,⟨14,.phase⟩,⟨15,.phase⟩,⟨16,.phase⟩,⟨17,.phase⟩,⟨18,.phase⟩,⟨19,.phase⟩,⟨20,.phase⟩,⟨21,.phase⟩,⟨22,.phase⟩,⟨23,.phase⟩],none⟩) rfl (fun K hK=>?_) AllReadyH.nil;go_simp;refine hK.out _ _ HW9.out.2.1 (fun hHeld=>?_);clear hK K c2 c8;refine wpAnyH_done (by kernel_rfl) ?_ _;go_wp2;go_roundw
            case rel=>exact⟨i+1,_,by omega,by go_num,HW9.out.2.2.2.1,HW9.out.2.2.2.2⟩
            case measure=>simp[intOf];omega
        . have hltI3:¬(i:Int)<(n:Int):=by omega
          have HE:Hid ((fs.take i).map (egOf V)=fs.map (egOf V)):=zA (by rw[zK (by rw[<- HN.out];omega)]);go_wp2;go_ret;refine⟨gb,mb,.slice na k ncap,ev,D,cj,rfl,?_,HBW.out⟩;rw[<- HV.out,<- HE.out];exact HG.out.read (fun k hk=>(HLS.out k).2 hk) HTV.out
end Go.Proofs.YtdalcipmpelifaaGreatDoor
