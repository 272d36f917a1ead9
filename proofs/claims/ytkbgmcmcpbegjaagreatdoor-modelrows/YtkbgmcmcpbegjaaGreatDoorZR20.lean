/- GNewG. -/
import Derived.Test.YtkbgmcmcpbegjaaGreatDoorZR19
set_option maxRecDepth 100000
set_option maxHeartbeats 16000000
namespace Go.Proofs.YtkbgmcmcpbegjaaGreatDoor
open Go.RowKit Go.Shelf
theorem GrB.more{S T:Nat->Prop}{w:World}{gb mb c:Nat}{nv ev:Value}{D:DataW Unit}{N:List Wd}{E:List Eg}(h:GrB S w gb mb nv ev D c N E)(hT:∀k,T k->S k\/w.heap.size<=k):GrB T w gb mb nv ev D c N E:=
 { h with
  out:=fun hk=>(hT gb hk).elim h.out (fun h1=>absurd (lt_of_block h.blk) (by omega))
  outw:=fun g hg hk=>(hT g hk).elim (h.outw g hg) (fun h1=>absurd (own_lt h.ow hg) (by omega))
  oute:=fun g hg hk=>(hT g hk).elim (h.oute g hg) (fun h1=>absurd (own_lt h.oe hg) (by omega))
  outm:=fun hk=>(hT mb hk).elim h.outm (fun h1=>absurd h.om.lt (by omega)) }
def TellsG(D:DataW Unit)(ws:List Wd)(i:Nat):Prop:=∀(j:Nat) s,j<i->ws[j]?=some s->D.atKey (.string s) (.lit (.int .i64 0))=.lit (.int .i64 (j:Int))
theorem TellsG.put{D:DataW Unit}{ws:List Wd}{i:Nat}{t:Wd}(h:TellsG D ws i)(hm:Maps.IsMap D)(hd:ws.Nodup)(ht:ws[i]?=some t):TellsG (D.put (.string t) (.lit (.int .i64 (i:Int)))) ws (i+1):=fun j s hj hs=>by
 by_cases e:j=i
 . subst e;rw[ht]at hs;injection hs with hs;subst hs;rw[Maps.atKey_put_same hm (show WideAt.IsKeyLit (.string t)from trivial)]
 . have hne:s≠t:=fun e2=>by
    subst e2;have h1:=(zE.1 ht).1;have h2:=(zE.1 hs).1;exact e ((List.getElem?_inj h2 hd).1 (by rw[hs,ht]))
   rw[Maps.atKey_put_other (by simpa using hne)];exact h j s (by omega) hs
def namesF(fs:List Fa):List Wd:=fs.foldl (fun N f=>nameL (nameL N f.1) f.2.2) []
theorem nameL_mem{N:List Wd}{s x:Wd}:x∈nameL N s↔x∈N\/x=s:=by
 unfold nameL;split
 . rename_i h;constructor
   . exact .inl
   . rintro (h1|rfl)
     . exact h1
     . exact h
 . simp
theorem nameL_nodup{N:List Wd}{s:Wd}(h:N.Nodup):(nameL N s).Nodup:=by
 unfold nameL;split
 . exact h
 . rename_i hs;rw[List.nodup_append];refine⟨h,by simp,fun a ha b hb e=>?_⟩;rw[zK.1 hb]at e;subst e;exact hs ha
theorem nameL_len(N:List Wd)(s:Wd):(nameL N s).length<=N.length+1:=by
 unfold nameL;split<;>simp
theorem namesF_spec:∀(fs:List Fa) (N:List Wd),N.Nodup->(fs.foldl (fun N f=>nameL (nameL N f.1) f.2.2) N).Nodup/\(∀x,x∈fs.foldl (fun N f=>nameL (nameL N f.1) f.2.2) N↔x∈N\/∃f∈fs,x=f.1\/x=f.2.2)/\(fs.foldl (fun N f=>nameL (nameL N f.1) f.2.2) N).length<=N.length+2*fs.length
 |[],N,h=>⟨h,by simp,by simp⟩
 |f::fs,N,h=>by
  rw[yN];obtain⟨h1,h2,h3⟩:=namesF_spec fs (nameL (nameL N f.1) f.2.2) (nameL_nodup (nameL_nodup h));refine⟨h1,fun x=>?_,?_⟩
  . rw[h2,nameL_mem,nameL_mem];constructor
    . rintro (((h|h)|h)|⟨g,hg,h⟩)
      . exact .inl h
      . exact .inr ⟨f,zN ..,.inl h⟩
      . exact .inr ⟨f,zN ..,.inr h⟩
      . exact .inr ⟨g,zR _ hg,h⟩
    . rintro (h|⟨g,hg,h⟩)
      . exact .inl (.inl (.inl h))
      . rcases yB.1 hg with rfl|hg
        . rcases h with h|h
          . exact .inl (.inl (.inr h))
          . exact .inl (.inr h)
        . exact .inr ⟨g,hg,h⟩
  . have:=nameL_len (nameL N f.1) f.2.2;have:=nameL_len N f.1;simp only[yI];omega
theorem sort_names(fs:List Fa):jfO (namesF fs)=jac fs:=by
 obtain⟨h1,h2,_⟩:=namesF_spec fs [] List.nodup_nil;refine jbA ordW (jis h1) (jaY fs) (fun t=>?_);rw[(jbn _).mem_iff,jax];unfold namesF;rw[h2];simp
theorem names_take{fs:List Fa}{i:Nat}{f:Fa}(h:fs[i]?=some f):namesF (fs.take (i+1))=nameL (nameL (namesF (fs.take i)) f.1) f.2.2:=by
 unfold namesF;rw[zS,h,yQ,List.foldl_append,yN,List.foldl_nil]
def egOf(V:List Wd)(f:Fa):Eg:=(V.idxOf f.1,f.2.1,V.idxOf f.2.2)
theorem idx_at{V:List Wd}{s:Wd}(h:s∈V):V[V.idxOf s]?=some s:=by
 have h1:V.idxOf s<V.length:=yD h;rw[zB h1,List.getElem_idxOf h1]
structure GrS (S:Nat->Prop) (w:World) (gb:Nat) (N:List Wd) (E:List Eg) (mb:Nat) (nv ev:Value) (D:DataW Unit) (c:Nat):Prop where
 blk:w.heap[gb]?=some (.cells #[nv,.map (some mb),ev] 75 (0,0))
 sg:S gb
 names:TxtS S w nv N
 edges:SlS csE 3 S w ev E
 map:w.ownsMap Tryz.prog 9 (plainElem Tryz.prog 3) mb c D
 sm:S mb
 keys:∀s,Maps.has D (.string s)=decide (s∈N)
 tells:TellsG D N N.length
theorem GrS.keep{S T:Nat->Prop}{w w':World}{gb:Nat}{N:List Wd}{E:List Eg}{mb:Nat}{nv ev:Value}{D:DataW Unit}{c:Nat}(h:GrS S w gb N E mb nv ev D c)(hz:w.heap.size<=w'.heap.size)(hk:∀b,S b->b<w.heap.size->T b/\w'.heap[b]?=w.heap[b]?):GrS T w' gb N E mb nv ev D c:=
 ⟨(hk gb h.sg (lt_of_block h.blk)).2.trans h.blk,(hk gb h.sg (lt_of_block h.blk)).1,h.names.keep hz hk,h.edges.keep hz hk,map_keyG h.map (fun _ ho=>(hk mb h.sm (lt_of_block ho)).2.trans ho),(hk mb h.sm h.map.lt).1,h.keys,h.tells⟩
theorem GrS.fr{S:Nat->Prop}{w w':World}{gb:Nat}{N:List Wd}{E:List Eg}{mb:Nat}{nv ev:Value}{D:DataW Unit}{c:Nat}(h:GrS S w gb N E mb nv ev D c)(hf:Fr S w w'):GrS S w' gb N E mb nv ev D c:=
 h.keep hf.size (fun b hs _=>⟨hs,hf.block b hs⟩)
def GraphE(w:World)(fs:List Fa)(e:Ending)(w':World):Prop:=
 ∃(gb mb:Nat) (nv ev:Value) (D:DataW Unit) (c:Nat),e=.returned (.pointer (some ⟨gb,0,none⟩))/\GrS (fun k=>w.heap.size<=k) w' gb (jac fs) (fs.map (egOf (jac fs))) mb nv ev D c/\Below w.heap.size w w'
theorem GrB.read{S:Nat->Prop}{w:World}{B gb mb c:Nat}{nv ev:Value}{D:DataW Unit}{N:List Wd}{E:List Eg}(h:GrB S w gb mb nv ev D c N E)(hB:∀k,k<B->S k)(ht:TellsG D N N.length):GrS (fun k=>B<=k) w gb N E mb nv ev D c:=by
 have aa:∀k,¬S k->B<=k:=fun k hk=>by
  rcases Nat.lt_or_ge k B with h1|h1
  . exact absurd (hB k h1) hk
  . exact h1
 exact⟨h.blk,aa _ h.out,(jaD (enc:=csT) (fun _=>rfl) h.ow rfl).sub (fun b hb _=>aa b (h.outw b hb)),(jaD csE_len h.oe rfl).sub (fun b hb _=>aa b (h.oute b hb)),h.om,aa _ h.outm,h.keys,ht⟩
theorem newGraph_any{S0:Nat->Prop}{w:World}{v:Value}{fs:List Fa}(h:FasS S0 w v fs)(hl:fs.length<=10000)(hw:∀f∈fs,f.1.length<=140737488351232/\f.2.1.length<=140737488351232/\f.2.2.length<=140737488351232):
 Calls Tryz.prog 29 #[v] w (GraphE w fs):=by
 have hmm:=@run_makeMap Tryz.prog;obtain⟨i0,bB,bt,bI,bH⟩:=jal infoEG;obtain⟨ao,cap,rfl⟩:=h.slice;have H:=zA h;have HW:=zA hw;obtain⟨n,hn⟩:=eX fs.length;rw[<- hn]at H hl ⊢;have HN:=zA hn;obtain⟨S,bu⟩:=eX (fun k=>k<w.heap.size:Nat->Prop);have ay:Hid (∀k,S k↔k<w.heap.size):=zA (fun k=>by rw[bu]);have HS:Hid (Low S w):=zA (fun k hk=>(ay.out k).1 hk);obtain⟨gb,bo⟩:=eX (w.heap.size+1);obtain⟨mb,bd⟩:=eX w.heap.size;have aW:=zA bo;have aU:=zA bd;have b4:Hid (Below w.heap.size w ((w.alloc (.map #[] 0)).alloc (.cells #[.slice none 0 0,.map (some w.heap.size),.slice none 0 0] 75))):=zA (((zF w.heap.size w).alloc (zD _) _).alloc (by simp) _);have bW:Hid (GrB S ((w.alloc (.map #[] 0)).alloc (.cells #[.slice none 0 0,.map (some w.heap.size),.slice none 0 0] 75)) gb mb (.slice none 0 0) (.slice none 0 0) (.map []) 0 [] []):=zA (by
  have b3:(w.alloc (.map #[] 0)).heap.size=w.heap.size+1:=by simp
  refine⟨?_,⟨rfl,.inl ⟨rfl,rfl⟩⟩,⟨rfl,.inl ⟨rfl,rfl⟩⟩,?_,fun hk=>?_,by intro g hg;simp[Value.ownBlock]at hg,by intro g hg;simp[Value.ownBlock]at hg,fun hk=>?_,fun s=>by simp[Maps.has]⟩
  . have:=jma (w.alloc (.map #[] 0)) (.cells #[.slice none 0 0,.map (some w.heap.size),.slice none 0 0] 75);rw[b3]at this;rw[aW.out,aU.out];exact this
  . rw[aU.out];exact(World.ownsMap_made w Tryz.prog 9 (plainElem Tryz.prog 3)).alloc _
  . have:=(ay.out gb).1 hk;have:=aW.out;omega
  . have:=(ay.out mb).1 hk;have:=aU.out;omega)
 have bR:=(namesF_spec fs [] List.nodup_nil).2.2;have ba:Hid (∀i,(namesF (fs.take i)).length<=2*n):=zA (fun i=>by
  have h1:=(namesF_spec (fs.take i) [] List.nodup_nil).2.2;rw[zX]at h1;simp only[List.length_nil,<- HN.out]at h1;unfold namesF;omega)
 clear h hw hn bu bo bd bR;go_enter Tryz.func29,Tryz.ntmps29;go_wp2_with fail;have aS:w.heap.size+1=gb:=aW.out.symm;rw[aS];clear aS;go_loopw [15] (fun c wr=>∃(i:Nat) (nv:Value) (D:DataW Unit) (cc:Nat),i<=n/\c=.int .i64 i/\cc<=2*i/\GrB S wr gb mb nv (.slice none 0 0) D cc (namesF (fs.take i)) []/\Below w.heap.size w wr) (fun c _=>n-(intOf c).toNat)
 case atStart=>exact⟨0,_,_,0,zO _,rfl,zO _,bW.out,b4.out⟩
 case round=>
  obtain⟨i,nv,D,cc,hi,rfl,hcc,hg,aD⟩:=hrel;obtain⟨wx,bN⟩:=eX wr;subst bN;have HG:=zA hg;have ad:=zA aD;clear hg aD;by_cases hlt:i<n
  . have a0:(i:Int)<(n:Int):=by omega
    obtain⟨⟨f0,f1,f2⟩,hx⟩:∃x,fs[i]?=some x:=⟨_,zB (by rw[<- HN.out];exact hlt)⟩
    obtain⟨g,aE,bc,_,bk,ae⟩:=(H.out.below ad.out).get hx;subst bc;obtain⟨q0,q1,q2⟩:=getF ae;have aK:=HW.out _ (zC hx);dsimp only at aK q0 q1 q2;have HT:=zA (names_take hx);dsimp only at HT;obtain⟨fb,av⟩:=eX wx.heap.size;obtain⟨o,ho⟩:=eX (Obj.cells #[.string ⟨f0.toArray⟩,.string ⟨f1.toArray⟩,.string ⟨f2.toArray⟩] 48 (0,0));have al:Below wx.heap.size wx (wx.alloc o):=(zF _ _).alloc (zD _) _;have ar:(wx.alloc o).heap[fb]?=some o:=by rw[av];exact heap_alloc_new _ _
    have bl:GrB (fun k=>S k\/k=fb) (wx.alloc o) gb mb nv (.slice none 0 0) D cc (namesF (fs.take i)) []:=(HG.out.more (fun k hk=>by
     rcases hk with hk|hk
     . exact .inl hk
     . exact .inr (by rw[hk,av];exact zD _))).below al
    have a5:Low (fun k=>S k\/k=fb) (wx.alloc o):=fun k hk=>by
     rcases hk with hk|hk
     . have h1:=(ay.out k).1 hk;have h2:=ad.out.size;simp;omega
     . rw[hk,av];simp
    have C1:=zA (name_any bl a5 f0 aK.1 (by have:=ba.out i;omega) (by omega));have b2:=zA a5;have bV:=zA al;have b9:=zA ar;have ca:=zA av;have HO:=zA ho;obtain⟨hw0,_,bQ⟩:=aK;subst ho;clear hx ae al ar bl a5 av;go_wp2_with fail;refine C1.out.mono ?_;rintro e w1 ⟨rfl,⟨nv1,D1,c1,hc1,bv⟩,aX⟩;have aN:w1.heap[fb]?=_:=(aX.block fb (.inr rfl)).trans b9.out;obtain⟨⟨p0,p1,p2⟩,_⟩:=cells3G aN;have C2:=zA (name_any bv (b2.out.fr aX) f2 bQ (by have:=ba.out i;have:=nameL_len (namesF (fs.take i)) f0;omega) (by omega));have bX:=zA aX;rw[ca.out]at p0 p1 p2;clear bv aX aN;go_wp2_with fail;refine C2.out.mono ?_;rintro e w2 ⟨rfl,⟨bA,D2,c2,hc2,bC⟩,bp⟩;have bP:Hid (GrB S w2 gb mb bA (.slice none 0 0) D2 c2 (namesF (fs.take (i+1))) []):=zA (by
     rw[HT.out];exact bC.more (fun k hk=>.inl (.inl hk)))
    have bS:Hid (Below w.heap.size w w2):=zA (ad.out.trans ((bV.out.mono ad.out.size).trans ((bX.out.trans bp).below (fun k hk=>.inl ((ay.out k).2 hk)))));clear bC bp p0 p1 p2;go_wp2;go_roundw
    case rel=>exact⟨i+1,bA,D2,c2,by omega,by go_num,by omega,bP.out,bS.out⟩
    case measure=>simp[intOf];omega
  . have a0:¬(i:Int)<(n:Int):=by omega
    have a2:Hid (namesF (fs.take i)=namesF fs):=zA (by rw[zJ (by rw[<- HN.out];omega)]);have aT:Hid ((namesF fs).length<=2*n):=zA (by rw[<- a2.out];exact ba.out i);rw[a2.out]at HG;obtain⟨⟨g0,g1,g2⟩,_⟩:=cells3G HG.out.blk;have C:=zA (jjf HG.out.ow (by have:=aT.out;omega));clear a2;go_wp2_with fail;refine C.out.mono ?_;rintro e ws ⟨rfl,aG,az⟩;obtain⟨V,hV⟩:=eX (jac fs);rw[sort_names,<- hV]at aG;have bb:V.length=(namesF fs).length:=by rw[hV,<- sort_names,(jbn _).length_eq]
    have bw:V.Nodup:=by rw[hV,<- sort_names];exact(jbn _).nodup_iff.2 (namesF_spec fs [] List.nodup_nil).1
    have bY:=zA bw;have a1:Hid (GrB S ws gb mb nv (.slice none 0 0) D cc V []):=zA { HG.out with
     blk:=blk_grownG HG.out.blk az (jan HG.out.ow HG.out.blk (by decide))
     ow:=by rw[bb];exact aG
     oe:=⟨rfl,.inl ⟨rfl,rfl⟩⟩
     om:=map_keyG HG.out.om (fun o ho=>blk_grownG ho az (own_ne_mapG HG.out.ow HG.out.om))
     keys:=fun s=>by
      rw[HG.out.keys s];congr 1;rw[hV,<- sort_names,(jbn _).mem_iff] }
    have b6:Hid (Below w.heap.size w ws):=zA (ad.out.grown az ad.out.size (fun k e=>by
     rcases Nat.lt_or_ge k w.heap.size with h1|h1
     . exact absurd ((ay.out k).2 h1) (HG.out.outw k e)
     . exact h1))
    have a9:V.length<=2*n:=by rw[bb];exact aT.out
    have HV:=zA hV;clear aG az g0 g1 g2 bb bw hV;obtain⟨na,ah,bf⟩:=jab a1.out.ow;obtain⟨k,hk⟩:=eX V.length;rw[<- hk]at bf a9;subst bf;have HK:=zA hk;clear hk;obtain⟨⟨g0,g1,g2⟩,_⟩:=cells3G a1.out.blk;obtain⟨wo,b7⟩:=eX ws;subst b7;have b0:Hid (∀s∈V,s.length<=140737488351232):=zA (fun s hs=>by
     rw[HV.out,jax]at hs;obtain⟨f,hf,e|e⟩:=hs
     . rw[e];exact(HW.out f hf).1
     . rw[e];exact(HW.out f hf).2.2)
    go_wp2_with fail;go_loopw [38] (fun c wr=>∃(i:Nat) (D:DataW Unit) (cc:Nat),i<=k/\c=.int .i64 i/\cc<=2*n+i/\GrB S wr gb mb (.slice na k ah) (.slice none 0 0) D cc V []/\TellsG D V i/\Below w.heap.size w wr) (fun c _=>k-(intOf c).toNat)
    case atStart=>exact⟨0,D,cc,zO _,rfl,by omega,a1.out,fun j s hj=>absurd hj (Nat.not_lt_zero _),b6.out⟩
    case round=>
     obtain⟨j,D,cj,hj,rfl,hcj,hg,aF,aD⟩:=hrel;obtain⟨wy,bL⟩:=eX wr;subst bL;have HG:=zA hg;have ad:=zA aD;have a7:=zA aF;clear hg aD aF g0 g1 g2;obtain⟨⟨g0,g1,g2⟩,_⟩:=cells3G HG.out.blk;by_cases hlt2:j<k
     . have aL:(j:Int)<(k:Int):=by omega
       obtain⟨s,hs⟩:∃s,V[j]?=some s:=⟨_,zB (by rw[<- HK.out];exact hlt2)⟩
       obtain⟨g,aE,bJ,q0⟩:∃g aE,na=some ⟨g,aE,none⟩/\wy.cell? ⟨g,aE+j,none⟩=some (.string ⟨s.toArray⟩):=by
        have h1:TxtS _ wy (.slice na k ah) V:=jaD (enc:=csT) (fun _=>rfl) HG.out.ow rfl;obtain⟨g,aE,e1,_,_,e4⟩:=h1.get hs;have e5:=e4 0 _ rfl;rw[yC,yA]at e5;exact⟨g,aE,e1,e5⟩
       subst bJ;have bF:=zA hs;have bT:=zA (keySG s (by have:=b0.out s (zC hs);unfold maxLen;omega));clear hs;go_wp2_with (at_mapUpdate;refine wpList_mapUpdate_own _ rfl _ _ _ 72 rfl 9 3 lawSG Tryz.underlying72 _ mb _ D rfl HG.out.om ?m1 _ _ _ rfl rfl bT.out _ [] (plainElem_int Tryz.underlying3 ?m2) ?_)
       case m1=>unfold maxLen;omega
       case m2=>simp[Lit.wf,IntKind.min,IntKind.max,IntKind.bits,IntKind.signed];omega
       intro w3 aA ai;obtain⟨bE,bh,bD⟩:=HG.out.turned ai;have bM:Hid (GrB S w3 gb mb (.slice (some ⟨g,aE,none⟩) k ah) (.slice none 0 0) (D.put (.string s) (.lit (.int .i64 (j:Int)))) (cj+1) V []):=zA { HG.out with blk:=bE,ow:=bh,oe:=bD,om:=aA,keys:=keys_same HG.out.om.isMap HG.out.keys (zC bF.out) };have bO:=zA (a7.out.put HG.out.om.isMap bY.out bF.out);have bZ:Hid (Below w.heap.size w w3):=zA (ad.out.grown ai ad.out.size (fun k e=>by
        cases e
        have:=aU.out;omega))
       clear aA ai bE bh bD g0 g1 g2;go_wp2;go_roundw
       case rel=>exact⟨j+1,_,cj+1,by omega,by go_num,by omega,bM.out,bO.out,bZ.out⟩
       case measure=>simp[intOf];omega
     . have aL:¬(j:Int)<(k:Int):=by omega
       have a8:Hid (TellsG D V V.length):=zA (fun a s ha=>a7.out a s (by have:=HK.out;omega));obtain⟨wp,b8⟩:=eX wy;subst b8;have bU:=HG;have b5:=ad;clear HG ad a7 g0 g1 g2;have hcj2:cj<=1000000:=by omega
       go_wp2_with fail;go_loopw [52] (fun c wr=>∃(i:Nat) (ev:Value),i<=n/\c=.int .i64 i/\GrB S wr gb mb (.slice na k ah) ev D cj V ((fs.take i).map (egOf V))/\Below w.heap.size w wr) (fun c _=>n-(intOf c).toNat)
       case atStart=>exact⟨0,_,zO _,rfl,bU.out,b5.out⟩
       case round=>
        obtain⟨i,ev,hi2,rfl,hg,aD⟩:=hrel;obtain⟨aC,a3⟩:=eX wr;subst a3;have HG:=zA hg;have ad:=zA aD;clear hg aD;by_cases hlt3:i<n
        . have aQ:(i:Int)<(n:Int):=by omega
          obtain⟨⟨f0,f1,f2⟩,hx⟩:∃x,fs[i]?=some x:=⟨_,zB (by rw[<- HN.out];exact hlt3)⟩
          obtain⟨g,aE,bc,_,bk,ae⟩:=(H.out.below ad.out).get hx;subst bc;obtain⟨q0,q1,q2⟩:=getF ae;have aK:=HW.out _ (zC hx);dsimp only at aK q0 q1 q2;have br:f0∈V:=by rw[HV.out,jax];exact⟨_,zC hx,.inl rfl⟩
          have bz:f2∈V:=by rw[HV.out,jax];exact⟨_,zC hx,.inr rfl⟩
          have HT:Hid ((fs.take (i+1)).map (egOf V)=(fs.take i).map (egOf V)++[(V.idxOf f0,f1,V.idxOf f2)]):=zA (by
           rw[zS,hx,yQ,yG];rfl)
          obtain⟨x0,bj⟩:=eX (V.idxOf f0);obtain⟨x2,bi⟩:=eX (V.idxOf f2);have aw:=idx_at br;have ax:=idx_at bz;rw[<- bj]at HT aw;rw[<- bi]at HT ax;have aJ:Hid (∀u:World,u.heap[mb]?=aC.heap[mb]?->(Instr.lookup 72 (.map (some mb)) (.string ⟨f0.toArray⟩) false).run Tryz.prog u=.ok (.int .i64 (x0:Int)) u/\(Instr.lookup 72 (.map (some mb)) (.string ⟨f2.toArray⟩) false).run Tryz.prog u=.ok (.int .i64 (x2:Int)) u):=zA (fun u hu=>by
           have bg:=map_keyG (w':=u) HG.out.om (fun o ho=>hu.trans ho);constructor
           . obtain⟨z,hr,aj,_⟩:=bg.lookup_int lawSG Tryz.underlying72 Tryz.underlying3 (zeroIG u) (keySG f0 (by unfold maxLen;omega));rw[a8.out x0 f0 (zE.1 aw).1 aw]at aj;injection aj with aj;injection aj with _ aj;rw[aj];exact hr
           . obtain⟨z,hr,aj,_⟩:=bg.lookup_int lawSG Tryz.underlying72 Tryz.underlying3 (zeroIG u) (keySG f2 (by unfold maxLen;omega));rw[a8.out x2 f2 (zE.1 ax).1 ax]at aj;injection aj with aj;injection aj with _ aj;rw[aj];exact hr)
          obtain⟨ea,ec,bn⟩:=jab HG.out.oe;obtain⟨ne,aY⟩:=eX (((fs.take i).map (egOf V)).length);have hnel:ne<=10000:=by rw[aY,zH,zX];omega
          rw[<- aY]at bn;subst bn;have bs:=zA aY;obtain⟨ac,av⟩:=eX aC.heap.size;obtain⟨o,ho⟩:=eX (Obj.cells #[.string ⟨f0.toArray⟩,.string ⟨f1.toArray⟩,.string ⟨f2.toArray⟩] 48 (0,0));obtain⟨wz,aV⟩:=eX (aC.alloc o);have al:Below aC.heap.size aC wz:=by rw[aV];exact(zF _ _).alloc (zD _) _
          have ar:wz.heap[ac]?=some o:=by rw[aV,av];exact heap_alloc_new _ _
          have aB:=HG.out.below al;have KS:Hid (∀u,Below wz.heap.size wz u->u.cell? ⟨gb,1,none⟩=some (.map (some mb))/\u.cell? ⟨ac,0,none⟩=some (.string ⟨f0.toArray⟩)/\u.cell? ⟨ac,1,none⟩=some (.string ⟨f1.toArray⟩)/\u.cell? ⟨ac,2,none⟩=some (.string ⟨f2.toArray⟩)/\(Instr.lookup 72 (.map (some mb)) (.string ⟨f0.toArray⟩) false).run Tryz.prog u=.ok (.int .i64 (x0:Int)) u/\(Instr.lookup 72 (.map (some mb)) (.string ⟨f2.toArray⟩) false).run Tryz.prog u=.ok (.int .i64 (x2:Int)) u):=zA (fun u hu=>by
           have bG:u.heap[ac]?=some o:=(hu.block ac (lt_of_block ar)).trans ar;rw[ho]at bG;obtain⟨⟨p0,p1,p2⟩,_⟩:=cells3G bG;obtain⟨⟨c0,c1,c2⟩,_⟩:=cells3G (aB.below hu).blk;have aO:u.heap[mb]?=aC.heap[mb]?:=(hu.block mb aB.om.lt).trans (al.block mb HG.out.om.lt);exact⟨c1,p0,p1,p2,(aJ.out u aO).1,(aJ.out u aO).2⟩)
          have aZ:Hid (Below wz.heap.size wz wz.drew):=zA (zF _ _).drew;have au:Hid (Below wz.heap.size wz (wz.drew.alloc (.cells #[.int .i64 (x0:Int),.string ⟨f1.toArray⟩,.int .i64 (x2:Int)] 109))):=zA ((zF _ _).drew.alloc (zD _) _);have aM:Hid ((wz.drew.alloc (.cells #[.int .i64 (x0:Int),.string ⟨f1.toArray⟩,.int .i64 (x2:Int)] 109)).ownsRow 0 109 3 (.slice ea ne ec) ne (((fs.take i).map (egOf V)).flatMap csE)):=zA (by
           have:=(aB.below au.out).oe;rw[<- bs.out]at this;exact this)
          have bq:Hid (∀(j:Nat) u,[Value.int .i64 (x0:Int),.string ⟨f1.toArray⟩,.int .i64 (x2:Int)][j]?=some u->(wz.drew.alloc (.cells #[.int .i64 (x0:Int),.string ⟨f1.toArray⟩,.int .i64 (x2:Int)] 109)).cell? ((⟨wz.heap.size,0,none⟩:Addr).add j)=some u):=zA (World.news_of_block (cs:=#[.int .i64 (x0:Int),.string ⟨f1.toArray⟩,.int .i64 (x2:Int)]) (t:=109) (fr:=(0,0)) (heap_alloc_new wz.drew _));have bx:Hid (∀gg aa w9,w9.ownsRow 0 109 3 (.slice (some ⟨gg,0,none⟩) (ne+1) aa) (ne+1) (((fs.take i).map (egOf V)).flatMap csE++[.int .i64 (x0:Int),.string ⟨f1.toArray⟩,.int .i64 (x2:Int)])->(wz.drew.alloc (.cells #[.int .i64 (x0:Int),.string ⟨f1.toArray⟩,.int .i64 (x2:Int)] 109)).grownBy w9 (Value.slice ea ne ec).ownBlock->((Value.slice ea ne ec).ownBlock=some gg\/gg=wz.heap.size+1)->
           (w9.cell? ⟨gb,1,none⟩=some (.map (some mb))/\w9.cell? ⟨ac,0,none⟩=some (.string ⟨f0.toArray⟩)/\w9.cell? ⟨ac,1,none⟩=some (.string ⟨f1.toArray⟩)/\w9.cell? ⟨ac,2,none⟩=some (.string ⟨f2.toArray⟩)/\(Instr.lookup 72 (.map (some mb)) (.string ⟨f0.toArray⟩) false).run Tryz.prog w9=.ok (.int .i64 (x0:Int)) w9/\(Instr.lookup 72 (.map (some mb)) (.string ⟨f2.toArray⟩) false).run Tryz.prog w9=.ok (.int .i64 (x2:Int)) w9)/\((w9.setCell ⟨gb,2,none⟩ (.slice (some ⟨gg,0,none⟩) (ne+1) aa)).cell? ⟨gb,1,none⟩=some (.map (some mb))/\(w9.setCell ⟨gb,2,none⟩ (.slice (some ⟨gg,0,none⟩) (ne+1) aa)).cell? ⟨ac,0,none⟩=some (.string ⟨f0.toArray⟩)/\(w9.setCell ⟨gb,2,none⟩ (.slice (some ⟨gg,0,none⟩) (ne+1) aa)).cell? ⟨ac,1,none⟩=some (.string ⟨f1.toArray⟩)/\(w9.setCell ⟨gb,2,none⟩ (.slice (some ⟨gg,0,none⟩) (ne+1) aa)).cell? ⟨ac,2,none⟩=some (.string ⟨f2.toArray⟩)/\(Instr.lookup 72 (.map (some mb)) (.string ⟨f0.toArray⟩) false).run Tryz.prog (w9.setCell ⟨gb,2,none⟩ (.slice (some ⟨gg,0,none⟩) (ne+1) aa))=.ok (.int .i64 (x0:Int)) (w9.setCell ⟨gb,2,none⟩ (.slice (some ⟨gg,0,none⟩) (ne+1) aa))/\(Instr.lookup 72 (.map (some mb)) (.string ⟨f2.toArray⟩) false).run Tryz.prog (w9.setCell ⟨gb,2,none⟩ (.slice (some ⟨gg,0,none⟩) (ne+1) aa))=.ok (.int .i64 (x2:Int)) (w9.setCell ⟨gb,2,none⟩ (.slice (some ⟨gg,0,none⟩) (ne+1) aa)))/\(w9.cell? ⟨gb,2,none⟩=some (.slice ea ne ec)/\w9.frozen? ⟨gb,2,none⟩=false)/\GrB S (w9.setCell ⟨gb,2,none⟩ (.slice (some ⟨gg,0,none⟩) (ne+1) aa)) gb mb (.slice na k ah) (.slice (some ⟨gg,0,none⟩) (ne+1) aa) D cj V ((fs.take (i+1)).map (egOf V))/\Below w.heap.size w (w9.setCell ⟨gb,2,none⟩ (.slice (some ⟨gg,0,none⟩) (ne+1) aa))):=zA (fun gg aa w9 h1 h2 h3=>by
           have ak:=aB.below au.out;have af:=blk_grownG ak.blk h2 (jan ak.oe ak.blk (by decide));have a6:=map_keyG (w':=w9) ak.om (fun o ho=>blk_grownG ho h2 (own_ne_mapG ak.oe ak.om));have bm:w9.ownsRow 0 9 1 (.slice na k ah) V.length (V.flatMap csT):=owns_grownG ak.ow h2 (fun g e e2=>by
            rcases ak.oe.2 with⟨e3,_⟩|⟨b,c3,cur,e3,_,e4,_⟩
            . rw[e3]at e;simp[Value.ownBlock]at e
            . have:b=g:=by rw[e3]at e;simpa[Value.ownBlock]using e
              subst this;exact jan ak.ow e4 (by decide) e2)
           have am:w9.heap[ac]?=some o:=by
            refine blk_grownG ((au.out.block ac (lt_of_block ar)).trans ar) h2 ?_;have aP:=(au.out.block ac (lt_of_block ar)).trans ar;rw[ho]at aP;exact jan ak.oe aP (by decide)
           have aH:w9.heap[mb]?=aC.heap[mb]?:=by
            obtain⟨es,cl,e1,_⟩:=HG.out.om;rw[e1];exact blk_grownG ((au.out.block mb aB.om.lt).trans ((al.block mb HG.out.om.lt).trans e1)) h2 (own_ne_mapG ak.oe ak.om)
           rw[ho]at am;obtain⟨⟨p0,p1,p2⟩,_⟩:=cells3G am;obtain⟨⟨c0,c1,c2⟩,⟨_,_,c5⟩⟩:=cells3G af;have an:∀b,b≠gb->(w9.setCell ⟨gb,2,none⟩ (.slice (some ⟨gg,0,none⟩) (ne+1) aa)).heap[b]?=w9.heap[b]?:=fun b hb=>zM _ _ _ _ hb
           have a4:(w9.setCell ⟨gb,2,none⟩ (.slice (some ⟨gg,0,none⟩) (ne+1) aa)).heap[ac]?=_:=(an ac (fun e=>by rw[e,af]at am;cases am)).trans am;obtain⟨⟨z0,z1,z2⟩,_⟩:=cells3G a4;obtain⟨⟨y0,y1,y2⟩,_⟩:=cells3G (set3_2 (v:=.slice (some ⟨gg,0,none⟩) (ne+1) aa) af);have aR:(w9.setCell ⟨gb,2,none⟩ (.slice (some ⟨gg,0,none⟩) (ne+1) aa)).heap[mb]?=aC.heap[mb]?:=(an mb (blk_ne_mapG af a6)).trans aH;refine⟨⟨c1,p0,p1,p2,(aJ.out w9 aH).1,(aJ.out w9 aH).2⟩,⟨y1,z0,z1,z2,(aJ.out _ aR).1,(aJ.out _ aR).2⟩,⟨c2,c5⟩,?_,?_⟩
           . refine { HG.out with blk:=set3_2 af,ow:=jae bm (fun g o hg ho=>(an g (fun e=>jan bm af (by decide) (by rw[hg,e]))).trans ho),oe:=?_,om:=map_keyG a6 (fun o ho=>(an mb (blk_ne_mapG af a6)).trans ho),oute:=fun g hg hs=>?_ }
             . have h4:w9.ownsRow 0 109 3 (.slice (some ⟨gg,0,none⟩) (ne+1) aa) ((fs.take (i+1)).map (egOf V)).length (((fs.take (i+1)).map (egOf V)).flatMap csE):=by
                rw[HT.out,zG,<- bs.out,zP];exact h1
               exact jae h4 (fun g o hg ho=>(an g (fun e=>jan h4 af (by decide) (by rw[hg,e]))).trans ho)
             . have e1:gg=g:=by simpa[Value.ownBlock]using hg
               subst e1;rcases h3 with h3|h3
               . exact HG.out.oute gg h3 hs
               . have h5:=(ay.out gg).1 hs;have h6:=ad.out.size;have h7:=al.size;omega
           . refine Below.setCell (p:=⟨gb,2,none⟩) ?_ (by have:=aW.out;show w.heap.size<=gb;omega) _;exact(ad.out.trans ((al.mono ad.out.size).trans (au.out.mono (zT ad.out.size al.size)))).grown h2 (by have h6:=ad.out.size;have h7:=al.size;simp;omega) (fun k e=>by
              rcases Nat.lt_or_ge k w.heap.size with h8|h8
              . exact absurd ((ay.out k).2 h8) (HG.out.oute k e)
              . exact h8))
          have b1:Hid (wz.drew.cell? ⟨gb,2,none⟩=some (.slice ea ne ec)):=zA (cells3G (aB.below aZ.out).blk).1.2.2;have bK:=zA (cells3G (aB.below au.out).blk).1.2.2;have hgl2:=bk;clear hx ae br bz aw ax bj bi aK al ar aB aY;subst ho;rw[av]at KS;go_wp2_with fail;rw[<- aV];rw[<- av]at KS ⊢;clear aV av q0 q1 q2;have hl2:wz.drew.cell? ⟨gb,2,none⟩=some (.slice ea ne ec):=b1.out;have hl3:(wz.alloc (.cells #[.int .i64 (x0:Int),.string ⟨f1.toArray⟩,.int .i64 (x2:Int)] 109)).cell? ⟨gb,2,none⟩=some (.slice ea ne ec):=bK.out;refine wp_region_held_drew (S:=fun u=>u.cell? ⟨gb,1,none⟩=some (.map (some mb))/\u.cell? ⟨ac,0,none⟩=some (.string ⟨f0.toArray⟩)/\u.cell? ⟨ac,1,none⟩=some (.string ⟨f1.toArray⟩)/\u.cell? ⟨ac,2,none⟩=some (.string ⟨f2.toArray⟩)/\(Instr.lookup 72 (.map (some mb)) (.string ⟨f0.toArray⟩) false).run Tryz.prog u=.ok (.int .i64 (x0:Int)) u/\(Instr.lookup 72 (.map (some mb)) (.string ⟨f2.toArray⟩) false).run Tryz.prog u=.ok (.int .i64 (x2:Int)) u) (by kernel_rfl) ?_ (fun hHeld=>?_)
          . exact KS.out _ aZ.out
          refine tkH (i:=0) (oi:=⟨some 56,.move (.tmp 3),65, "model.go:79",#[],none⟩) (v:=?_) rfl ?_ hHeld ?_;rotate_left 1
          . rintro W ⟨l1,l2,l3,l4,l5,l6⟩;go_simp;try with_reducible rfl
          simp only[Act.put,zIB,zSZ,zSS];refine tkH (i:=1) (oi:=⟨some 57,.move (.tmp 3),65, "model.go:79",#[],none⟩) (v:=?_) rfl ?_ hHeld ?_;rotate_left 1
          . rintro W ⟨l1,l2,l3,l4,l5,l6⟩;go_simp;try with_reducible rfl
          simp only[Act.put,zIB,zSZ,zSS];refine tkH (i:=2) (oi:=⟨some 58,.nilCheck (.tmp 57),0, "model.go:79",#[⟨1,.data⟩],none⟩) (v:=?_) rfl ?_ hHeld ?_;rotate_left 1
          . rintro W ⟨l1,l2,l3,l4,l5,l6⟩;go_simp;try with_reducible rfl
          simp only[Act.put,zIB,zSZ,zSS];refine tkH (i:=3) (oi:=⟨some 59,.fieldAddr 75 (.tmp 58) 2,0, "model.go:79",#[⟨2,.data⟩],none⟩) (v:=?_) rfl ?_ hHeld ?_;rotate_left 1
          . rintro W ⟨l1,l2,l3,l4,l5,l6⟩;go_simp;try with_reducible rfl
          simp only[Act.put,zIB,zSZ,zSS];refine tkH (i:=5) (oi:=⟨some 61,.move (.tmp 3),65, "model.go:79",#[],none⟩) (v:=?_) rfl ?_ hHeld ?_;rotate_left 1
          . rintro W ⟨l1,l2,l3,l4,l5,l6⟩;go_simp;try with_reducible rfl
          simp only[Act.put,zIB,zSZ,zSS];refine tkH (i:=6) (oi:=⟨some 62,.nilCheck (.tmp 61),0, "model.go:79",#[⟨5,.data⟩],none⟩) (v:=?_) rfl ?_ hHeld ?_;rotate_left 1
          . rintro W ⟨l1,l2,l3,l4,l5,l6⟩;go_simp;try with_reducible rfl
          simp only[Act.put,zIB,zSZ,zSS];refine tkH (i:=7) (oi:=⟨some 63,.fieldAddr 75 (.tmp 62) 1,0, "model.go:79",#[⟨6,.data⟩],none⟩) (v:=?_) rfl ?_ hHeld ?_;rotate_left 1
          . rintro W ⟨l1,l2,l3,l4,l5,l6⟩;go_simp;try with_reducible rfl
          simp only[Act.put,zIB,zSZ,zSS];refine tkH (i:=8) (oi:=⟨some 64,.load 72 (.tmp 63),72, "model.go:79",#[⟨7,.data⟩],none⟩) (v:=?_) rfl ?_ hHeld ?_;rotate_left 1
          . rintro W ⟨l1,l2,l3,l4,l5,l6⟩;go_simp;try with_reducible rfl
          simp only[Act.put,zIB,zSZ,zSS];refine tkH (i:=9) (oi:=⟨some 65,.fieldAddr 48 (.tmp 9) 0,0, "model.go:79",#[],none⟩) (v:=?_) rfl ?_ hHeld ?_;rotate_left 1
          . rintro W ⟨l1,l2,l3,l4,l5,l6⟩;go_simp;try with_reducible rfl
          simp only[Act.put,zIB,zSZ,zSS];refine tkH (i:=10) (oi:=⟨some 66,.load 9 (.tmp 65),9, "model.go:79",#[⟨9,.data⟩],none⟩) (v:=?_) rfl ?_ hHeld ?_;rotate_left 1
          . rintro W ⟨l1,l2,l3,l4,l5,l6⟩;go_simp;try with_reducible rfl
          simp only[Act.put,zIB,zSZ,zSS];refine tkH (i:=11) (oi:=⟨some 67,.lookup 72 (.tmp 64) (.tmp 66) false,3, "model.go:79",#[⟨8,.data⟩,⟨10,.data⟩],none⟩) (v:=?_) rfl ?_ hHeld ?_;rotate_left 1
          . rintro W ⟨l1,l2,l3,l4,l5,l6⟩;go_simp;try with_reducible rfl
          simp only[Act.put,zIB,zSZ,zSS];refine tkH (i:=12) (oi:=⟨some 68,.fieldAddr 48 (.tmp 9) 1,0, "model.go:79",#[],none⟩) (v:=?_) rfl ?_ hHeld ?_;rotate_left 1
          . rintro W ⟨l1,l2,l3,l4,l5,l6⟩;go_simp;try with_reducible rfl
          simp only[Act.put,zIB,zSZ,zSS];refine tkH (i:=13) (oi:=⟨some 69,.load 9 (.tmp 68),9, "model.go:79",#[⟨12,.data⟩],none⟩) (v:=?_) rfl ?_ hHeld ?_;rotate_left 1
          . rintro W ⟨l1,l2,l3,l4,l5,l6⟩;go_simp;try with_reducible rfl
          simp only[Act.put,zIB,zSZ,zSS];refine tkH (i:=14) (oi:=⟨some 70,.move (.tmp 3),65, "model.go:79",#[],none⟩) (v:=?_) rfl ?_ hHeld ?_;rotate_left 1
          . rintro W ⟨l1,l2,l3,l4,l5,l6⟩;go_simp;try with_reducible rfl
          simp only[Act.put,zIB,zSZ,zSS];refine tkH (i:=15) (oi:=⟨some 71,.nilCheck (.tmp 70),0, "model.go:79",#[⟨14,.data⟩],none⟩) (v:=?_) rfl ?_ hHeld ?_;rotate_left 1
          . rintro W ⟨l1,l2,l3,l4,l5,l6⟩;go_simp;try with_reducible rfl
          simp only[Act.put,zIB,zSZ,zSS];refine tkH (i:=16) (oi:=⟨some 72,.fieldAddr 75 (.tmp 71) 1,0, "model.go:79",#[⟨15,.data⟩],none⟩) (v:=?_) rfl ?_ hHeld ?_;rotate_left 1
          . rintro W ⟨l1,l2,l3,l4,l5,l6⟩;go_simp;try with_reducible rfl
          simp only[Act.put,zIB,zSZ,zSS];refine tkH (i:=17) (oi:=⟨some 73,.load 72 (.tmp 72),72, "model.go:79",#[⟨16,.data⟩],none⟩) (v:=?_) rfl ?_ hHeld ?_;rotate_left 1
          . rintro W ⟨l1,l2,l3,l4,l5,l6⟩;go_simp;try with_reducible rfl
          simp only[Act.put,zIB,zSZ,zSS];refine tkH (i:=18) (oi:=⟨some 74,.fieldAddr 48 (.tmp 9) 2,0, "model.go:79",#[],none⟩) (v:=?_) rfl ?_ hHeld ?_;rotate_left 1
          . rintro W ⟨l1,l2,l3,l4,l5,l6⟩;go_simp;try with_reducible rfl
          simp only[Act.put,zIB,zSZ,zSS];refine tkH (i:=19) (oi:=⟨some 75,.load 9 (.tmp 74),9, "model.go:79",#[⟨18,.data⟩],none⟩) (v:=?_) rfl ?_ hHeld ?_;rotate_left 1
          . rintro W ⟨l1,l2,l3,l4,l5,l6⟩;go_simp;try with_reducible rfl
          simp only[Act.put,zIB,zSZ,zSS];refine tkH (i:=20) (oi:=⟨some 76,.lookup 72 (.tmp 73) (.tmp 75) false,3, "model.go:79",#[⟨17,.data⟩,⟨19,.data⟩],none⟩) (v:=?_) rfl ?_ hHeld ?_;rotate_left 1
          . rintro W ⟨l1,l2,l3,l4,l5,l6⟩;go_simp;try with_reducible rfl
          simp only[Act.put,zIB,zSZ,zSS];refine tkH (i:=21) (oi:=⟨some 77,.build 109 #[(0,.tmp 67),(1,.tmp 69),(2,.tmp 76)],109, "model.go:79",#[⟨11,.data⟩,⟨13,.data⟩,⟨20,.data⟩],none⟩) (v:=?_) rfl ?_ hHeld ?_;rotate_left 1
          . rintro W ⟨l1,l2,l3,l4,l5,l6⟩;go_simp;try with_reducible rfl
          simp only[Act.put,zIB,zSZ,zSS];refine wpAnyH_ready (rs:=[4,22]) (by kernel_rfl) (by simp) ?_;refine AllReadyH.cons (o:=⟨some 60,.load 73 (.tmp 59),73, "model.go:79",#[⟨3,.data⟩],none⟩) rfl (fun K hK=>?_) (AllReadyH.cons (o:=⟨some 78,.buildSlice 73 1 #[(0,.tmp 77)],73, "model.go:79",#[⟨21,.data⟩],none⟩) rfl (fun K hK=>?_) AllReadyH.nil)
          . go_simp;refine hK.out _ _ (KS.out _ aZ.out) (fun hHeld=>?_);clear hK K;refine rdH (k:=22) (o:=⟨some 78,.buildSlice 73 1 #[(0,.tmp 77)],73, "model.go:79",#[⟨21,.data⟩],none⟩) rfl (fun K hK=>?_);go_simp;refine hK.out _ _ (KS.out _ au.out) (fun hHeld=>?_);clear hK K;refine rdH (k:=23) (o:=⟨some 79,.call { callee:=.builtin .append,args:=#[.tmp 60,.tmp 78],argTypes:=#[73,73] },73, "model.go:79",#[⟨4,.data⟩,⟨22,.data⟩],none⟩) rfl (fun K hK=>?_);refine step_append_lies _ (by rfl) _ _ _ (by rfl) 0 109 i0 _ 3 32 Tryz.underlying73 bB bt bI bH rfl (by decide) (.slice ea ne ec) _ _ (by rfl) aM.out ⟨wz.heap.size,0,none⟩ 1 1 [.int .i64 (x0:Int),.string ⟨f1.toArray⟩,.int .i64 (x2:Int)] (by rfl) (by rfl) bq.out (by simp[Value.oneCell']) (by decide) (by unfold maxLen;omega) (by omega) (zO _) (wz.heap.size+1) (by simp) ?_;intro gg aa w9 ag ab aq aI;have ap:=zA (bx.out gg aa w9 ag ab aq);refine hK.out _ _ ap.out.1 (fun hHeld=>?_);clear hK K ag ab aq aI;obtain⟨c2,c8⟩:=ap.out.2.2.1;refine tkH (i:=24) (oi:=⟨some 80,.nilCheck (.tmp 56),0, "model.go:79",#[⟨0,.data⟩,⟨0,.phase⟩,⟨1,.phase⟩,⟨2,.phase⟩,⟨3,.phase⟩,⟨4,.phase⟩,⟨5,.phase⟩,⟨6,.phase⟩,⟨7,.phase⟩,⟨8,.phase⟩,⟨9,.phase⟩,⟨10,.phase⟩,⟨11,.phase⟩,⟨12,.phase⟩,⟨13,.phase⟩,⟨14,.phase⟩,⟨15,.phase⟩,⟨16,.phase⟩,⟨17,.phase⟩,⟨18,.phase⟩,⟨19,.phase⟩,⟨20,.phase⟩,⟨21,.phase⟩,⟨22,.phase⟩,⟨23,.phase⟩],none⟩) (v:=?_) rfl ?_ hHeld ?_;rotate_left 1
            . rintro W ⟨l1,l2,l3,l4,l5,l6⟩;go_simp;try with_reducible rfl
            simp only[Act.put,zIB,zSZ,zSS];refine tkH (i:=25) (oi:=⟨some 81,.fieldAddr 75 (.tmp 80) 2,0, "model.go:79",#[⟨24,.data⟩,⟨0,.phase⟩,⟨1,.phase⟩,⟨2,.phase⟩,⟨3,.phase⟩,⟨4,.phase⟩,⟨5,.phase⟩,⟨6,.phase⟩,⟨7,.phase⟩,⟨8,.phase⟩,⟨9,.phase⟩,⟨10,.phase⟩,⟨11,.phase⟩,⟨12,.phase⟩,⟨13,.phase⟩,⟨14,.phase⟩,⟨15,.phase⟩,⟨16,.phase⟩,⟨17,.phase⟩,⟨18,.phase⟩,⟨19,.phase⟩,⟨20,.phase⟩,⟨21,.phase⟩,⟨22,.phase⟩,⟨23,.phase⟩],none⟩) (v:=?_) rfl ?_ hHeld ?_;rotate_left 1
            . rintro W ⟨l1,l2,l3,l4,l5,l6⟩;go_simp;try with_reducible rfl
            simp only[Act.put,zIB,zSZ,zSS];refine rdH (k:=26) (o:=⟨none,.store 73 (.tmp 81) (.tmp 79),0, "model.go:79",#[⟨25,.data⟩,⟨23,.data⟩,⟨23,.chain⟩,⟨0,.phase⟩,⟨1,.phase⟩,⟨2,.phase⟩,⟨3,.phase⟩,⟨4,.phase⟩,⟨5,.phase⟩,⟨6,.phase⟩,⟨7,.phase⟩,⟨8,.phase⟩,⟨9,.phase⟩,⟨10,.phase⟩,⟨11,.phase⟩,⟨12,.phase⟩,⟨13,.phase⟩,⟨14,.phase⟩,⟨15,.phase⟩,⟨16,.phase⟩,⟨17,.phase⟩,⟨18,.phase⟩,⟨19,.phase⟩,⟨20,.phase⟩,⟨21,.phase⟩,⟨22,.phase⟩,⟨23,.phase⟩],none⟩) rfl (fun K hK=>?_);go_simp;refine hK.out _ _ ap.out.2.1 (fun hHeld=>?_);clear hK K c2 c8;refine wpAnyH_done (by kernel_rfl) ?_ _;go_wp2;go_roundw
            case rel=>exact⟨i+1,_,by omega,by go_num,ap.out.2.2.2.1,ap.out.2.2.2.2⟩
            case measure=>simp[intOf];omega
          . go_simp;refine hK.out _ _ (KS.out _ au.out) (fun hHeld=>?_);clear hK K;refine rdH (k:=4) (o:=⟨some 60,.load 73 (.tmp 59),73, "model.go:79",#[⟨3,.data⟩],none⟩) rfl (fun K hK=>?_);go_simp;refine hK.out _ _ (KS.out _ au.out) (fun hHeld=>?_);clear hK K;refine rdH (k:=23) (o:=⟨some 79,.call { callee:=.builtin .append,args:=#[.tmp 60,.tmp 78],argTypes:=#[73,73] },73, "model.go:79",#[⟨4,.data⟩,⟨22,.data⟩],none⟩) rfl (fun K hK=>?_);refine step_append_lies _ (by rfl) _ _ _ (by rfl) 0 109 i0 _ 3 32 Tryz.underlying73 bB bt bI bH rfl (by decide) (.slice ea ne ec) _ _ (by rfl) aM.out ⟨wz.heap.size,0,none⟩ 1 1 [.int .i64 (x0:Int),.string ⟨f1.toArray⟩,.int .i64 (x2:Int)] (by rfl) (by rfl) bq.out (by simp[Value.oneCell']) (by decide) (by unfold maxLen;omega) (by omega) (zO _) (wz.heap.size+1) (by simp) ?_;intro gg aa w9 ag ab aq aI;have ap:=zA (bx.out gg aa w9 ag ab aq);refine hK.out _ _ ap.out.1 (fun hHeld=>?_);clear hK K ag ab aq aI;obtain⟨c2,c8⟩:=ap.out.2.2.1;refine tkH (i:=24) (oi:=⟨some 80,.nilCheck (.tmp 56),0, "model.go:79",#[⟨0,.data⟩,⟨0,.phase⟩,⟨1,.phase⟩,⟨2,.phase⟩,⟨3,.phase⟩,⟨4,.phase⟩,⟨5,.phase⟩,⟨6,.phase⟩,⟨7,.phase⟩,⟨8,.phase⟩,⟨9,.phase⟩,⟨10,.phase⟩,⟨11,.phase⟩,⟨12,.phase⟩,⟨13,.phase⟩,⟨14,.phase⟩,⟨15,.phase⟩,⟨16,.phase⟩,⟨17,.phase⟩,⟨18,.phase⟩,⟨19,.phase⟩,⟨20,.phase⟩,⟨21,.phase⟩,⟨22,.phase⟩,⟨23,.phase⟩],none⟩) (v:=?_) rfl ?_ hHeld ?_;rotate_left 1
            . rintro W ⟨l1,l2,l3,l4,l5,l6⟩;go_simp;try with_reducible rfl
            simp only[Act.put,zIB,zSZ,zSS];refine tkH (i:=25) (oi:=⟨some 81,.fieldAddr 75 (.tmp 80) 2,0, "model.go:79",#[⟨24,.data⟩,⟨0,.phase⟩,⟨1,.phase⟩,⟨2,.phase⟩,⟨3,.phase⟩,⟨4,.phase⟩,⟨5,.phase⟩,⟨6,.phase⟩,⟨7,.phase⟩,⟨8,.phase⟩,⟨9,.phase⟩,⟨10,.phase⟩,⟨11,.phase⟩,⟨12,.phase⟩,⟨13,.phase⟩,⟨14,.phase⟩,⟨15,.phase⟩,⟨16,.phase⟩,⟨17,.phase⟩,⟨18,.phase⟩,⟨19,.phase⟩,⟨20,.phase⟩,⟨21,.phase⟩,⟨22,.phase⟩,⟨23,.phase⟩],none⟩) (v:=?_) rfl ?_ hHeld ?_;rotate_left 1
            . rintro W ⟨l1,l2,l3,l4,l5,l6⟩;go_simp;try with_reducible rfl
            simp only[Act.put,zIB,zSZ,zSS];refine rdH (k:=26) (o:=⟨none,.store 73 (.tmp 81) (.tmp 79),0, "model.go:79",#[⟨25,.data⟩,⟨23,.data⟩,⟨23,.chain⟩,⟨0,.phase⟩,⟨1,.phase⟩,⟨2,.phase⟩,⟨3,.phase⟩,⟨4,.phase⟩,⟨5,.phase⟩,⟨6,.phase⟩,⟨7,.phase⟩,⟨8,.phase⟩,⟨9,.phase⟩,⟨10,.phase⟩,⟨11,.phase⟩,⟨12,.phase⟩,⟨13,.phase⟩,⟨14,.phase⟩,⟨15,.phase⟩,⟨16,.phase⟩,⟨17,.phase⟩,⟨18,.phase⟩,⟨19,.phase⟩,⟨20,.phase⟩,⟨21,.phase⟩,⟨22,.phase⟩,⟨23,.phase⟩],none⟩) rfl (fun K hK=>?_);go_simp;refine hK.out _ _ ap.out.2.1 (fun hHeld=>?_);clear hK K c2 c8;refine wpAnyH_done (by kernel_rfl) ?_ _;go_wp2;go_roundw
            case rel=>exact⟨i+1,_,by omega,by go_num,ap.out.2.2.2.1,ap.out.2.2.2.2⟩
            case measure=>simp[intOf];omega
        . have aQ:¬(i:Int)<(n:Int):=by omega
          have HE:Hid ((fs.take i).map (egOf V)=fs.map (egOf V)):=zA (by rw[zJ (by rw[<- HN.out];omega)]);go_wp2;go_ret;refine⟨gb,mb,.slice na k ah,ev,D,cj,rfl,?_,ad.out⟩;rw[<- HV.out,<- HE.out];exact HG.out.read (fun k hk=>(ay.out k).2 hk) a8.out
end Go.Proofs.YtkbgmcmcpbegjaaGreatDoor
