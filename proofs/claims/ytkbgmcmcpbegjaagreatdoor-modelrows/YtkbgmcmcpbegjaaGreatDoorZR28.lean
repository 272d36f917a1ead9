/- GNewW. -/
import Derived.Test.YtkbgmcmcpbegjaaGreatDoorZR21
set_option maxRecDepth 100000
set_option maxHeartbeats 32000000
namespace Go.Proofs.YtkbgmcmcpbegjaaGreatDoor
open Go.RowKit Go.Shelf
theorem infoStG:(Tryz.prog.info? 119).map (fun i=>(i.zero,i.size,i.bytes))=some (some (.slice none 0 0),1,24):=by kernel_rfl
theorem infoPlG:(Tryz.prog.info? 110).map (fun i=>(i.zero,i.size,i.bytes))=some (some (.int .u32 0),1,4):=by kernel_rfl
theorem infoStepG:(Tryz.prog.info? 121).map (fun i=>(i.zero,i.size,i.bytes))=some (some (.agg #[.int .i64 0,.int .u32 0]),2,16):=by kernel_rfl
theorem made_u(n:Nat):madeCells #[Value.int .u32 0] n=jcR (List.replicate n 0):=by
 rw[jeM];unfold jcR;rw[List.map_replicate];rfl
theorem srC_new{B:Nat}{Wf:World}{sb stb cb fb n l:Nat}{oS oU:Obj}(hoS:oS=.cells (List.replicate n (.slice none 0 0)).toArray 119 (0,0))(hoU:oU=.cells (jcR (List.replicate n 0)) 110 (0,0))
 (hsb:Wf.heap[sb]?=some (.cells (jaB ⟨n,fun _=>0,l,[],noK⟩ ⟨cb,fb,.slice none 0 0,.slice none 0 0,.slice (some ⟨stb,0,none⟩) n n,[]⟩) 116 (0,0))) (hst:Wf.heap[stb]?=some oS) (hcb:Wf.heap[cb]?=some oU) (hfb:Wf.heap[fb]?=some oU) (cf:cb≠fb) (lo:B<=sb/\B<=stb/\B<=cb/\B<=fb):
 SrC B Wf sb stb cb fb n l (fun _=>0) (List.replicate n (.slice none 0 0,[])):=by
 subst hoS hoU;refine⟨hsb,hcb,hfb,?_,by simp,fun r hr=>?_,fun i j r q hr _ _ g hg=>?_,cf,lo⟩
 . rw[List.map_replicate];exact hst
 . rw[List.eq_of_mem_replicate hr];exact World.ownsRow_nil _ _ _ _
 . rw[List.eq_of_mem_replicate (zC hr)]at hg;simp[Value.ownBlock]at hg
theorem may_words{a:Au}(h:mayA a=true){s:Wd}(hs:s∈a.words):isW s=true:=by
 simp only[mayA,Bool.and_eq_true,yF]at h;exact h.1.2 s hs
theorem sd_ok{kp:Nat->Prop}{a:Au}(hm:mayA a=true){n:Nat}{E:List Eg}(hE:∀e∈E,e.2.2<n):(sdOf kp n E a).Ok:=by
 have ab:=(jct hm).1;have aa:∀L:List Int,(∀z∈L,0<=z/\z<a.words.length)->setN L<16777216:=fun L hL=>jfV (fun z hz=>by have:=hL z hz;omega)
 refine⟨by simp[sdOf],fun p _=>?_,?_,fun l hl t ht=>?_⟩
 . show behA a p<_;unfold behA;split
   . exact aa _ (fun z hz=>ja7 (jcu hm) hz)
   . rw[List.getD];cases hg:a.follow[p]? with
     |none=>exact aa [] (by simp)
     |some l=>exact aa l (fun z hz=>ja7 (jcz hm (zC hg)) hz)
 . show jgs a<_;have h1:=aa _ (fun z hz=>ja7 (jdo hm) hz);unfold jgs;split
   . exact jfI (by omega) (by omega)
   . omega
 . obtain⟨v,_,rfl⟩:=zV.1 hl;unfold ja9 at ht;obtain⟨e,he,h2⟩:=List.mem_filterMap.1 ht;split at h2
   . injection h2 with h2;subst h2;exact⟨hE e he,jf3 _ _ _ ab⟩
   . cases h2
theorem steps_take{a:Au}{E:List Eg}{i:Nat}{e:Eg}(h:E[i]?=some e)(v:Nat):ja9 a (E.take (i+1)) v=ja9 a (E.take i) v++(if e.1=v/\atW a e.2.1≠0 then [(e.2.2,atW a e.2.1)]else []):=by
 unfold ja9;rw[zS,h,yQ,List.filterMap_append];congr 1;split
 . rename_i hc;simp[hc]
 . rename_i hc;simp[hc]
theorem newSearch_any{S U:Nat->Prop}{w:World}{gb:Nat}{N:List Wd}{E:List Eg}{mb:Nat}{nv ev:Value}{D:DataW Unit}{c:Nat}{m:Mu}(hg:GrS S w gb N E mb nv ev D c)(h:UOk U w m)(hm:mayA m.au=true)(hn:N.length<=10000)(hEl:E.length<=10000)(hE:∀e∈E,e.1<N.length/\e.2.2<N.length/\e.2.1.length<=140737488351232):
 Calls Tryz.prog 30 #[.pointer (some ⟨gb,0,none⟩),encU m] w (NewE w N.length E m.au):=by
 obtain⟨i1,cS,ds,dD,dr⟩:=jal infoStG;obtain⟨i2,cV,dy,dz,dn⟩:=jal infoPlG;obtain⟨i3,cv,cq,cw,cu⟩:=jal infoStepG;obtain⟨wa,bA,fa,fc,la,lc,oa,oc,e1,e2,e3,e4⟩:=h.slices;have H:=zA h;have HM:=zA hm;have HG:=zA hg;have HE:=zA hE;obtain⟨a,ha⟩:=eX m.au;rw[<- ha]at HM ⊢;have HA:=zA ha;obtain⟨wv,ws,fv,fs,lv,ls,ov,os,em⟩:=m;dsimp only at e1 e2 e3 e4;subst e1 e2 e3 e4;have ai:Hid (a=⟨ws,fs,ls,os.map (·.2),em⟩):=zA HA.out;clear h hm hg hE ha;obtain⟨n,bp⟩:=eX N.length;have HN:=zA bp;rw[<- bp]at hn ⊢;obtain⟨⟨g0,g1,g2⟩,_⟩:=cells3G HG.out.blk;obtain⟨na,b0,cz⟩:=HG.out.names.slice;rw[cz,<- bp]at g0;clear bp cz g1 g2;obtain⟨nw,aZ⟩:=eX ws.length;obtain⟨no,bz⟩:=eX os.length;obtain⟨nf,bW⟩:=eX fs.length;obtain⟨nl,b3⟩:=eX ls.length;have aw:=jct HM.out;have cn:=zA aZ;have ce:=zA bz;have hnw24:nw<=24:=by rw[aZ];have:=aw.1;rw[ai.out]at this;exact this
 have a9:no=nw:=by rw[bz,aZ];have:=aw.2;rw[ai.out]at this;simpa using this
 have bO:∀z∈fs,0<=z/\z<24:=fun z hz=>by have:=ja7 (jcu HM.out) (by rw[ai.out];exact hz);have h2:=aw.1;omega
 have bH:∀z∈ls,0<=z/\z<24:=fun z hz=>by have:=ja7 (jdo HM.out) (by rw[ai.out];exact hz);have h2:=aw.1;omega
 have cO:∀p∈os,(∀z∈p.2,0<=z/\z<24)/\p.2.length<=1000000:=fun p hp=>by
  have bD:p.2∈a.follow:=by rw[ai.out];exact zW hp
  have h1:=jcz HM.out bD;have h2:=aw.1;exact⟨fun z hz=>by have:=ja7 h1 hz;omega,by have:=jeB h1;omega⟩
 have cr:fs.length<=1000000:=by have:=jeB (jcu HM.out);rw[ai.out]at this;have h2:=aw.1;rw[ai.out]at h2;dsimp only at this h2;omega
 have cH:ls.length<=1000000:=by have:=jeB (jdo HM.out);rw[ai.out]at this;have h2:=aw.1;rw[ai.out]at h2;dsimp only at this h2;omega
 have aM:=zA a9;clear a9;have cJ:=zA H.out.fs;have ct:=zA H.out.ls;have cA:=zA H.out.os;have ck:=zA H.out.ws;have b8:=zA H.out.ok;dsimp only at cJ ct cA ck b8;obtain⟨o,ho⟩:=eX (Obj.cells #[.slice wa nw bA,.slice fa nf fc,.slice la nl lc,.slice oa no oc,.bool em] 62 (0,0));obtain⟨w1,aS⟩:=eX (w.alloc o);obtain⟨ab,bj⟩:=eX w.heap.size;have a1:Hid (Below w.heap.size w w1):=zA (by rw[aS];exact(zF _ _).alloc (zD _) _);have b2:Hid (w1.heap[ab]?=some o):=zA (by rw[aS,bj];exact heap_alloc_new _ _);have HO:=zA ho;have HABs:=zA bj;have cp:w1.heap.size=w.heap.size+1:=by rw[aS];simp
 have dc:=zA cp;have aL:Hid (∀u,Below w1.heap.size w1 u->Below w.heap.size w u):=zA (fun u hu=>a1.out.trans (hu.mono a1.out.size));have KA:Hid (∀u,Below w1.heap.size w1 u->(u.cell? ⟨ab,0,none⟩=some (.slice wa nw bA)/\u.cell? ⟨ab,1,none⟩=some (.slice fa nf fc)/\u.cell? ⟨ab,2,none⟩=some (.slice la nl lc)/\u.cell? ⟨ab,3,none⟩=some (.slice oa no oc)/\u.cell? ⟨ab,4,none⟩=some (.bool em))):=zA (fun u hu=>by
  have h1:=(hu.block ab (lt_of_block b2.out)).trans b2.out;rw[HO.out]at h1;exact jk2 h1)
 have C1:Hid (∀u,Below w1.heap.size w1 u->Calls Tryz.prog 57 #[.slice fa nf fc] u fun e w'=>e=.returned (.int .u32 (setN fs:Int))/\w'=u):=zA (fun u hu=>by rw[bW];exact jcq (cJ.out.below (aL.out u hu)) cr bO);have C2:Hid (∀u,Below w1.heap.size w1 u->Calls Tryz.prog 57 #[.slice la nl lc] u fun e w'=>e=.returned (.int .u32 (setN ls:Int))/\w'=u):=zA (fun u hu=>by rw[b3];exact jcq (ct.out.below (aL.out u hu)) cH bH);have de:=zA (fun wr=>jdj 24 wr (by omega));have dg:setN ls<16777216:=jfV (fun z hz=>(bH z hz).2);have c4:setN fs<16777216:=jfV (fun z hz=>(bO z hz).2);have dx:=zA cO;obtain⟨sL,bB⟩:=eX (setN ls);obtain⟨sF,b4⟩:=eX (setN fs);rw[<- bB]at C2 dg;rw[<- b4]at C1 c4;have dG:=zA bB;have cX:=zA b4;obtain⟨oS,b6⟩:=eX (Obj.cells (List.replicate n (.slice none 0 0)).toArray 119 (0,0));obtain⟨oU,bL⟩:=eX (Obj.cells (jcR (List.replicate n 0)) 110 (0,0));have bF:∀u:World,(Instr.makeSlice 112 (.int .i64 (n:Int)) (.int .i64 (n:Int))).run Tryz.prog u=.ok (.slice (some ⟨u.heap.size,0,none⟩) n n) (u.alloc oS):=fun u=>by
  rw[b6,<- jeM];exact run_make_row 112 119 i1 (.slice none 0 0) Tryz.underlying112 cS ds dD rfl .i64 .i64 n (by rw[dr];omega) (by omega) u
 have bI:∀u:World,(Instr.makeSlice 113 (.int .i64 (n:Int)) (.int .i64 (n:Int))).run Tryz.prog u=.ok (.slice (some ⟨u.heap.size,0,none⟩) n n) (u.alloc oU):=fun u=>by
  rw[bL,<- made_u];exact run_make_row 113 110 i2 (.int .u32 0) Tryz.underlying113 cV dy dz rfl .i64 .i64 n (by rw[dn];omega) (by omega) u
 have aX:=zA b6;have aU:=zA bL;have aA:Hid (∀(u:World) (x:Obj),Below w1.heap.size w1 u->Below w1.heap.size w1 (u.alloc x)):=zA (fun u x hu=>hu.alloc hu.size x);have ay:Hid (∀u:World,Below w1.heap.size w1 u->Below w1.heap.size w1 u.drew):=zA (fun u hu=>hu.drew);have ao:Hid (Below w1.heap.size w1 w1):=zA (zF _ _);have c5:(w.alloc (Obj.cells #[.slice wa nw bA,.slice fa nf fc,.slice la nl lc,.slice oa no oc,.bool em] 62 (0,0))).cell? ⟨gb,0,none⟩=some (.slice na n b0):=by
  have:=(a1.out.cell (p:=⟨gb,0,none⟩) (lt_of_block HG.out.blk)).trans g0;rw[aS,ho]at this;exact this
 have q2:=(KA.out w1 ao.out).2.2.1;have q1:=(KA.out w1 ao.out).2.1;have habl:ab<w1.heap.size:=lt_of_block b2.out;show Calls Tryz.prog _ #[_,.agg #[.slice wa ws.length bA,.slice fa fs.length fc,.slice la ls.length lc,.slice oa os.length oc,.bool em]] w _;rw[<- aZ,<- bz,<- bW,<- b3];clear aZ bz bW b3 aw bO bH cO cr cH cp bB b4 b6 bL g0 H;go_enter Tryz.func30,Tryz.ntmps30;go_upto_region 2 with fail;rw[<- ho,<- aS,<- bj];clear ho aS bj c5;go_cut [6] (fun s6 wx=>∃sb aa cb fb:Nat,s6=.pointer (some ⟨sb,0,none⟩)/\Hid (SrC w1.heap.size wx sb aa cb fb n sL (fun _=>0) (List.replicate n (.slice none 0 0,[])))/\Hid (Below w1.heap.size w1 wx))
 case first=>
  go_region_held3 (fun u=>u.cell? ⟨ab,2,none⟩=some (.slice la nl lc)) (exact(KA.out _ (by repeat (first|exact ao.out|apply ay.out|apply aA.out))).2.2.1)
   (first|(go_at_call 57;refine(C2.out _ (by repeat (first|exact ao.out|apply ay.out|apply aA.out))).mono ?_;rintro e w3 ⟨rfl,rfl⟩))
  all_goals (
   go_wp2_with fail;go_meet;first
    |exact⟨w1.heap.size+3,w1.heap.size+0,w1.heap.size+1,w1.heap.size+2,rfl,zA (srC_new aX.out aU.out (jak [_,_,_,_] w1 3 (by simp)) (jak [_,_,_,_] w1 0 (by simp)) (jak [_,_,_,_] w1 1 (by simp)) (jak [_,_,_,_] w1 2 (by simp)) (by omega) (by omega)),zA (by repeat (first|exact ao.out|apply ay.out|apply aA.out))⟩
    |exact⟨w1.heap.size+3,w1.heap.size+0,w1.heap.size+2,w1.heap.size+1,rfl,zA (srC_new aX.out aU.out (jak [_,_,_,_] w1 3 (by simp)) (jak [_,_,_,_] w1 0 (by simp)) (jak [_,_,_,_] w1 2 (by simp)) (jak [_,_,_,_] w1 1 (by simp)) (by omega) (by omega)),zA (by repeat (first|exact ao.out|apply ay.out|apply aA.out))⟩
    |exact⟨w1.heap.size+3,w1.heap.size+1,w1.heap.size+0,w1.heap.size+2,rfl,zA (srC_new aX.out aU.out (jak [_,_,_,_] w1 3 (by simp)) (jak [_,_,_,_] w1 1 (by simp)) (jak [_,_,_,_] w1 0 (by simp)) (jak [_,_,_,_] w1 2 (by simp)) (by omega) (by omega)),zA (by repeat (first|exact ao.out|apply ay.out|apply aA.out))⟩
    |exact⟨w1.heap.size+3,w1.heap.size+1,w1.heap.size+2,w1.heap.size+0,rfl,zA (srC_new aX.out aU.out (jak [_,_,_,_] w1 3 (by simp)) (jak [_,_,_,_] w1 1 (by simp)) (jak [_,_,_,_] w1 2 (by simp)) (jak [_,_,_,_] w1 0 (by simp)) (by omega) (by omega)),zA (by repeat (first|exact ao.out|apply ay.out|apply aA.out))⟩
    |exact⟨w1.heap.size+3,w1.heap.size+2,w1.heap.size+0,w1.heap.size+1,rfl,zA (srC_new aX.out aU.out (jak [_,_,_,_] w1 3 (by simp)) (jak [_,_,_,_] w1 2 (by simp)) (jak [_,_,_,_] w1 0 (by simp)) (jak [_,_,_,_] w1 1 (by simp)) (by omega) (by omega)),zA (by repeat (first|exact ao.out|apply ay.out|apply aA.out))⟩
    |exact⟨w1.heap.size+3,w1.heap.size+2,w1.heap.size+1,w1.heap.size+0,rfl,zA (srC_new aX.out aU.out (jak [_,_,_,_] w1 3 (by simp)) (jak [_,_,_,_] w1 2 (by simp)) (jak [_,_,_,_] w1 1 (by simp)) (jak [_,_,_,_] w1 0 (by simp)) (by omega) (by omega)),zA (by repeat (first|exact ao.out|apply ay.out|apply aA.out))⟩)
 case rest=>
 obtain⟨sb,aa,cb,fb,rfl,bV,bG⟩:=hcut;obtain⟨W2,c7⟩:=eX wc;subst c7;clear bF bI q1 q2;have aJ:=bV.out.lo.1;have hsbn:¬ab=sb:=by omega
 have az:¬sb=ab:=by omega
 have q1:=(KA.out W2 bG.out).2.1;obtain⟨da,cR⟩:=bV.out.behAt (j:=24) (by omega);have cE:=zA (C1.out W2.drew bG.out.drew);have K3:Hid (∀v:Value,(W2.setCell ⟨sb,24,none⟩ v).cell? ⟨ab,1,none⟩=some (.slice fa nf fc)):=zA (fun v=>by
  rw[World.cell?_setCell_far _ _ _ _ (show sb≠ab from az)];exact q1)
 go_wp2_with fail;go_region_held3 (fun u=>u.cell? ⟨ab,1,none⟩=some (.slice fa nf fc)) (first|exact q1|exact K3.out _)
  (first|(go_at_call 57;refine cE.out.mono ?_;rintro e w3 ⟨rfl,rfl⟩))
 obtain⟨W3,bx⟩:=eX ((W2.setCell ⟨sb,24,none⟩ (.int .u32 (sF:Int))).drew);have bo:Hid (SrC w1.heap.size W3 sb aa cb fb n sL (updB (fun _=>0) 24 sF) (List.replicate n (.slice none 0 0,[]))):=zA (by rw[bx];exact(bV.out.setBeh (j:=24) (by omega) sF).below (zF _ _).drew);have bm:Hid (Below w1.heap.size w1 W3):=zA (by rw[bx];exact(bG.out.setCell (p:=⟨sb,24,none⟩) aJ _).drew);rw[<- bx];clear bx cE K3 da cR q1;obtain⟨L1,ch⟩:=eX (if em=true then sL ||| 16777216 else sL);have bX:=zA ch;clear ch;have q4:=(KA.out W3 bm.out).2.2.2.2;obtain⟨di,c6,_⟩:=bo.out.cells;go_upto_if 37 with fail;go_cut [] (fun wx=>Hid (SrC w1.heap.size wx sb aa cb fb n L1 (updB (fun _=>0) 24 sF) (List.replicate n (.slice none 0 0,[])))/\Hid (Below w1.heap.size w1 wx))
 case first=>
  cases em with
  |true=>
   have HX:Hid (L1=sL ||| 16777216):=zA bX.out;have b1:bits .or .u32 (sL:Int) 16777216=((sL ||| 16777216:Nat):Int):=u32_or_nat sL 16777216 (by omega) (by omega);obtain⟨x,hx⟩:=eX (sL ||| 16777216);rw[<- hx]at b1;have dt:=zA hx;have ca:Hid (Calls Tryz.prog 58 #[.int .i64 24] W3.drew fun e w'=>e=.returned (.int .u32 16777216)/\w'=W3.drew):=zA (de.out W3.drew);clear hx;go_wp2_with fail;go_region_with (go_at_call 58;refine ca.out.mono ?_;rintro e w3 ⟨rfl,rfl⟩);all_goals (
    go_wp2_with fail;go_meet;exact⟨zA (by rw[HX.out,<- dt.out];exact(bo.out.setLast x).below (zF _ _).drew),zA (bm.out.setCell (p:=⟨sb,25,none⟩) aJ _).drew⟩)
  |false=>
   have HX:Hid (L1=sL):=zA bX.out;go_wp2_with fail;go_meet;exact⟨zA (by rw[HX.out];exact bo.out),bm⟩
 case rest=>
 obtain⟨dH,bS⟩:=hcut;obtain⟨W5,cY⟩:=eX wc;subst cY;clear q4 di c6 bo bm;have bD:=@run_makeMap Tryz.prog;obtain⟨hb,bd⟩:=eX W5.heap.size;have HHB:=zA bd;obtain⟨W6,a5⟩:=eX (W5.alloc (.map #[] 0));have bN:Below W5.heap.size W5 W6:=by rw[a5];exact(zF _ _).alloc (zD _) _
 have cT:=zA (dH.out.below bN);have cf:=zA (bS.out.trans (bN.mono bS.out.size));have dA:Hid (W6.ownsMap Tryz.prog 9 (plainElem Tryz.prog 110) hb 0 (.map [])):=zA (by
  have h0:(W5.alloc (.map #[] 0)).ownsMap Tryz.prog 9 (plainElem Tryz.prog 110) W5.heap.size 0 (.map ([]:List (Lit×DataW Unit))):=World.ownsMap_made W5 Tryz.prog _ _;rw[a5,bd];exact h0)
 have q0:=(KA.out W6 cf.out).1;rw[a5]at q0;have bK:w1.heap.size<=hb:=by rw[bd];exact bS.out.size
 go_wp2_with fail;rw[<- a5,<- bd];clear a5 bd bN q0 bD;go_loopw [50] (fun c wr=>∃(i:Nat) (f:Nat->Nat) (D:DataW Unit) (cc:Nat),i<=nw/\c=.int .i64 i/\cc<=i/\Hid (SrC w1.heap.size wr sb aa cb fb n L1 f (List.replicate n (.slice none 0 0,[])))/\Hid (∀p,p<25->f p=if p=24 then sF else if p<i then setN ((os.map (·.2)).getD p [])else 0)/\Hid (wr.ownsMap Tryz.prog 9 (plainElem Tryz.prog 110) hb cc D)/\Hid (∀s,D.atKey (.string s) (.lit (.int .u32 0))=.lit (.int .u32 (jdi ws s i:Int)))/\Hid (Below w1.heap.size w1 wr)) (fun c _=>nw-(intOf c).toNat)
 case atStart=>exact⟨0,_,_,0,zO _,rfl,zO _,cT,zA (fun p hp=>by simp[updB]),dA,zA (fun s=>rfl),cf⟩
 case round=>
  obtain⟨i,f,DM,cc,hi,rfl,hcc,HC,HF,bu,HT,HB⟩:=hrel;obtain⟨wx,cW⟩:=eX wr;subst cW;by_cases hlt:i<nw
  . have bR:(i:Int)<(nw:Int):=by omega
    obtain⟨s,hs⟩:∃s,ws[i]?=some s:=⟨_,zB (by rw[<- cn.out];exact hlt)⟩
    obtain⟨y,hy⟩:∃y,os[i]?=some y:=⟨_,zB (by rw[<- ce.out,aM.out];exact hlt)⟩
    have aW:=aL.out wx HB.out;obtain⟨wg,bg,bQ,_,cd,an⟩:=ck.out.get hs;obtain⟨og,aj,bJ,_,bC,am⟩:=cA.out.get hy;subst bQ bJ;have p0:=an 0 _ rfl;have p1:=am 0 _ rfl;rw[yC,yA]at p0 p1;have cZ:wx.cell? ⟨wg,bg+i,none⟩=some (.string ⟨s.toArray⟩):=(aW.cell (p:=⟨wg,bg+i,none⟩) cd).trans p0;have aQ:wx.cell? ⟨og,aj+i,none⟩=some y.1:=(aW.cell (p:=⟨og,aj+i,none⟩) bC).trans p1;have q3:=(KA.out wx HB.out).2.2.2.1;have ci:s.length<=maxLen:=by
     have h1:=may_words HM.out (s:=s) (by rw[ai.out];exact zC hs);have:=jg8 h1;unfold maxLen;omega
    obtain⟨yv,ys⟩:=y;dsimp only at aQ;have bw:=zC hy;have bq:=dx.out _ bw;dsimp only at bq;have dB:Hid ((os.map (·.2)).getD i []=ys):=zA (by rw[List.getD,zI,hy];rfl);have cB:=zA hs;obtain⟨ya,yc,bk⟩:=(b8.out _ bw).1.slice;dsimp only at bk;have CY:Hid (Calls Tryz.prog 57 #[.slice ya ys.length yc] wx.drew fun e w'=>e=.returned (.int .u32 (setN ys:Int))/\w'=wx.drew):=zA (by
     have h1:=(b8.out _ bw).1.below (aL.out wx.drew HB.out.drew);dsimp only at h1;rw[bk]at h1;exact jcq h1 bq.2 bq.1)
    rw[bk]at aQ;obtain⟨ny,cF⟩:=eX ys.length;rw[<- cF]at CY aQ;obtain⟨xb,b7⟩:=eX (setN ys);rw[<- b7]at CY;have dh:=zA b7;obtain⟨bi,fi⟩:=HC.out.behAt (j:=i) (by omega);obtain⟨WA,a0⟩:=eX ((wx.setCell ⟨sb,i,none⟩ (.int .u32 (xb:Int))).drew);have c3:Hid (SrC w1.heap.size WA sb aa cb fb n L1 (updB f i xb) (List.replicate n (.slice none 0 0,[]))):=zA (by rw[a0];exact(HC.out.setBeh (j:=i) (by omega) xb).below (zF _ _).drew);have cl:Hid (Below w1.heap.size w1 WA):=zA (by rw[a0];exact(HB.out.setCell (p:=⟨sb,i,none⟩) aJ _).drew);have aH:Hid (WA.ownsMap Tryz.prog 9 (plainElem Tryz.prog 110) hb cc DM):=zA (by
     rw[a0];exact map_keyG bu.out (fun o ho=>(zM wx ⟨sb,i,none⟩ _ hb (blk_ne_mapG HC.out.blk bu.out)).trans ho))
    have cg:Hid (∀v:Value,(wx.setCell ⟨sb,i,none⟩ v).cell? ⟨ab,3,none⟩=some (.slice (some ⟨og,aj,none⟩) no oc)/\(wx.setCell ⟨sb,i,none⟩ v).cell? ⟨og,aj+i,none⟩=some (.slice ya ny yc)):=zA (fun v=>by
     rw[World.cell?_setCell_far _ _ _ _ (show sb≠ab from az),World.cell?_setCell_far _ _ _ _ (show sb≠og by have:=dc.out;omega)];exact⟨q3,aQ⟩)
    have hnoI:(i:Int)<(no:Int):=by have:=aM.out;omega
    have hi25:(i:Int)<25:=by omega
    -- the map's equations in the world behind
    obtain⟨X,hX⟩:=eX (jdi ws s i);have co:X<16777216:=by rw[hX];exact jf3 _ _ _ (by omega)
    have cj:2^i<16777216:=jb7 (by omega);have CO:Hid (Calls Tryz.prog 58 #[.int .i64 (i:Int)] WA.drew fun e w'=>e=.returned (.int .u32 ((2^i:Nat):Int))/\w'=WA.drew):=zA (jdj i WA.drew (by omega));obtain⟨pw,aK⟩:=eX (2^i);rw[<- aK]at CO cj;have hlk:(Instr.lookup 118 (.map (some hb)) (.string ⟨s.toArray⟩) false).run Tryz.prog WA.drew=.ok (.int .u32 (X:Int)) WA.drew:=by
     obtain⟨z,hr,ah,_⟩:=aH.out.drew.lookup_int lawSG Tryz.underlying118 Tryz.underlying110 (show (zeroValue 110).run Tryz.prog WA.drew=.ok (.int .u32 0) WA.drew by kernel_rfl) (keySG s ci);rw[HT.out s,<- hX]at ah;injection ah with ah;injection ah with _ ah;rw[ah];exact hr
    have b1:bits .or .u32 (X:Int) (pw:Int)=((X ||| pw:Nat):Int):=u32_or_nat X pw (by omega) (by omega);obtain⟨Y,hY⟩:=eX (X ||| pw);have hYl:Y<16777216:=by rw[hY];exact jek co cj
    rw[<- hY]at b1;obtain⟨WB,hup,cD,aI⟩:=aH.out.drew.update (t:=118) lawSG Tryz.underlying118 (show cc<maxLen by unfold maxLen;omega) (val:=.int .u32 (Y:Int)) (keySG s ci) (plainElem_int Tryz.underlying110 (by simp[Lit.wf,IntKind.min,IntKind.max,IntKind.bits,IntKind.signed];omega));have dp:=zA cD;have dv:Hid (SrC w1.heap.size WB sb aa cb fb n L1 (updB f i xb) (List.replicate n (.slice none 0 0,[]))):=zA (by
     have hC:=c3.out;exact { hC with
      blk:=blk_grownG (w:=WA.drew) hC.blk aI (fun e=>blk_ne_mapG hC.blk aH.out (Option.some.inj e))
      came:=blk_grownG (w:=WA.drew) hC.came aI (fun e=>blk_ne_mapG hC.came aH.out (Option.some.inj e))
      fresh:=blk_grownG (w:=WA.drew) hC.fresh aI (fun e=>blk_ne_mapG hC.fresh aH.out (Option.some.inj e))
      st:=blk_grownG (w:=WA.drew) hC.st aI (fun e=>blk_ne_mapG hC.st aH.out (Option.some.inj e))
      rows:=fun r hr=>owns_grownG (w:=WA.drew) (hC.rows r hr) aI (fun g e=>by rw[<- e];exact own_ne_mapG (hC.rows r hr) aH.out) })
    have dC:Hid (Below w1.heap.size w1 WB):=zA (cl.out.drew.grown aI cl.out.size (fun k e=>by
     cases e
     exact bK))
    have dF:Hid (∀t,(DM.put (.string s) (.lit (.int .u32 (Y:Int)))).atKey (.string t) (.lit (.int .u32 0))=.lit (.int .u32 (jdi ws t (i+1):Int))):=zA (fun t=>by
     by_cases e:t=s
     . subst e;rw[Maps.atKey_put_same bu.out.isMap (show WideAt.IsKeyLit (.string t)from trivial),jdi,if_pos cB.out,<- hX,<- aK,<- hY]
     . rw[Maps.atKey_put_other (by simpa using e),HT.out t,jdi,if_neg (fun h2=>e (by rw[cB.out]at h2;injection h2 with h2;exact h2.symm))])
    have dI:Hid (∀p,p<25->updB f i xb p=if p=24 then sF else if p<i+1 then setN ((os.map (·.2)).getD p [])else 0):=zA (fun p hp=>by
     unfold updB;by_cases e:p=i
     . subst e;rw[if_pos rfl,if_neg (by omega),if_pos (by omega),dB.out,dh.out]
     . rw[if_neg e,HF.out p hp];by_cases e2:p=24
       . rw[if_pos e2,if_pos e2]
       . rw[if_neg e2,if_neg e2];by_cases e3:p<i
         . rw[if_pos e3,if_pos (by omega)]
         . rw[if_neg e3,if_neg (by omega)])
    clear hs hy an am p0 p1 bw bq bk cF b7 cD aI hX aK hY;go_wp2_with fail;go_region_held3 (fun u=>u.cell? ⟨ab,3,none⟩=some (.slice (some ⟨og,aj,none⟩) no oc)/\u.cell? ⟨og,aj+i,none⟩=some (.slice ya ny yc)) (first|exact⟨q3,aQ⟩|exact cg.out _)
     (first|(go_at_call 57;refine CY.out.mono ?_;rintro e w3 ⟨rfl,rfl⟩))
    rw[<- a0];clear a0 cg CY cZ aQ q3 bi fi;go_wp2_with fail;go_region_with (go_at_call 58;refine CO.out.mono ?_;rintro e w3 ⟨rfl,rfl⟩);all_goals (
     go_wp2;go_roundw
     case rel=>exact⟨i+1,_,_,cc+1,by omega,by go_num,by omega,dv,dI,dp,dF,dC⟩
     case measure=>simp[intOf];omega)
  . have bR:¬(i:Int)<(nw:Int):=by omega
    have cC:i=nw:=by omega
    have dm:Hid (∀p,p<25->f p=behA a p):=zA (fun p hp=>by
     rw[HF.out p hp,behA,ai.out];dsimp only;by_cases e:p=24
     . rw[if_pos e,if_pos e,cX.out]
     . rw[if_neg e,if_neg e];by_cases e2:p<i
       . rw[if_pos e2]
       . rw[if_neg e2,List.getD,yE (by rw[zH,<- ce.out,aM.out];omega)];rfl)
    have c9:Hid (∀s,DM.atKey (.string s) (.lit (.int .u32 0))=.lit (.int .u32 (atW a s:Int))):=zA (fun s=>by
     rw[HT.out s,atW,ai.out,cC,cn.out])
    clear cC;obtain⟨ne,aT⟩:=eX E.length;rw[<- aT]at hEl;have bM:=zA aT;obtain⟨ea,bb,bt⟩:=HG.out.edges.slice;rw[<- aT]at bt;have cU:Hid (SlS csE 3 S w (.slice ea ne bb) E):=zA (by rw[<- bt];exact HG.out.edges);have dk:wx.cell? ⟨gb,2,none⟩=some (.slice ea ne bb):=by
     have h1:=(cells3G HG.out.blk).1.2.2;rw[bt]at h1;exact((aL.out wx HB.out).cell (p:=⟨gb,2,none⟩) (lt_of_block HG.out.blk)).trans h1
    obtain⟨WC,dE⟩:=eX wx;subst dE;clear aT bt HF HT;go_wp2_with fail;go_loopw [78] (fun c wr=>∃(i:Nat) (rs:List (Value×List (Nat×Nat))),i<=ne/\c=.int .i64 i/\Hid (SrC w1.heap.size wr sb aa cb fb n L1 f rs)/\Hid (rs.map (·.2)=(List.range n).map (ja9 a (E.take i)))/\Hid (wr.ownsMap Tryz.prog 9 (plainElem Tryz.prog 110) hb cc DM)/\Hid (Below w1.heap.size w1 wr)) (fun c _=>ne-(intOf c).toNat)
    case atStart=>exact⟨0,_,zO _,rfl,HC,zA (by
     rw[List.map_replicate];apply List.ext_getElem?;intro j;rw[List.getElem?_replicate,zI];by_cases hj:j<n
     . rw[if_pos hj,yO hj];rfl
     . rw[if_neg hj,yE (by simp;omega)];rfl),bu,HB⟩
    case round=>
     obtain⟨k,rs,hk,rfl,aO,bc,cN,bh⟩:=hrel;obtain⟨wy,dl⟩:=eX wr;subst dl;clear dk;by_cases hltk:k<ne
     . have ba:(k:Int)<(ne:Int):=by omega
       obtain⟨⟨e0,e1,e2⟩,hx⟩:∃x,E[k]?=some x:=⟨_,zB (by rw[<- bM.out];exact hltk)⟩
       obtain⟨g,bP,dd,_,bU,af⟩:=cU.out.get hx;subst dd;have aW:=aL.out wy bh.out;have c0:=(aW.cell (p:=⟨g,bP+k*3,none⟩) bU).trans (af 0 _ rfl);have c1:=(aW.cell (p:=⟨g,bP+k*3+1,none⟩) bU).trans (af 1 _ rfl);have c2:=(aW.cell (p:=⟨g,bP+k*3+2,none⟩) bU).trans (af 2 _ rfl);dsimp only at c0 c1 c2;obtain⟨bv,cx,du⟩:=HE.out _ (zC hx);dsimp only at bv cx du;rw[<- HN.out]at bv cx;have aY:=zA (fun v=>steps_take (a:=a) hx v);dsimp only at aY;obtain⟨X,hX⟩:=eX (atW a e1);have co:X<16777216:=by rw[hX];exact jf3 _ _ _ (jct HM.out).1
       rw[<- hX]at aY;obtain⟨oE,aV⟩:=eX (Obj.cells #[.int .i64 (e0:Int),.string ⟨e1.toArray⟩,.int .i64 (e2:Int)] 109 (0,0));obtain⟨eb,bZ⟩:=eX wy.heap.size;obtain⟨wz,ax⟩:=eX (wy.alloc oE);have bl:Below wy.heap.size wy wz:=by rw[ax];exact(zF _ _).alloc (zD _) _
       have aR:wz.heap[eb]?=some oE:=by rw[ax,bZ];exact heap_alloc_new _ _
       have aF:=zA (aO.out.below bl);have bs:=zA (bh.out.trans (bl.mono bh.out.size));have bn:Hid (wz.ownsMap Tryz.prog 9 (plainElem Tryz.prog 110) hb cc DM):=zA (map_keyG cN.out (fun o ho=>(bl.block hb cN.out.lt).trans ho));have dq:Hid ((Instr.lookup 118 (.map (some hb)) (.string ⟨e1.toArray⟩) false).run Tryz.prog wz=.ok (.int .u32 (X:Int)) wz):=zA (by
        obtain⟨z,hr,ah,_⟩:=bn.out.lookup_int lawSG Tryz.underlying118 Tryz.underlying110 (show (zeroValue 110).run Tryz.prog wz=.ok (.int .u32 0) wz by kernel_rfl) (keySG e1 (by unfold maxLen;omega));rw[c9.out e1,<- hX]at ah;injection ah with ah;injection ah with _ ah;rw[ah];exact hr)
       have aB:=dq.out;rw[ax,aV]at aB;by_cases hX0:X=0
       . have br:Hid (rs.map (·.2)=(List.range n).map (ja9 a (E.take (k+1)))):=zA (by
          rw[bc.out];exact yR (fun v _=>by rw[aY.out v,if_neg (fun h=>h.2 hX0),List.append_nil]))
         have cI:(X:Int)=0:=by omega
         rw[cI]at aB;rw[aV]at ax;clear hx af hX cI aR;go_wp2;rw[<- ax];go_roundw
         case rel=>exact⟨k+1,rs,by omega,by go_num,aF,br,bn,bs⟩
         case measure=>simp[intOf];omega
       . have hXi:((X:Int)!=0)=true:=by simp;omega
         have hXi2:¬(X:Int)=0:=by omega
         obtain⟨r,hr⟩:∃r,rs[e0]?=some r:=⟨_,zB (by rw[aO.out.len];exact bv)⟩
         have ak:=aF.out.rows r (zC hr);obtain⟨rv,rl⟩:=r;dsimp only at ak;have a7:rl.length<=10000:=by
          have h1:(rs.map (·.2))[e0]?=some rl:=by rw[zI,hr];rfl
          rw[bc.out,zI,yO bv]at h1;simp only[Option.map_some,Option.some.injEq]at h1;rw[<- h1];unfold ja9;have h2:=List.length_filterMap_le (fun e:Eg=>if e.1=e0/\atW a e.2.1≠0 then some (e.2.2,atW a e.2.1)else none) (E.take k);rw[zX]at h2;have:=bM.out;omega
         obtain⟨ra,rc,cG⟩:=jab ak;obtain⟨nr,bf⟩:=eX rl.length;rw[<- bf]at cG a7;subst cG;have df:=zA bf;have aD:=(aF.out.st.cell (i:=e0) (v:=.slice ra nr rc) (by rw[zI,hr];rfl))
         have b5:=zA hr;have cM:Hid (wz.ownsRow w1.heap.size 121 2 (.slice ra nr rc) nr (rl.flatMap csSt)):=zA (by rw[bf];rw[bf]at ak;exact ak);have KS:Hid (∀u,Below wz.heap.size wz u->u.cell? ⟨sb,26,none⟩=some (.slice (some ⟨aa,0,none⟩) n n)/\u.cell? ⟨eb,0,none⟩=some (.int .i64 (e0:Int))/\u.cell? ⟨eb,2,none⟩=some (.int .i64 (e2:Int))):=zA (fun u hu=>by
          have h1:=(hu.block eb (lt_of_block aR)).trans aR;rw[aV]at h1;obtain⟨⟨z0,z1,z2⟩,_⟩:=cells3G h1;exact⟨(aF.out.below hu).cells.2.2,z0,z2⟩)
         have cy:Hid (Below wz.heap.size wz wz.drew):=zA (zF _ _).drew;have av:Hid (Below wz.heap.size wz (wz.drew.alloc (.cells #[.int .i64 (e2:Int),.int .u32 (X:Int)] 121))):=zA ((zF _ _).drew.alloc (zD _) _);have db:Hid (wz.drew.cell? ⟨aa,e0,none⟩=some (.slice ra nr rc)):=zA aD.1;have cP:Hid ((wz.alloc (.cells #[.int .i64 (e2:Int),.int .u32 (X:Int)] 121)).cell? ⟨aa,e0,none⟩=some (.slice ra nr rc)):=zA ((av.out.cell (p:=⟨aa,e0,none⟩) (lt_of_block aF.out.st)).trans aD.1);have aC:Hid ((wz.drew.alloc (.cells #[.int .i64 (e2:Int),.int .u32 (X:Int)] 121)).ownsRow w1.heap.size 121 2 (.slice ra nr rc) nr (rl.flatMap csSt)):=zA (jao cM.out av.out);have a3:Hid (∀(j:Nat) u,[Value.int .i64 (e2:Int),.int .u32 (X:Int)][j]?=some u->(wz.drew.alloc (.cells #[.int .i64 (e2:Int),.int .u32 (X:Int)] 121)).cell? ((⟨wz.heap.size,0,none⟩:Addr).add j)=some u):=zA (World.news_of_block (cs:=#[.int .i64 (e2:Int),.int .u32 (X:Int)]) (t:=121) (fr:=(0,0)) (heap_alloc_new wz.drew _));have hszz:w1.heap.size<=wz.heap.size:=bs.out.size;have cK:Hid (∀gg ac w9,w9.ownsRow w1.heap.size 121 2 (.slice (some ⟨gg,0,none⟩) (nr+1) ac) (nr+1) (rl.flatMap csSt++[.int .i64 (e2:Int),.int .u32 (X:Int)])->(wz.drew.alloc (.cells #[.int .i64 (e2:Int),.int .u32 (X:Int)] 121)).grownBy w9 (Value.slice ra nr rc).ownBlock->((Value.slice ra nr rc).ownBlock=some gg\/gg=wz.heap.size+1)->
          (w9.cell? ⟨sb,26,none⟩=some (.slice (some ⟨aa,0,none⟩) n n)/\w9.cell? ⟨eb,0,none⟩=some (.int .i64 (e0:Int))/\w9.cell? ⟨eb,2,none⟩=some (.int .i64 (e2:Int)))/\((w9.setCell ⟨aa,e0,none⟩ (.slice (some ⟨gg,0,none⟩) (nr+1) ac)).cell? ⟨sb,26,none⟩=some (.slice (some ⟨aa,0,none⟩) n n)/\(w9.setCell ⟨aa,e0,none⟩ (.slice (some ⟨gg,0,none⟩) (nr+1) ac)).cell? ⟨eb,0,none⟩=some (.int .i64 (e0:Int))/\(w9.setCell ⟨aa,e0,none⟩ (.slice (some ⟨gg,0,none⟩) (nr+1) ac)).cell? ⟨eb,2,none⟩=some (.int .i64 (e2:Int)))/\(w9.cell? ⟨aa,e0,none⟩=some (.slice ra nr rc)/\w9.frozen? ⟨aa,e0,none⟩=false)/\Hid (SrC w1.heap.size (w9.setCell ⟨aa,e0,none⟩ (.slice (some ⟨gg,0,none⟩) (nr+1) ac)) sb aa cb fb n L1 f (rs.set e0 (.slice (some ⟨gg,0,none⟩) (nr+1) ac,rl++[(e2,X)])))/\Hid ((w9.setCell ⟨aa,e0,none⟩ (.slice (some ⟨gg,0,none⟩) (nr+1) ac)).ownsMap Tryz.prog 9 (plainElem Tryz.prog 110) hb cc DM)/\Hid (Below w1.heap.size w1 (w9.setCell ⟨aa,e0,none⟩ (.slice (some ⟨gg,0,none⟩) (nr+1) ac)))):=zA (fun gg ac w9 h1 h2 h3=>by
          have a8:=aF.out.below av.out;have aq:=aC.out;have a4:∀b,b<(wz.drew.alloc (.cells #[.int .i64 (e2:Int),.int .u32 (X:Int)] 121)).heap.size->(Value.slice ra nr rc).ownBlock≠some b->w9.heap[b]?=(wz.drew.alloc (.cells #[.int .i64 (e2:Int),.int .u32 (X:Int)] 121)).heap[b]?:=fun b hb aT=>h2.block b hb (fun e=>aT e.symm)
          have aE:=blk_grownG a8.blk h2 (jan aq a8.blk (by decide));have ap:VRow w9 aa 119 _:=blk_grownG a8.st h2 (jan aq a8.st (by decide));have aG:(wz.drew.alloc (.cells #[.int .i64 (e2:Int),.int .u32 (X:Int)] 121)).heap[eb]?=some oE:=(av.out.block eb (lt_of_block aR)).trans aR;rw[aV]at aG;have ar:=blk_grownG aG h2 (jan aq aG (by decide));have cL:(wz.drew.alloc (.cells #[.int .i64 (e2:Int),.int .u32 (X:Int)] 121)).ownsMap Tryz.prog 9 (plainElem Tryz.prog 110) hb cc DM:=map_keyG bn.out (fun o ho=>(av.out.block hb bn.out.lt).trans ho);have cm:=map_keyG (w':=w9) cL (fun o ho=>blk_grownG ho h2 (own_ne_mapG aq cL));have aP:∀b,b≠aa->(w9.setCell ⟨aa,e0,none⟩ (.slice (some ⟨gg,0,none⟩) (nr+1) ac)).heap[b]?=w9.heap[b]?:=fun b hb=>zM _ _ _ _ hb
          have bY:=(aP eb (fun e=>by rw[e]at ar;exact absurd (show _=_ from ar.symm.trans ap) (by simp))).trans ar;obtain⟨⟨z0,z1,z2⟩,_⟩:=cells3G ar;obtain⟨⟨y0,y1,y2⟩,_⟩:=cells3G bY;have a2:=ap.cell (i:=e0) (v:=.slice ra nr rc) (by rw[zI,b5.out];rfl);have bE:w9.cell? ⟨sb,26,none⟩=some (.slice (some ⟨aa,0,none⟩) n n):=by simp[World.cell?,aE,jaB]
          have b9:=(aP sb (jbg aE ap (by decide))).trans aE;have a6:(w9.setCell ⟨aa,e0,none⟩ (.slice (some ⟨gg,0,none⟩) (nr+1) ac)).cell? ⟨sb,26,none⟩=some (.slice (some ⟨aa,0,none⟩) n n):=by simp only[World.cell?,b9];simp[jaB]
          refine⟨⟨bE,z0,z2⟩,⟨a6,y0,y2⟩,a2,zA ?_,zA (map_keyG cm (fun o ho=>(aP hb (blk_ne_mapG ap cm)).trans ho)),zA ?_⟩
          . refine a8.setRow (r:=(.slice ra nr rc,rl)) b5.out a4 (by
             rw[zG,<- df.out,zP];exact h1) (fun g hg=>?_)
            have e1:gg=g:=by simpa[Value.ownBlock]using hg
            subst e1;rcases h3 with h3|h3
            . exact .inl h3
            . right;simp;omega
          . refine Below.setCell (p:=⟨aa,e0,none⟩) ?_ aF.out.lo.2.1 _;exact(bs.out.trans (av.out.mono bs.out.size)).grown h2 (by simp;omega) (fun k e=>(cM.out.lt k e).1))
         have br:Hid (∀v:Value,(rs.set e0 (v,rl++[(e2,X)])).map (·.2)=(List.range n).map (ja9 a (E.take (k+1)))):=zA (fun v=>by
          rw[List.map_set,bc.out];apply List.ext_getElem?;intro j;rw[List.getElem?_set,zI,zI];by_cases hj:j<n
          . rw[yO hj];by_cases ej:e0=j
            . subst ej;rw[if_pos rfl,if_pos (by simp;omega)];have h1:(rs.map (·.2))[e0]?=some rl:=by rw[zI,b5.out];rfl
              rw[bc.out,zI,yO hj]at h1;simp only[Option.map_some,Option.some.injEq]at h1;simp only[Option.map_some];rw[aY.out e0,if_pos ⟨rfl,hX0⟩,h1]
            . rw[if_neg ej];simp only[Option.map_some];rw[aY.out j,if_neg (fun h=>ej h.1),List.append_nil]
          . rw[yE (l:=List.range n) (by simp;omega)];by_cases ej:e0=j
            . omega
            . rw[if_neg ej];rfl)
         have hE0I:(e0:Int)<(n:Int):=by omega
         rw[aV]at ax;clear hx af hX aR bl hr ak bf aD aV;go_wp2_with fail;rw[<- ax,<- bZ];clear ax bZ aB c0 c1 c2;have hl2:wz.drew.cell? ⟨aa,e0,none⟩=some (.slice ra nr rc):=db.out;have hl3:=cP.out;refine wp_region_held_drew (S:=fun u=>u.cell? ⟨sb,26,none⟩=some (.slice (some ⟨aa,0,none⟩) n n)/\u.cell? ⟨eb,0,none⟩=some (.int .i64 (e0:Int))/\u.cell? ⟨eb,2,none⟩=some (.int .i64 (e2:Int))) (by kernel_rfl) ?_ (fun hHeld=>?_)
         . exact KS.out _ cy.out
         refine tkH (i:=0) (oi:=⟨some 88,.move (.tmp 6),67, "search.go:66",#[],none⟩) (v:=?_) rfl ?_ hHeld ?_;rotate_left 1
         . rintro W ⟨l1,l2,l3⟩;go_simp;try with_reducible rfl
         simp only[Act.put,zIB,zSZ,zSS];refine tkH (i:=1) (oi:=⟨some 89,.nilCheck (.tmp 88),0, "search.go:66",#[⟨0,.data⟩],none⟩) (v:=?_) rfl ?_ hHeld ?_;rotate_left 1
         . rintro W ⟨l1,l2,l3⟩;go_simp;try with_reducible rfl
         simp only[Act.put,zIB,zSZ,zSS];refine tkH (i:=2) (oi:=⟨some 90,.fieldAddr 116 (.tmp 89) 2,0, "search.go:66",#[⟨1,.data⟩],none⟩) (v:=?_) rfl ?_ hHeld ?_;rotate_left 1
         . rintro W ⟨l1,l2,l3⟩;go_simp;try with_reducible rfl
         simp only[Act.put,zIB,zSZ,zSS];refine tkH (i:=3) (oi:=⟨some 91,.load 112 (.tmp 90),112, "search.go:66",#[⟨2,.data⟩],none⟩) (v:=?_) rfl ?_ hHeld ?_;rotate_left 1
         . rintro W ⟨l1,l2,l3⟩;go_simp;try with_reducible rfl
         simp only[Act.put,zIB,zSZ,zSS];refine tkH (i:=4) (oi:=⟨some 92,.fieldAddr 109 (.tmp 11) 0,0, "search.go:66",#[],none⟩) (v:=?_) rfl ?_ hHeld ?_;rotate_left 1
         . rintro W ⟨l1,l2,l3⟩;go_simp;try with_reducible rfl
         simp only[Act.put,zIB,zSZ,zSS];refine tkH (i:=5) (oi:=⟨some 93,.load 3 (.tmp 92),3, "search.go:66",#[⟨4,.data⟩],none⟩) (v:=?_) rfl ?_ hHeld ?_;rotate_left 1
         . rintro W ⟨l1,l2,l3⟩;go_simp;try with_reducible rfl
         simp only[Act.put,zIB,zSZ,zSS];refine tkH (i:=6) (oi:=⟨some 94,.move (.tmp 6),67, "search.go:66",#[],none⟩) (v:=?_) rfl ?_ hHeld ?_;rotate_left 1
         . rintro W ⟨l1,l2,l3⟩;go_simp;try with_reducible rfl
         simp only[Act.put,zIB,zSZ,zSS];refine tkH (i:=7) (oi:=⟨some 95,.nilCheck (.tmp 94),0, "search.go:66",#[⟨6,.data⟩],none⟩) (v:=?_) rfl ?_ hHeld ?_;rotate_left 1
         . rintro W ⟨l1,l2,l3⟩;go_simp;try with_reducible rfl
         simp only[Act.put,zIB,zSZ,zSS];refine tkH (i:=8) (oi:=⟨some 96,.fieldAddr 116 (.tmp 95) 2,0, "search.go:66",#[⟨7,.data⟩],none⟩) (v:=?_) rfl ?_ hHeld ?_;rotate_left 1
         . rintro W ⟨l1,l2,l3⟩;go_simp;try with_reducible rfl
         simp only[Act.put,zIB,zSZ,zSS];refine tkH (i:=9) (oi:=⟨some 97,.load 112 (.tmp 96),112, "search.go:66",#[⟨8,.data⟩],none⟩) (v:=?_) rfl ?_ hHeld ?_;rotate_left 1
         . rintro W ⟨l1,l2,l3⟩;go_simp;try with_reducible rfl
         simp only[Act.put,zIB,zSZ,zSS];refine tkH (i:=10) (oi:=⟨some 98,.fieldAddr 109 (.tmp 11) 0,0, "search.go:66",#[],none⟩) (v:=?_) rfl ?_ hHeld ?_;rotate_left 1
         . rintro W ⟨l1,l2,l3⟩;go_simp;try with_reducible rfl
         simp only[Act.put,zIB,zSZ,zSS];refine tkH (i:=11) (oi:=⟨some 99,.load 3 (.tmp 98),3, "search.go:66",#[⟨10,.data⟩],none⟩) (v:=?_) rfl ?_ hHeld ?_;rotate_left 1
         . rintro W ⟨l1,l2,l3⟩;go_simp;try with_reducible rfl
         simp only[Act.put,zIB,zSZ,zSS];refine tkH (i:=12) (oi:=⟨some 100,.indexAddr 112 (.tmp 97) (.tmp 99),0, "search.go:66",#[⟨9,.data⟩,⟨11,.data⟩],none⟩) (v:=?_) rfl ?_ hHeld ?_;rotate_left 1
         . rintro W ⟨l1,l2,l3⟩;go_simp;try with_reducible rfl
         simp only[Act.put,zIB,zSZ,zSS];refine tkH (i:=14) (oi:=⟨some 102,.fieldAddr 109 (.tmp 11) 2,0, "search.go:66",#[],none⟩) (v:=?_) rfl ?_ hHeld ?_;rotate_left 1
         . rintro W ⟨l1,l2,l3⟩;go_simp;try with_reducible rfl
         simp only[Act.put,zIB,zSZ,zSS];refine tkH (i:=15) (oi:=⟨some 103,.load 3 (.tmp 102),3, "search.go:66",#[⟨14,.data⟩],none⟩) (v:=?_) rfl ?_ hHeld ?_;rotate_left 1
         . rintro W ⟨l1,l2,l3⟩;go_simp;try with_reducible rfl
         simp only[Act.put,zIB,zSZ,zSS];refine tkH (i:=16) (oi:=⟨some 104,.move (.tmp 12),110, "search.go:66",#[],none⟩) (v:=?_) rfl ?_ hHeld ?_;rotate_left 1
         . rintro W ⟨l1,l2,l3⟩;go_simp;try with_reducible rfl
         simp only[Act.put,zIB,zSZ,zSS];refine tkH (i:=17) (oi:=⟨some 105,.build 121 #[(0,.tmp 103),(1,.tmp 104)],121, "search.go:66",#[⟨15,.data⟩,⟨16,.data⟩],none⟩) (v:=?_) rfl ?_ hHeld ?_;rotate_left 1
         . rintro W ⟨l1,l2,l3⟩;go_simp;try with_reducible rfl
         simp only[Act.put,zIB,zSZ,zSS];refine wpAnyH_ready (rs:=[13,18]) (by kernel_rfl) (by simp) ?_;refine AllReadyH.cons (o:=⟨some 101,.load 119 (.tmp 100),119, "search.go:66",#[⟨12,.data⟩],none⟩) rfl (fun K hK=>?_) (AllReadyH.cons (o:=⟨some 106,.buildSlice 119 1 #[(0,.tmp 105)],119, "search.go:66",#[⟨17,.data⟩],none⟩) rfl (fun K hK=>?_) AllReadyH.nil)
         . go_simp;refine hK.out _ _ (KS.out _ cy.out) (fun hHeld=>?_);clear hK K;refine rdH (k:=18) (o:=⟨some 106,.buildSlice 119 1 #[(0,.tmp 105)],119, "search.go:66",#[⟨17,.data⟩],none⟩) rfl (fun K hK=>?_);go_simp;refine hK.out _ _ (KS.out _ av.out) (fun hHeld=>?_);clear hK K;refine rdH (k:=19) (o:=⟨some 107,.call { callee:=.builtin .append,args:=#[.tmp 101,.tmp 106],argTypes:=#[119,119] },119, "search.go:66",#[⟨13,.data⟩,⟨18,.data⟩],none⟩) rfl (fun K hK=>?_);refine step_append_lies _ (by rfl) _ _ _ (by rfl) w1.heap.size 121 i3 _ 2 16 Tryz.underlying119 cv cq cw cu rfl (by decide) (.slice ra nr rc) _ _ (by rfl) aC.out ⟨wz.heap.size,0,none⟩ 1 1 [.int .i64 (e2:Int),.int .u32 (X:Int)] (by rfl) (by rfl) a3.out (by simp[Value.oneCell']) (by decide) (by unfold maxLen;omega) (by omega) (by simp;omega) (wz.heap.size+1) (by simp) ?_;intro gg ac w9 ae ad al aN;have ag:=zA (cK.out gg ac w9 ae ad al);refine hK.out _ _ ag.out.1 (fun hHeld=>?_);clear hK K ae ad al aN;obtain⟨c2,c8⟩:=ag.out.2.2.1;refine tkH (i:=20) (oi:=⟨some 108,.indexAddr 112 (.tmp 91) (.tmp 93),0, "search.go:66",#[⟨3,.data⟩,⟨5,.data⟩,⟨0,.phase⟩,⟨1,.phase⟩,⟨2,.phase⟩,⟨3,.phase⟩,⟨4,.phase⟩,⟨5,.phase⟩,⟨6,.phase⟩,⟨7,.phase⟩,⟨8,.phase⟩,⟨9,.phase⟩,⟨10,.phase⟩,⟨11,.phase⟩,⟨12,.phase⟩,⟨13,.phase⟩,⟨14,.phase⟩,⟨15,.phase⟩,⟨16,.phase⟩,⟨17,.phase⟩,⟨18,.phase⟩,⟨19,.phase⟩],none⟩) (v:=?_) rfl ?_ hHeld ?_;rotate_left 1
           . rintro W ⟨l1,l2,l3⟩;go_simp;try with_reducible rfl
           simp only[Act.put,zIB,zSZ,zSS];refine rdH (k:=21) (o:=⟨none,.store 119 (.tmp 108) (.tmp 107),0, "search.go:66",#[⟨20,.data⟩,⟨19,.data⟩,⟨19,.chain⟩,⟨0,.phase⟩,⟨1,.phase⟩,⟨2,.phase⟩,⟨3,.phase⟩,⟨4,.phase⟩,⟨5,.phase⟩,⟨6,.phase⟩,⟨7,.phase⟩,⟨8,.phase⟩,⟨9,.phase⟩,⟨10,.phase⟩,⟨11,.phase⟩,⟨12,.phase⟩,⟨13,.phase⟩,⟨14,.phase⟩,⟨15,.phase⟩,⟨16,.phase⟩,⟨17,.phase⟩,⟨18,.phase⟩,⟨19,.phase⟩],none⟩) rfl (fun K hK=>?_);go_simp;refine hK.out _ _ ag.out.2.1 (fun hHeld=>?_);clear hK K c2 c8;refine wpAnyH_done (by kernel_rfl) ?_ _;go_wp2;go_roundw
           case rel=>exact⟨k+1,_,by omega,by go_num,ag.out.2.2.2.1,zA (br.out _),ag.out.2.2.2.2.1,ag.out.2.2.2.2.2⟩
           case measure=>simp[intOf];omega
         . go_simp;refine hK.out _ _ (KS.out _ av.out) (fun hHeld=>?_);clear hK K;refine rdH (k:=13) (o:=⟨some 101,.load 119 (.tmp 100),119, "search.go:66",#[⟨12,.data⟩],none⟩) rfl (fun K hK=>?_);go_simp;refine hK.out _ _ (KS.out _ av.out) (fun hHeld=>?_);clear hK K;refine rdH (k:=19) (o:=⟨some 107,.call { callee:=.builtin .append,args:=#[.tmp 101,.tmp 106],argTypes:=#[119,119] },119, "search.go:66",#[⟨13,.data⟩,⟨18,.data⟩],none⟩) rfl (fun K hK=>?_);refine step_append_lies _ (by rfl) _ _ _ (by rfl) w1.heap.size 121 i3 _ 2 16 Tryz.underlying119 cv cq cw cu rfl (by decide) (.slice ra nr rc) _ _ (by rfl) aC.out ⟨wz.heap.size,0,none⟩ 1 1 [.int .i64 (e2:Int),.int .u32 (X:Int)] (by rfl) (by rfl) a3.out (by simp[Value.oneCell']) (by decide) (by unfold maxLen;omega) (by omega) (by simp;omega) (wz.heap.size+1) (by simp) ?_;intro gg ac w9 ae ad al aN;have ag:=zA (cK.out gg ac w9 ae ad al);refine hK.out _ _ ag.out.1 (fun hHeld=>?_);clear hK K ae ad al aN;obtain⟨c2,c8⟩:=ag.out.2.2.1;refine tkH (i:=20) (oi:=⟨some 108,.indexAddr 112 (.tmp 91) (.tmp 93),0, "search.go:66",#[⟨3,.data⟩,⟨5,.data⟩,⟨0,.phase⟩,⟨1,.phase⟩,⟨2,.phase⟩,⟨3,.phase⟩,⟨4,.phase⟩,⟨5,.phase⟩,⟨6,.phase⟩,⟨7,.phase⟩,⟨8,.phase⟩,⟨9,.phase⟩,⟨10,.phase⟩,⟨11,.phase⟩,⟨12,.phase⟩,⟨13,.phase⟩,⟨14,.phase⟩,⟨15,.phase⟩,⟨16,.phase⟩,⟨17,.phase⟩,⟨18,.phase⟩,⟨19,.phase⟩],none⟩) (v:=?_) rfl ?_ hHeld ?_;rotate_left 1
           . rintro W ⟨l1,l2,l3⟩;go_simp;try with_reducible rfl
           simp only[Act.put,zIB,zSZ,zSS];refine rdH (k:=21) (o:=⟨none,.store 119 (.tmp 108) (.tmp 107),0, "search.go:66",#[⟨20,.data⟩,⟨19,.data⟩,⟨19,.chain⟩,⟨0,.phase⟩,⟨1,.phase⟩,⟨2,.phase⟩,⟨3,.phase⟩,⟨4,.phase⟩,⟨5,.phase⟩,⟨6,.phase⟩,⟨7,.phase⟩,⟨8,.phase⟩,⟨9,.phase⟩,⟨10,.phase⟩,⟨11,.phase⟩,⟨12,.phase⟩,⟨13,.phase⟩,⟨14,.phase⟩,⟨15,.phase⟩,⟨16,.phase⟩,⟨17,.phase⟩,⟨18,.phase⟩,⟨19,.phase⟩],none⟩) rfl (fun K hK=>?_);go_simp;refine hK.out _ _ ag.out.2.1 (fun hHeld=>?_);clear hK K c2 c8;refine wpAnyH_done (by kernel_rfl) ?_ _;go_wp2;go_roundw
           case rel=>exact⟨k+1,_,by omega,by go_num,ag.out.2.2.2.1,zA (br.out _),ag.out.2.2.2.2.1,ag.out.2.2.2.2.2⟩
           case measure=>simp[intOf];omega
     . have ba:¬(k:Int)<(ne:Int):=by omega
       have dw:Hid (rs.map (·.2)=(List.range n).map (ja9 a E)):=zA (by rw[bc.out,zJ (by rw[<- bM.out];omega)]);have bT:Hid (NewE w n E a (.returned (.pointer (some ⟨sb,0,none⟩))) wy):=zA (by
        have cQ:=aO.out.done (d:=sdOf (fun k=>k=aa\/∃r∈rs,r.1.ownBlock=some k) n E a) (sd_ok HM.out (fun e he=>by have:=(HE.out e he).2.1;rw[HN.out];exact this)) rfl (fun j hj=>(dm.out j hj).symm) (by
         rw[bX.out];show jgs a=_;rw[jgs,ai.out,dG.out]) dw.out.symm (fun k=>Iff.rfl)
        refine⟨sb,_,_,rfl,cQ,fun k hk=>?_,fun k hk=>?_,aL.out wy bh.out⟩
        . have dj:=aO.out.lo;have:=a1.out.size;rcases hk with hk|hk|hk|hk|hk
          . rw[hk];omega
          . rw[hk];show w.heap.size<=cb;omega
          . rw[hk];show w.heap.size<=fb;omega
          . simp[Value.ownBlock]at hk
          . simp[Value.ownBlock]at hk
        . have:=a1.out.size;rcases hk with hk|⟨r,hr,hb⟩
          . have dj:=aO.out.lo;rw[hk];exact⟨by omega,lt_of_block aO.out.st⟩
          . have:=(aO.out.rows r hr).lt k hb;exact⟨by omega,this.2⟩)
       go_wp2;go_ret;exact bT.out
end Go.Proofs.YtkbgmcmcpbegjaaGreatDoor
