/- GNewW. -/
import Derived.Test.YtdalcipmpelifaaGreatDoorMG12
set_option maxRecDepth 100000
namespace Go.Proofs.YtdalcipmpelifaaGreatDoor
open Go.RowKit Go.Shelf
theorem infoStG:(Tryz.prog.info? 103).map (fun i=>(i.zero,i.size,i.bytes))=some (some (.slice none 0 0),1,24):=by kernel_rfl
theorem infoPlG:(Tryz.prog.info? 94).map (fun i=>(i.zero,i.size,i.bytes))=some (some (.int .u32 0),1,4):=by kernel_rfl
theorem infoStepG:(Tryz.prog.info? 105).map (fun i=>(i.zero,i.size,i.bytes))=some (some (.agg #[.int .i64 0,.int .u32 0]),2,16):=by kernel_rfl
theorem made_u(n:Nat):madeCells #[Value.int .u32 0] n=uCells (List.replicate n 0):=by
 rw[made_list];unfold uCells;rw[List.map_replicate];rfl
theorem srC_new{B:Nat}{Wf:World}{sb stb cb fb n l:Nat}{oS oU:Obj}(hoS:oS=.cells (List.replicate n (.slice none 0 0)).toArray 103 (0,0))(hoU:oU=.cells (uCells (List.replicate n 0)) 94 (0,0))
 (hsb:Wf.heap[sb]?=some (.cells (srCells ⟨n,fun _=>0,l,[],noK⟩ ⟨cb,fb,.slice none 0 0,.slice none 0 0,.slice (some ⟨stb,0,none⟩) n n,[]⟩) 100 (0,0))) (hst:Wf.heap[stb]?=some oS) (hcb:Wf.heap[cb]?=some oU) (hfb:Wf.heap[fb]?=some oU) (cf:cb≠fb) (lo:B<=sb/\B<=stb/\B<=cb/\B<=fb):
 SrC B Wf sb stb cb fb n l (fun _=>0) (List.replicate n (.slice none 0 0,[])):=by
 subst hoS hoU;refine⟨hsb,hcb,hfb,?_,by simp,fun r hr=>?_,fun i j r q hr _ _ g hg=>?_,cf,lo⟩
 . rw[List.map_replicate];exact hst
 . rw[List.eq_of_mem_replicate hr];exact World.ownsRow_nil _ _ _ _
 . rw[List.eq_of_mem_replicate (zC hr)]at hg;simp[Value.ownBlock]at hg
theorem may_words{a:Au}(h:mayA a=true){s:Wd}(hs:s∈a.words):isW s=true:=by
 simp only[mayA,Bool.and_eq_true,yJ]at h;exact h.1.2 s hs
theorem sd_ok{kp:Nat->Prop}{a:Au}(hm:mayA a=true){n:Nat}{E:List Eg}(hE:∀e∈E,e.2.2<n):(sdOf kp n E a).Ok:=by
 have h24:=(may_len hm).1;have hset:∀L:List Int,(∀z∈L,0<=z/\z<a.words.length)->setN L<16777216:=fun L hL=>setN_lt (fun z hz=>by have:=hL z hz;omega)
 refine⟨by simp[sdOf],fun p _=>?_,?_,fun l hl t ht=>?_⟩
 . show behA a p<_;unfold behA;split
   . exact hset _ (fun z hz=>good_mem (may_first hm) hz)
   . rw[List.getD];cases hg:a.follow[p]? with
     |none=>exact hset [] (by simp)
     |some l=>exact hset l (fun z hz=>good_mem (may_follow hm (zC hg)) hz)
 . show lastA a<_;have h1:=hset _ (fun z hz=>good_mem (may_last hm) hz);unfold lastA;split
   . exact or_lt25 (by omega) (by omega)
   . omega
 . obtain⟨v,_,rfl⟩:=zR.1 hl;unfold stepsOf at ht;obtain⟨e,he,h2⟩:=List.mem_filterMap.1 ht;split at h2
   . injection h2 with h2;subst h2;exact⟨hE e he,wset_lt _ _ _ h24⟩
   . cases h2
theorem steps_take{a:Au}{E:List Eg}{i:Nat}{e:Eg}(h:E[i]?=some e)(v:Nat):stepsOf a (E.take (i+1)) v=stepsOf a (E.take i) v++(if e.1=v/\atW a e.2.1≠0 then [(e.2.2,atW a e.2.1)]else []):=by
 unfold stepsOf;rw[zT,h,yR,List.filterMap_append];congr 1;split
 . rename_i hc;simp[hc]
 . rename_i hc;simp[hc]
set_option maxHeartbeats 32000000 in
theorem newSearch_any{S U:Nat->Prop}{w:World}{gb:Nat}{N:List Wd}{E:List Eg}{mb:Nat}{nv ev:Value}{D:DataW Unit}{c:Nat}{m:Mu}(hg:GrS S w gb N E mb nv ev D c)(h:UOk U w m)(hm:mayA m.au=true)(hn:N.length<=10000)(hEl:E.length<=10000)(hE:∀e∈E,e.1<N.length/\e.2.2<N.length/\e.2.1.length<=140737488351232):
 Calls Tryz.prog 20 #[.pointer (some ⟨gb,0,none⟩),encU m] w (NewE w N.length E m.au):=by
 obtain⟨i1,hi1,hx0,hx1,hx2⟩:=info_partsG infoStG;obtain⟨i2,hi2,hy0,hy1,hy2⟩:=info_partsG infoPlG;obtain⟨i3,hi3,hz0,hz1,hz2⟩:=info_partsG infoStepG;obtain⟨wa,wcc,fa,fc,la,lc,oa,oc,e1,e2,e3,e4⟩:=h.slices;have H:=zA h;have HM:=zA hm;have HG:=zA hg;have HE:=zA hE;obtain⟨a,ha⟩:∃a,a=m.au:=⟨_,rfl⟩
 rw[<- ha]at HM ⊢;have HA:=zA ha;obtain⟨wv,ws,fv,fs,lv,ls,ov,os,em⟩:=m;dsimp only at e1 e2 e3 e4;subst e1 e2 e3 e4;have HAU:Hid (a=⟨ws,fs,ls,os.map (·.2),em⟩):=zA HA.out;clear h hm hg hE ha;obtain⟨n,hnn⟩:∃n,n=N.length:=⟨_,rfl⟩
 have HN:=zA hnn;rw[<- hnn]at hn ⊢;obtain⟨⟨g0,g1,g2⟩,_⟩:=cells3G HG.out.blk;obtain⟨na,ncap,hnv⟩:=HG.out.names.slice;rw[hnv,<- hnn]at g0;clear hnn hnv g1 g2;obtain⟨nw,hnw⟩:∃n,n=ws.length:=⟨_,rfl⟩
 obtain⟨no,hno⟩:∃n,n=os.length:=⟨_,rfl⟩
 obtain⟨nf,hnf⟩:∃n,n=fs.length:=⟨_,rfl⟩
 obtain⟨nl,hnl⟩:∃n,n=ls.length:=⟨_,rfl⟩
 have hmw:=may_len HM.out;have HNW:=zA hnw;have HNO:=zA hno;have hnw24:nw<=24:=by rw[hnw];have:=hmw.1;rw[HAU.out]at this;exact this
 have hnoe:no=nw:=by rw[hno,hnw];have:=hmw.2;rw[HAU.out]at this;simpa using this
 have hfz:∀z∈fs,0<=z/\z<24:=fun z hz=>by have:=good_mem (may_first HM.out) (by rw[HAU.out];exact hz);have h2:=hmw.1;omega
 have hlz:∀z∈ls,0<=z/\z<24:=fun z hz=>by have:=good_mem (may_last HM.out) (by rw[HAU.out];exact hz);have h2:=hmw.1;omega
 have hoz:∀p∈os,(∀z∈p.2,0<=z/\z<24)/\p.2.length<=1000000:=fun p hp=>by
  have hmm:p.2∈a.follow:=by rw[HAU.out];exact zU hp
  have h1:=may_follow HM.out hmm;have h2:=hmw.1;exact⟨fun z hz=>by have:=good_mem h1 hz;omega,by have:=goodL_len h1;omega⟩
 have hfl:fs.length<=1000000:=by have:=goodL_len (may_first HM.out);rw[HAU.out]at this;have h2:=hmw.1;rw[HAU.out]at h2;dsimp only at this h2;omega
 have hll:ls.length<=1000000:=by have:=goodL_len (may_last HM.out);rw[HAU.out]at this;have h2:=hmw.1;rw[HAU.out]at h2;dsimp only at this h2;omega
 have HNOE:=zA hnoe;clear hnoe;have HFS:=zA H.out.fs;have HLS:=zA H.out.ls;have HOS:=zA H.out.os;have HWS:=zA H.out.ws;have HOK:=zA H.out.ok;dsimp only at HFS HLS HOS HWS HOK;obtain⟨o,ho⟩:∃o,o=Obj.cells #[.slice wa nw wcc,.slice fa nf fc,.slice la nl lc,.slice oa no oc,.bool em] 59 (0,0):=⟨_,rfl⟩
 obtain⟨w1,hw1⟩:∃w1,w1=w.alloc o:=⟨_,rfl⟩
 obtain⟨ab,hab⟩:∃b,b=w.heap.size:=⟨_,rfl⟩
 have HB1:Hid (Below w.heap.size w w1):=zA (by rw[hw1];exact(zF _ _).alloc (zD _) _);have HAB:Hid (w1.heap[ab]?=some o):=zA (by rw[hw1,hab];exact heap_alloc_new _ _);have HO:=zA ho;have HABs:=zA hab;have hs1:w1.heap.size=w.heap.size+1:=by rw[hw1];simp
 have HS1:=zA hs1;have HWW:Hid (∀u,Below w1.heap.size w1 u->Below w.heap.size w u):=zA (fun u hu=>HB1.out.trans (hu.mono HB1.out.size));have KA:Hid (∀u,Below w1.heap.size w1 u->(u.cell? ⟨ab,0,none⟩=some (.slice wa nw wcc)/\u.cell? ⟨ab,1,none⟩=some (.slice fa nf fc)/\u.cell? ⟨ab,2,none⟩=some (.slice la nl lc)/\u.cell? ⟨ab,3,none⟩=some (.slice oa no oc)/\u.cell? ⟨ab,4,none⟩=some (.bool em))):=zA (fun u hu=>by
  have h1:=(hu.block ab (lt_of_block HAB.out)).trans HAB.out;rw[HO.out]at h1;exact cells5 h1)
 have C1:Hid (∀u,Below w1.heap.size w1 u->Calls Tryz.prog 39 #[.slice fa nf fc] u fun e w'=>e=.returned (.int .u32 (setN fs:Int))/\w'=u):=zA (fun u hu=>by rw[hnf];exact placesOf_any (HFS.out.below (HWW.out u hu)) hfl hfz);have C2:Hid (∀u,Below w1.heap.size w1 u->Calls Tryz.prog 39 #[.slice la nl lc] u fun e w'=>e=.returned (.int .u32 (setN ls:Int))/\w'=u):=zA (fun u hu=>by rw[hnl];exact placesOf_any (HLS.out.below (HWW.out u hu)) hll hlz);have C24:=zA (fun wr=>onlyM_any 24 wr (by omega));have hsl:setN ls<16777216:=setN_lt (fun z hz=>(hlz z hz).2);have hsf:setN fs<16777216:=setN_lt (fun z hz=>(hfz z hz).2);have HOZ:=zA hoz;obtain⟨sL,hsL⟩:∃x,x=setN ls:=⟨_,rfl⟩
 obtain⟨sF,hsF⟩:∃x,x=setN fs:=⟨_,rfl⟩
 rw[<- hsL]at C2 hsl;rw[<- hsF]at C1 hsf;have HSL:=zA hsL;have HSF:=zA hsF;obtain⟨oS,hoS⟩:∃o,o=Obj.cells (List.replicate n (.slice none 0 0)).toArray 103 (0,0):=⟨_,rfl⟩
 obtain⟨oU,hoU⟩:∃o,o=Obj.cells (uCells (List.replicate n 0)) 94 (0,0):=⟨_,rfl⟩
 have hmk1:∀u:World,(Instr.makeSlice 96 (.int .i64 (n:Int)) (.int .i64 (n:Int))).run Tryz.prog u=.ok (.slice (some ⟨u.heap.size,0,none⟩) n n) (u.alloc oS):=fun u=>by
  rw[hoS,<- made_list];exact run_make_row 96 103 i1 (.slice none 0 0) Tryz.underlying96 hi1 hx0 hx1 rfl .i64 .i64 n (by rw[hx2];omega) (by omega) u
 have hmk2:∀u:World,(Instr.makeSlice 97 (.int .i64 (n:Int)) (.int .i64 (n:Int))).run Tryz.prog u=.ok (.slice (some ⟨u.heap.size,0,none⟩) n n) (u.alloc oU):=fun u=>by
  rw[hoU,<- made_u];exact run_make_row 97 94 i2 (.int .u32 0) Tryz.underlying97 hi2 hy0 hy1 rfl .i64 .i64 n (by rw[hy2];omega) (by omega) u
 have HoS:=zA hoS;have HoU:=zA hoU;have HAL:Hid (∀(u:World) (x:Obj),Below w1.heap.size w1 u->Below w1.heap.size w1 (u.alloc x)):=zA (fun u x hu=>hu.alloc hu.size x);have HDR:Hid (∀u:World,Below w1.heap.size w1 u->Below w1.heap.size w1 u.drew):=zA (fun u hu=>hu.drew);have HRF:Hid (Below w1.heap.size w1 w1):=zA (zF _ _);have g0x:(w.alloc (Obj.cells #[.slice wa nw wcc,.slice fa nf fc,.slice la nl lc,.slice oa no oc,.bool em] 59 (0,0))).cell? ⟨gb,0,none⟩=some (.slice na n ncap):=by
  have:=(HB1.out.cell (p:=⟨gb,0,none⟩) (lt_of_block HG.out.blk)).trans g0;rw[hw1,ho]at this;exact this
 have q2:=(KA.out w1 HRF.out).2.2.1;have q1:=(KA.out w1 HRF.out).2.1;have habl:ab<w1.heap.size:=lt_of_block HAB.out;show Calls Tryz.prog _ #[_,.agg #[.slice wa ws.length wcc,.slice fa fs.length fc,.slice la ls.length lc,.slice oa os.length oc,.bool em]] w _;rw[<- hnw,<- hno,<- hnf,<- hnl];clear hnw hno hnf hnl hmw hfz hlz hoz hfl hll hs1 hsL hsF hoS hoU g0 H;go_enter Tryz.func20,Tryz.ntmps20;go_upto_region 2 with fail;rw[<- ho,<- hw1,<- hab];clear ho hw1 hab g0x;go_cut [6] (fun s6 wx=>∃sb stb cb fb:Nat,s6=.pointer (some ⟨sb,0,none⟩)/\Hid (SrC w1.heap.size wx sb stb cb fb n sL (fun _=>0) (List.replicate n (.slice none 0 0,[])))/\Hid (Below w1.heap.size w1 wx))
 case first=>
  go_region_held3 (fun u=>u.cell? ⟨ab,2,none⟩=some (.slice la nl lc)) (exact(KA.out _ (by repeat (first|exact HRF.out|apply HDR.out|apply HAL.out))).2.2.1)
   (first|(go_at_call 39;refine(C2.out _ (by repeat (first|exact HRF.out|apply HDR.out|apply HAL.out))).mono ?_;rintro e w3 ⟨rfl,rfl⟩))
  all_goals (
   go_wp2_with fail;go_meet;first
    |exact⟨w1.heap.size+3,w1.heap.size+0,w1.heap.size+1,w1.heap.size+2,rfl,zA (srC_new HoS.out HoU.out (get_atG [_,_,_,_] w1 3 (by simp)) (get_atG [_,_,_,_] w1 0 (by simp)) (get_atG [_,_,_,_] w1 1 (by simp)) (get_atG [_,_,_,_] w1 2 (by simp)) (by omega) (by omega)),zA (by repeat (first|exact HRF.out|apply HDR.out|apply HAL.out))⟩
    |exact⟨w1.heap.size+3,w1.heap.size+0,w1.heap.size+2,w1.heap.size+1,rfl,zA (srC_new HoS.out HoU.out (get_atG [_,_,_,_] w1 3 (by simp)) (get_atG [_,_,_,_] w1 0 (by simp)) (get_atG [_,_,_,_] w1 2 (by simp)) (get_atG [_,_,_,_] w1 1 (by simp)) (by omega) (by omega)),zA (by repeat (first|exact HRF.out|apply HDR.out|apply HAL.out))⟩
    |exact⟨w1.heap.size+3,w1.heap.size+1,w1.heap.size+0,w1.heap.size+2,rfl,zA (srC_new HoS.out HoU.out (get_atG [_,_,_,_] w1 3 (by simp)) (get_atG [_,_,_,_] w1 1 (by simp)) (get_atG [_,_,_,_] w1 0 (by simp)) (get_atG [_,_,_,_] w1 2 (by simp)) (by omega) (by omega)),zA (by repeat (first|exact HRF.out|apply HDR.out|apply HAL.out))⟩
    |exact⟨w1.heap.size+3,w1.heap.size+1,w1.heap.size+2,w1.heap.size+0,rfl,zA (srC_new HoS.out HoU.out (get_atG [_,_,_,_] w1 3 (by simp)) (get_atG [_,_,_,_] w1 1 (by simp)) (get_atG [_,_,_,_] w1 2 (by simp)) (get_atG [_,_,_,_] w1 0 (by simp)) (by omega) (by omega)),zA (by repeat (first|exact HRF.out|apply HDR.out|apply HAL.out))⟩
    |exact⟨w1.heap.size+3,w1.heap.size+2,w1.heap.size+0,w1.heap.size+1,rfl,zA (srC_new HoS.out HoU.out (get_atG [_,_,_,_] w1 3 (by simp)) (get_atG [_,_,_,_] w1 2 (by simp)) (get_atG [_,_,_,_] w1 0 (by simp)) (get_atG [_,_,_,_] w1 1 (by simp)) (by omega) (by omega)),zA (by repeat (first|exact HRF.out|apply HDR.out|apply HAL.out))⟩
    |exact⟨w1.heap.size+3,w1.heap.size+2,w1.heap.size+1,w1.heap.size+0,rfl,zA (srC_new HoS.out HoU.out (get_atG [_,_,_,_] w1 3 (by simp)) (get_atG [_,_,_,_] w1 2 (by simp)) (get_atG [_,_,_,_] w1 1 (by simp)) (get_atG [_,_,_,_] w1 0 (by simp)) (by omega) (by omega)),zA (by repeat (first|exact HRF.out|apply HDR.out|apply HAL.out))⟩)
 case rest=>
 obtain⟨sb,stb,cb,fb,rfl,HC0,HBC⟩:=hcut;obtain⟨W2,hW2⟩:∃W,W=wc:=⟨_,rfl⟩
 subst hW2;clear hmk1 hmk2 q1 q2;have hsbl:=HC0.out.lo.1;have hsbn:¬ab=sb:=by omega
 have hsbn2:¬sb=ab:=by omega
 have q1:=(KA.out W2 HBC.out).2.1;obtain⟨b24,f24⟩:=HC0.out.behAt (j:=24) (by omega);have C1W:=zA (C1.out W2.drew HBC.out.drew);have K3:Hid (∀v:Value,(W2.setCell ⟨sb,24,none⟩ v).cell? ⟨ab,1,none⟩=some (.slice fa nf fc)):=zA (fun v=>by
  rw[World.cell?_setCell_far _ _ _ _ (show sb≠ab from hsbn2)];exact q1)
 go_wp2_with fail;go_region_held3 (fun u=>u.cell? ⟨ab,1,none⟩=some (.slice fa nf fc)) (first|exact q1|exact K3.out _)
  (first|(go_at_call 39;refine C1W.out.mono ?_;rintro e w3 ⟨rfl,rfl⟩))
 obtain⟨W3,hW3⟩:∃W,W=(W2.setCell ⟨sb,24,none⟩ (.int .u32 (sF:Int))).drew:=⟨_,rfl⟩
 have HC3:Hid (SrC w1.heap.size W3 sb stb cb fb n sL (updB (fun _=>0) 24 sF) (List.replicate n (.slice none 0 0,[]))):=zA (by rw[hW3];exact(HC0.out.setBeh (j:=24) (by omega) sF).below (zF _ _).drew);have HB3:Hid (Below w1.heap.size w1 W3):=zA (by rw[hW3];exact(HBC.out.setCell (p:=⟨sb,24,none⟩) hsbl _).drew);rw[<- hW3];clear hW3 C1W K3 b24 f24 q1;obtain⟨L1,hL1⟩:∃L,L=if em=true then sL ||| 16777216 else sL:=⟨_,rfl⟩
 have HL1:=zA hL1;clear hL1;have q4:=(KA.out W3 HB3.out).2.2.2.2;obtain⟨c25,f25,_⟩:=HC3.out.cells;go_upto_if 37 with fail;go_cut [] (fun wx=>Hid (SrC w1.heap.size wx sb stb cb fb n L1 (updB (fun _=>0) 24 sF) (List.replicate n (.slice none 0 0,[])))/\Hid (Below w1.heap.size w1 wx))
 case first=>
  cases em with
  |true=>
   have HX:Hid (L1=sL ||| 16777216):=zA HL1.out;have b1:bits .or .u32 (sL:Int) 16777216=((sL ||| 16777216:Nat):Int):=u32_or_nat sL 16777216 (by omega) (by omega);obtain⟨x,hx⟩:∃x,x=sL ||| 16777216:=⟨_,rfl⟩
   rw[<- hx]at b1;have HXX:=zA hx;have C24W:Hid (Calls Tryz.prog 40 #[.int .i64 24] W3.drew fun e w'=>e=.returned (.int .u32 16777216)/\w'=W3.drew):=zA (C24.out W3.drew);clear hx;go_wp2_with fail;go_region_with (go_at_call 40;refine C24W.out.mono ?_;rintro e w3 ⟨rfl,rfl⟩);all_goals (
    go_wp2_with fail;go_meet;exact⟨zA (by rw[HX.out,<- HXX.out];exact(HC3.out.setLast x).below (zF _ _).drew),zA (HB3.out.setCell (p:=⟨sb,25,none⟩) hsbl _).drew⟩)
  |false=>
   have HX:Hid (L1=sL):=zA HL1.out;go_wp2_with fail;go_meet;exact⟨zA (by rw[HX.out];exact HC3.out),HB3⟩
 case rest=>
 obtain⟨HC5,HB5⟩:=hcut;obtain⟨W5,hW5⟩:∃W,W=wc:=⟨_,rfl⟩
 subst hW5;clear q4 c25 f25 HC3 HB3;have hmm:=@run_makeMap Tryz.prog;obtain⟨hb,hhb⟩:∃b,b=W5.heap.size:=⟨_,rfl⟩
 have HHB:=zA hhb;obtain⟨W6,hW6⟩:∃W,W=W5.alloc (.map #[] 0):=⟨_,rfl⟩
 have hb6:Below W5.heap.size W5 W6:=by rw[hW6];exact(zF _ _).alloc (zD _) _
 have HC6:=zA (HC5.out.below hb6);have HB6:=zA (HB5.out.trans (hb6.mono HB5.out.size));have HM6:Hid (W6.ownsMap Tryz.prog 9 (plainElem Tryz.prog 94) hb 0 (.map [])):=zA (by
  have h0:(W5.alloc (.map #[] 0)).ownsMap Tryz.prog 9 (plainElem Tryz.prog 94) W5.heap.size 0 (.map ([]:List (Lit×DataW Unit))):=World.ownsMap_made W5 Tryz.prog _ _;rw[hW6,hhb];exact h0)
 have q0:=(KA.out W6 HB6.out).1;rw[hW6]at q0;have hhbl:w1.heap.size<=hb:=by rw[hhb];exact HB5.out.size
 go_wp2_with fail;rw[<- hW6,<- hhb];clear hW6 hhb hb6 q0 hmm;go_loopw [50] (fun c wr=>∃(i:Nat) (f:Nat->Nat) (D:DataW Unit) (cc:Nat),i<=nw/\c=.int .i64 i/\cc<=i/\Hid (SrC w1.heap.size wr sb stb cb fb n L1 f (List.replicate n (.slice none 0 0,[])))/\Hid (∀p,p<25->f p=if p=24 then sF else if p<i then setN ((os.map (·.2)).getD p [])else 0)/\Hid (wr.ownsMap Tryz.prog 9 (plainElem Tryz.prog 94) hb cc D)/\Hid (∀s,D.atKey (.string s) (.lit (.int .u32 0))=.lit (.int .u32 (wsetN ws s i:Int)))/\Hid (Below w1.heap.size w1 wr)) (fun c _=>nw-(intOf c).toNat)
 case atStart=>exact⟨0,_,_,0,zS _,rfl,zS _,HC6,zA (fun p hp=>by simp[updB]),HM6,zA (fun s=>rfl),HB6⟩
 case round=>
  obtain⟨i,f,DM,cc,hi,rfl,hcc,HC,HF,HMP,HT,HB⟩:=hrel;obtain⟨wx,hwx⟩:∃wx,wx=wr:=⟨_,rfl⟩
  subst hwx;by_cases hlt:i<nw
  . have hltI:(i:Int)<(nw:Int):=by omega
    obtain⟨s,hs⟩:∃s,ws[i]?=some s:=⟨_,zB (by rw[<- HNW.out];exact hlt)⟩
    obtain⟨y,hy⟩:∃y,os[i]?=some y:=⟨_,zB (by rw[<- HNO.out,HNOE.out];exact hlt)⟩
    have hbw:=HWW.out wx HB.out;obtain⟨wg,woff,hwae,_,hwgl,hwcell⟩:=HWS.out.get hs;obtain⟨og,ooff,hoae,_,hogl,hocell⟩:=HOS.out.get hy;subst hwae hoae;have p0:=hwcell 0 _ rfl;have p1:=hocell 0 _ rfl;rw[yK,yF]at p0 p1;have p0x:wx.cell? ⟨wg,woff+i,none⟩=some (.string ⟨s.toArray⟩):=(hbw.cell (p:=⟨wg,woff+i,none⟩) hwgl).trans p0;have p1x:wx.cell? ⟨og,ooff+i,none⟩=some y.1:=(hbw.cell (p:=⟨og,ooff+i,none⟩) hogl).trans p1;have q3:=(KA.out wx HB.out).2.2.2.1;have hsw:s.length<=maxLen:=by
     have h1:=may_words HM.out (s:=s) (by rw[HAU.out];exact zC hs);have:=isW_len h1;unfold maxLen;omega
    obtain⟨yv,ys⟩:=y;dsimp only at p1x;have hym:=zC hy;have hyz:=HOZ.out _ hym;dsimp only at hyz;have HYS:Hid ((os.map (·.2)).getD i []=ys):=zA (by rw[List.getD,zI,hy];rfl);have HSS:=zA hs;obtain⟨ya,yc,hyv⟩:=(HOK.out _ hym).1.slice;dsimp only at hyv;have CY:Hid (Calls Tryz.prog 39 #[.slice ya ys.length yc] wx.drew fun e w'=>e=.returned (.int .u32 (setN ys:Int))/\w'=wx.drew):=zA (by
     have h1:=(HOK.out _ hym).1.below (HWW.out wx.drew HB.out.drew);dsimp only at h1;rw[hyv]at h1;exact placesOf_any h1 hyz.2 hyz.1)
    rw[hyv]at p1x;obtain⟨ny,hny⟩:∃k,k=ys.length:=⟨_,rfl⟩
    rw[<- hny]at CY p1x;obtain⟨xb,hxb⟩:∃x,x=setN ys:=⟨_,rfl⟩
    rw[<- hxb]at CY;have HXB:=zA hxb;obtain⟨bi,fi⟩:=HC.out.behAt (j:=i) (by omega);obtain⟨WA,hWA⟩:∃W,W=(wx.setCell ⟨sb,i,none⟩ (.int .u32 (xb:Int))).drew:=⟨_,rfl⟩
    have HCA:Hid (SrC w1.heap.size WA sb stb cb fb n L1 (updB f i xb) (List.replicate n (.slice none 0 0,[]))):=zA (by rw[hWA];exact(HC.out.setBeh (j:=i) (by omega) xb).below (zF _ _).drew);have HBA:Hid (Below w1.heap.size w1 WA):=zA (by rw[hWA];exact(HB.out.setCell (p:=⟨sb,i,none⟩) hsbl _).drew);have HMA:Hid (WA.ownsMap Tryz.prog 9 (plainElem Tryz.prog 94) hb cc DM):=zA (by
     rw[hWA];exact map_keyG HMP.out (fun o ho=>(zM wx ⟨sb,i,none⟩ _ hb (blk_ne_mapG HC.out.blk HMP.out)).trans ho))
    have K10:Hid (∀v:Value,(wx.setCell ⟨sb,i,none⟩ v).cell? ⟨ab,3,none⟩=some (.slice (some ⟨og,ooff,none⟩) no oc)/\(wx.setCell ⟨sb,i,none⟩ v).cell? ⟨og,ooff+i,none⟩=some (.slice ya ny yc)):=zA (fun v=>by
     rw[World.cell?_setCell_far _ _ _ _ (show sb≠ab from hsbn2),World.cell?_setCell_far _ _ _ _ (show sb≠og by have:=HS1.out;omega)];exact⟨q3,p1x⟩)
    have hnoI:(i:Int)<(no:Int):=by have:=HNOE.out;omega
    have hi25:(i:Int)<25:=by omega
    -- the map's equations in the world behind
    obtain⟨X,hX⟩:∃X,X=wsetN ws s i:=⟨_,rfl⟩
    have hXl:X<16777216:=by rw[hX];exact wset_lt _ _ _ (by omega)
    have hpw:2^i<16777216:=pow_lt24 (by omega);have CO:Hid (Calls Tryz.prog 40 #[.int .i64 (i:Int)] WA.drew fun e w'=>e=.returned (.int .u32 ((2^i:Nat):Int))/\w'=WA.drew):=zA (onlyM_any i WA.drew (by omega));obtain⟨pw,hpwe⟩:∃p,p=2^i:=⟨_,rfl⟩
    rw[<- hpwe]at CO hpw;have hlk:(Instr.lookup 102 (.map (some hb)) (.string ⟨s.toArray⟩) false).run Tryz.prog WA.drew=.ok (.int .u32 (X:Int)) WA.drew:=by
     obtain⟨z,hr,hat,_⟩:=HMA.out.drew.lookup_int lawSG Tryz.underlying102 Tryz.underlying94 (show (zeroValue 94).run Tryz.prog WA.drew=.ok (.int .u32 0) WA.drew by kernel_rfl) (keySG s hsw);rw[HT.out s,<- hX]at hat;injection hat with hat;injection hat with _ hat;rw[hat];exact hr
    have b1:bits .or .u32 (X:Int) (pw:Int)=((X ||| pw:Nat):Int):=u32_or_nat X pw (by omega) (by omega);obtain⟨Y,hY⟩:∃Y,Y=X ||| pw:=⟨_,rfl⟩
    have hYl:Y<16777216:=by rw[hY];exact or_lt24 hXl hpw
    rw[<- hY]at b1;obtain⟨WB,hup,hmB,hgB⟩:=HMA.out.drew.update (t:=102) lawSG Tryz.underlying102 (show cc<maxLen by unfold maxLen;omega) (val:=.int .u32 (Y:Int)) (keySG s hsw) (plainElem_int Tryz.underlying94 (by simp[Lit.wf,IntKind.min,IntKind.max,IntKind.bits,IntKind.signed];omega));have HMB:=zA hmB;have HCB:Hid (SrC w1.heap.size WB sb stb cb fb n L1 (updB f i xb) (List.replicate n (.slice none 0 0,[]))):=zA (by
     have hC:=HCA.out;exact { hC with
      blk:=blk_grownG (w:=WA.drew) hC.blk hgB (fun e=>blk_ne_mapG hC.blk HMA.out (Option.some.inj e))
      came:=blk_grownG (w:=WA.drew) hC.came hgB (fun e=>blk_ne_mapG hC.came HMA.out (Option.some.inj e))
      fresh:=blk_grownG (w:=WA.drew) hC.fresh hgB (fun e=>blk_ne_mapG hC.fresh HMA.out (Option.some.inj e))
      st:=blk_grownG (w:=WA.drew) hC.st hgB (fun e=>blk_ne_mapG hC.st HMA.out (Option.some.inj e))
      rows:=fun r hr=>owns_grownG (w:=WA.drew) (hC.rows r hr) hgB (fun g e=>by rw[<- e];exact own_ne_mapG (hC.rows r hr) HMA.out) })
    have HBB:Hid (Below w1.heap.size w1 WB):=zA (HBA.out.drew.grown hgB HBA.out.size (fun k e=>by
     cases e
     exact hhbl))
    have HTB:Hid (∀t,(DM.put (.string s) (.lit (.int .u32 (Y:Int)))).atKey (.string t) (.lit (.int .u32 0))=.lit (.int .u32 (wsetN ws t (i+1):Int))):=zA (fun t=>by
     by_cases e:t=s
     . subst e;rw[Maps.atKey_put_same HMP.out.isMap (show WideAt.IsKeyLit (.string t)from trivial),wsetN,if_pos HSS.out,<- hX,<- hpwe,<- hY]
     . rw[Maps.atKey_put_other (by simpa using e),HT.out t,wsetN,if_neg (fun h2=>e (by rw[HSS.out]at h2;injection h2 with h2;exact h2.symm))])
    have HFB:Hid (∀p,p<25->updB f i xb p=if p=24 then sF else if p<i+1 then setN ((os.map (·.2)).getD p [])else 0):=zA (fun p hp=>by
     unfold updB;by_cases e:p=i
     . subst e;rw[if_pos rfl,if_neg (by omega),if_pos (by omega),HYS.out,HXB.out]
     . rw[if_neg e,HF.out p hp];by_cases e2:p=24
       . rw[if_pos e2,if_pos e2]
       . rw[if_neg e2,if_neg e2];by_cases e3:p<i
         . rw[if_pos e3,if_pos (by omega)]
         . rw[if_neg e3,if_neg (by omega)])
    clear hs hy hwcell hocell p0 p1 hym hyz hyv hny hxb hmB hgB hX hpwe hY;go_wp2_with fail;go_region_held3 (fun u=>u.cell? ⟨ab,3,none⟩=some (.slice (some ⟨og,ooff,none⟩) no oc)/\u.cell? ⟨og,ooff+i,none⟩=some (.slice ya ny yc)) (first|exact⟨q3,p1x⟩|exact K10.out _)
     (first|(go_at_call 39;refine CY.out.mono ?_;rintro e w3 ⟨rfl,rfl⟩))
    rw[<- hWA];clear hWA K10 CY p0x p1x q3 bi fi;go_wp2_with fail;go_region_with (go_at_call 40;refine CO.out.mono ?_;rintro e w3 ⟨rfl,rfl⟩);all_goals (
     go_wp2;go_roundw
     case rel=>exact⟨i+1,_,_,cc+1,by omega,by go_num,by omega,HCB,HFB,HMB,HTB,HBB⟩
     case measure=>simp[intOf];omega)
  . have hltI:¬(i:Int)<(nw:Int):=by omega
    have hin:i=nw:=by omega
    have HFA:Hid (∀p,p<25->f p=behA a p):=zA (fun p hp=>by
     rw[HF.out p hp,behA,HAU.out];dsimp only;by_cases e:p=24
     . rw[if_pos e,if_pos e,HSF.out]
     . rw[if_neg e,if_neg e];by_cases e2:p<i
       . rw[if_pos e2]
       . rw[if_neg e2,List.getD,yB (by rw[zH,<- HNO.out,HNOE.out];omega)];rfl)
    have HTA:Hid (∀s,DM.atKey (.string s) (.lit (.int .u32 0))=.lit (.int .u32 (atW a s:Int))):=zA (fun s=>by
     rw[HT.out s,atW,HAU.out,hin,HNW.out])
    clear hin;obtain⟨ne,hne⟩:∃k,k=E.length:=⟨_,rfl⟩
    rw[<- hne]at hEl;have HNE:=zA hne;obtain⟨ea,ecap,hev⟩:=HG.out.edges.slice;rw[<- hne]at hev;have HED:Hid (SlS csE 3 S w (.slice ea ne ecap) E):=zA (by rw[<- hev];exact HG.out.edges);have gg2:wx.cell? ⟨gb,2,none⟩=some (.slice ea ne ecap):=by
     have h1:=(cells3G HG.out.blk).1.2.2;rw[hev]at h1;exact((HWW.out wx HB.out).cell (p:=⟨gb,2,none⟩) (lt_of_block HG.out.blk)).trans h1
    obtain⟨WC,hWC⟩:∃W,W=wx:=⟨_,rfl⟩
    subst hWC;clear hne hev HF HT;go_wp2_with fail;go_loopw [78] (fun c wr=>∃(i:Nat) (rs:List (Value×List (Nat×Nat))),i<=ne/\c=.int .i64 i/\Hid (SrC w1.heap.size wr sb stb cb fb n L1 f rs)/\Hid (rs.map (·.2)=(List.range n).map (stepsOf a (E.take i)))/\Hid (wr.ownsMap Tryz.prog 9 (plainElem Tryz.prog 94) hb cc DM)/\Hid (Below w1.heap.size w1 wr)) (fun c _=>ne-(intOf c).toNat)
    case atStart=>exact⟨0,_,zS _,rfl,HC,zA (by
     rw[List.map_replicate];apply List.ext_getElem?;intro j;rw[List.getElem?_replicate,zI];by_cases hj:j<n
     . rw[if_pos hj,yO hj];rfl
     . rw[if_neg hj,yB (by simp;omega)];rfl),HMP,HB⟩
    case round=>
     obtain⟨k,rs,hk,rfl,HCk,HRk,HMk,HBk⟩:=hrel;obtain⟨wy,hwy⟩:∃wy,wy=wr:=⟨_,rfl⟩
     subst hwy;clear gg2;by_cases hltk:k<ne
     . have hltkI:(k:Int)<(ne:Int):=by omega
       obtain⟨⟨e0,e1,e2⟩,hx⟩:∃x,E[k]?=some x:=⟨_,zB (by rw[<- HNE.out];exact hltk)⟩
       obtain⟨g,off,hea,_,hgl,hcell⟩:=HED.out.get hx;subst hea;have hbw:=HWW.out wy HBk.out;have c0:=(hbw.cell (p:=⟨g,off+k*3,none⟩) hgl).trans (hcell 0 _ rfl);have c1:=(hbw.cell (p:=⟨g,off+k*3+1,none⟩) hgl).trans (hcell 1 _ rfl);have c2:=(hbw.cell (p:=⟨g,off+k*3+2,none⟩) hgl).trans (hcell 2 _ rfl);dsimp only at c0 c1 c2;obtain⟨hE0,hE2,hE1⟩:=HE.out _ (zC hx);dsimp only at hE0 hE2 hE1;rw[<- HN.out]at hE0 hE2;have HST:=zA (fun v=>steps_take (a:=a) hx v);dsimp only at HST;obtain⟨X,hX⟩:∃X,X=atW a e1:=⟨_,rfl⟩
       have hXl:X<16777216:=by rw[hX];exact wset_lt _ _ _ (may_len HM.out).1
       rw[<- hX]at HST;obtain⟨oE,hoE⟩:∃o,o=Obj.cells #[.int .i64 (e0:Int),.string ⟨e1.toArray⟩,.int .i64 (e2:Int)] 93 (0,0):=⟨_,rfl⟩
       obtain⟨eb,heb⟩:∃b,b=wy.heap.size:=⟨_,rfl⟩
       obtain⟨wz,hwz⟩:∃W,W=wy.alloc oE:=⟨_,rfl⟩
       have hb1:Below wy.heap.size wy wz:=by rw[hwz];exact(zF _ _).alloc (zD _) _
       have hbl:wz.heap[eb]?=some oE:=by rw[hwz,heb];exact heap_alloc_new _ _
       have HCz:=zA (HCk.out.below hb1);have HBz:=zA (HBk.out.trans (hb1.mono HBk.out.size));have HMz:Hid (wz.ownsMap Tryz.prog 9 (plainElem Tryz.prog 94) hb cc DM):=zA (map_keyG HMk.out (fun o ho=>(hb1.block hb HMk.out.lt).trans ho));have HLK:Hid ((Instr.lookup 102 (.map (some hb)) (.string ⟨e1.toArray⟩) false).run Tryz.prog wz=.ok (.int .u32 (X:Int)) wz):=zA (by
        obtain⟨z,hr,hat,_⟩:=HMz.out.lookup_int lawSG Tryz.underlying102 Tryz.underlying94 (show (zeroValue 94).run Tryz.prog wz=.ok (.int .u32 0) wz by kernel_rfl) (keySG e1 (by unfold maxLen;omega));rw[HTA.out e1,<- hX]at hat;injection hat with hat;injection hat with _ hat;rw[hat];exact hr)
       have hlkz:=HLK.out;rw[hwz,hoE]at hlkz;by_cases hX0:X=0
       . have HRS:Hid (rs.map (·.2)=(List.range n).map (stepsOf a (E.take (k+1)))):=zA (by
          rw[HRk.out];exact yQ (fun v _=>by rw[HST.out v,if_neg (fun h=>h.2 hX0),List.append_nil]))
         have hXz:(X:Int)=0:=by omega
         rw[hXz]at hlkz;rw[hoE]at hwz;clear hx hcell hX hXz hbl;go_wp2;rw[<- hwz];go_roundw
         case rel=>exact⟨k+1,rs,by omega,by go_num,HCz,HRS,HMz,HBz⟩
         case measure=>simp[intOf];omega
       . have hXi:((X:Int)!=0)=true:=by simp;omega
         have hXi2:¬(X:Int)=0:=by omega
         obtain⟨r,hr⟩:∃r,rs[e0]?=some r:=⟨_,zB (by rw[HCk.out.len];exact hE0)⟩
         have hrow:=HCz.out.rows r (zC hr);obtain⟨rv,rl⟩:=r;dsimp only at hrow;have hrlen:rl.length<=10000:=by
          have h1:(rs.map (·.2))[e0]?=some rl:=by rw[zI,hr];rfl
          rw[HRk.out,zI,yO hE0]at h1;simp only[Option.map_some,Option.some.injEq]at h1;rw[<- h1];unfold stepsOf;have h2:=List.length_filterMap_le (fun e:Eg=>if e.1=e0/\atW a e.2.1≠0 then some (e.2.2,atW a e.2.1)else none) (E.take k);rw[yL]at h2;have:=HNE.out;omega
         obtain⟨ra,rc,hrv⟩:=own_slice hrow;obtain⟨nr,hnr⟩:∃k,k=rl.length:=⟨_,rfl⟩
         rw[<- hnr]at hrv hrlen;subst hrv;have HNR:=zA hnr;have hstc:=(HCz.out.st.cell (i:=e0) (v:=.slice ra nr rc) (by rw[zI,hr];rfl))
         have HRI:=zA hr;have HRW:Hid (wz.ownsRow w1.heap.size 105 2 (.slice ra nr rc) nr (rl.flatMap csSt)):=zA (by rw[hnr];rw[hnr]at hrow;exact hrow);have KS:Hid (∀u,Below wz.heap.size wz u->u.cell? ⟨sb,26,none⟩=some (.slice (some ⟨stb,0,none⟩) n n)/\u.cell? ⟨eb,0,none⟩=some (.int .i64 (e0:Int))/\u.cell? ⟨eb,2,none⟩=some (.int .i64 (e2:Int))):=zA (fun u hu=>by
          have h1:=(hu.block eb (lt_of_block hbl)).trans hbl;rw[hoE]at h1;obtain⟨⟨z0,z1,z2⟩,_⟩:=cells3G h1;exact⟨(HCz.out.below hu).cells.2.2,z0,z2⟩)
         have HA1:Hid (Below wz.heap.size wz wz.drew):=zA (zF _ _).drew;have HA2:Hid (Below wz.heap.size wz (wz.drew.alloc (.cells #[.int .i64 (e2:Int),.int .u32 (X:Int)] 105))):=zA ((zF _ _).drew.alloc (zD _) _);have HL2:Hid (wz.drew.cell? ⟨stb,e0,none⟩=some (.slice ra nr rc)):=zA hstc.1;have HL3:Hid ((wz.alloc (.cells #[.int .i64 (e2:Int),.int .u32 (X:Int)] 105)).cell? ⟨stb,e0,none⟩=some (.slice ra nr rc)):=zA ((HA2.out.cell (p:=⟨stb,e0,none⟩) (lt_of_block HCz.out.st)).trans hstc.1);have HOE2:Hid ((wz.drew.alloc (.cells #[.int .i64 (e2:Int),.int .u32 (X:Int)] 105)).ownsRow w1.heap.size 105 2 (.slice ra nr rc) nr (rl.flatMap csSt)):=zA (owns_below HRW.out HA2.out);have HNWS:Hid (∀(j:Nat) u,[Value.int .i64 (e2:Int),.int .u32 (X:Int)][j]?=some u->(wz.drew.alloc (.cells #[.int .i64 (e2:Int),.int .u32 (X:Int)] 105)).cell? ((⟨wz.heap.size,0,none⟩:Addr).add j)=some u):=zA (World.news_of_block (cs:=#[.int .i64 (e2:Int),.int .u32 (X:Int)]) (t:=105) (fr:=(0,0)) (heap_alloc_new wz.drew _));have hszz:w1.heap.size<=wz.heap.size:=HBz.out.size;have HKG:Hid (∀gg cap2 w9,w9.ownsRow w1.heap.size 105 2 (.slice (some ⟨gg,0,none⟩) (nr+1) cap2) (nr+1) (rl.flatMap csSt++[.int .i64 (e2:Int),.int .u32 (X:Int)])->(wz.drew.alloc (.cells #[.int .i64 (e2:Int),.int .u32 (X:Int)] 105)).grownBy w9 (Value.slice ra nr rc).ownBlock->((Value.slice ra nr rc).ownBlock=some gg\/gg=wz.heap.size+1)->
          (w9.cell? ⟨sb,26,none⟩=some (.slice (some ⟨stb,0,none⟩) n n)/\w9.cell? ⟨eb,0,none⟩=some (.int .i64 (e0:Int))/\w9.cell? ⟨eb,2,none⟩=some (.int .i64 (e2:Int)))/\((w9.setCell ⟨stb,e0,none⟩ (.slice (some ⟨gg,0,none⟩) (nr+1) cap2)).cell? ⟨sb,26,none⟩=some (.slice (some ⟨stb,0,none⟩) n n)/\(w9.setCell ⟨stb,e0,none⟩ (.slice (some ⟨gg,0,none⟩) (nr+1) cap2)).cell? ⟨eb,0,none⟩=some (.int .i64 (e0:Int))/\(w9.setCell ⟨stb,e0,none⟩ (.slice (some ⟨gg,0,none⟩) (nr+1) cap2)).cell? ⟨eb,2,none⟩=some (.int .i64 (e2:Int)))/\(w9.cell? ⟨stb,e0,none⟩=some (.slice ra nr rc)/\w9.frozen? ⟨stb,e0,none⟩=false)/\Hid (SrC w1.heap.size (w9.setCell ⟨stb,e0,none⟩ (.slice (some ⟨gg,0,none⟩) (nr+1) cap2)) sb stb cb fb n L1 f (rs.set e0 (.slice (some ⟨gg,0,none⟩) (nr+1) cap2,rl++[(e2,X)])))/\Hid ((w9.setCell ⟨stb,e0,none⟩ (.slice (some ⟨gg,0,none⟩) (nr+1) cap2)).ownsMap Tryz.prog 9 (plainElem Tryz.prog 94) hb cc DM)/\Hid (Below w1.heap.size w1 (w9.setCell ⟨stb,e0,none⟩ (.slice (some ⟨gg,0,none⟩) (nr+1) cap2)))):=zA (fun gg cap2 w9 h1 h2 h3=>by
          have hC2:=HCz.out.below HA2.out;have hrw2:=HOE2.out;have hkeep:∀b,b<(wz.drew.alloc (.cells #[.int .i64 (e2:Int),.int .u32 (X:Int)] 105)).heap.size->(Value.slice ra nr rc).ownBlock≠some b->w9.heap[b]?=(wz.drew.alloc (.cells #[.int .i64 (e2:Int),.int .u32 (X:Int)] 105)).heap[b]?:=fun b hb hne=>h2.block b hb (fun e=>hne e.symm)
          have hsb9:=blk_grownG hC2.blk h2 (own_neG hrw2 hC2.blk (by decide));have hst9:VRow w9 stb 103 _:=blk_grownG hC2.st h2 (own_neG hrw2 hC2.st (by decide));have hebz:(wz.drew.alloc (.cells #[.int .i64 (e2:Int),.int .u32 (X:Int)] 105)).heap[eb]?=some oE:=(HA2.out.block eb (lt_of_block hbl)).trans hbl;rw[hoE]at hebz;have heb9:=blk_grownG hebz h2 (own_neG hrw2 hebz (by decide));have hm2:(wz.drew.alloc (.cells #[.int .i64 (e2:Int),.int .u32 (X:Int)] 105)).ownsMap Tryz.prog 9 (plainElem Tryz.prog 94) hb cc DM:=map_keyG HMz.out (fun o ho=>(HA2.out.block hb HMz.out.lt).trans ho);have hm9:=map_keyG (w':=w9) hm2 (fun o ho=>blk_grownG ho h2 (own_ne_mapG hrw2 hm2));have hset:∀b,b≠stb->(w9.setCell ⟨stb,e0,none⟩ (.slice (some ⟨gg,0,none⟩) (nr+1) cap2)).heap[b]?=w9.heap[b]?:=fun b hb=>zM _ _ _ _ hb
          have hebf:=(hset eb (fun e=>by rw[e]at heb9;exact absurd (show _=_ from heb9.symm.trans hst9) (by simp))).trans heb9;obtain⟨⟨z0,z1,z2⟩,_⟩:=cells3G heb9;obtain⟨⟨y0,y1,y2⟩,_⟩:=cells3G hebf;have hstc9:=hst9.cell (i:=e0) (v:=.slice ra nr rc) (by rw[zI,HRI.out];rfl);have hr26:w9.cell? ⟨sb,26,none⟩=some (.slice (some ⟨stb,0,none⟩) n n):=by simp[World.cell?,hsb9,srCells]
          have hsbf:=(hset sb (blk_neG hsb9 hst9 (by decide))).trans hsb9;have hr26f:(w9.setCell ⟨stb,e0,none⟩ (.slice (some ⟨gg,0,none⟩) (nr+1) cap2)).cell? ⟨sb,26,none⟩=some (.slice (some ⟨stb,0,none⟩) n n):=by simp only[World.cell?,hsbf];simp[srCells]
          refine⟨⟨hr26,z0,z2⟩,⟨hr26f,y0,y2⟩,hstc9,zA ?_,zA (map_keyG hm9 (fun o ho=>(hset hb (blk_ne_mapG hst9 hm9)).trans ho)),zA ?_⟩
          . refine hC2.setRow (r:=(.slice ra nr rc,rl)) HRI.out hkeep (by
             rw[zG,<- HNR.out,zY];exact h1) (fun g hg=>?_)
            have e1:gg=g:=by simpa[Value.ownBlock]using hg
            subst e1;rcases h3 with h3|h3
            . exact .inl h3
            . right;simp;omega
          . refine Below.setCell (p:=⟨stb,e0,none⟩) ?_ HCz.out.lo.2.1 _;exact(HBz.out.trans (HA2.out.mono HBz.out.size)).grown h2 (by simp;omega) (fun k e=>(HRW.out.lt k e).1))
         have HRS:Hid (∀v:Value,(rs.set e0 (v,rl++[(e2,X)])).map (·.2)=(List.range n).map (stepsOf a (E.take (k+1)))):=zA (fun v=>by
          rw[List.map_set,HRk.out];apply List.ext_getElem?;intro j;rw[List.getElem?_set,zI,zI];by_cases hj:j<n
          . rw[yO hj];by_cases ej:e0=j
            . subst ej;rw[if_pos rfl,if_pos (by simp;omega)];have h1:(rs.map (·.2))[e0]?=some rl:=by rw[zI,HRI.out];rfl
              rw[HRk.out,zI,yO hj]at h1;simp only[Option.map_some,Option.some.injEq]at h1;simp only[Option.map_some];rw[HST.out e0,if_pos ⟨rfl,hX0⟩,h1]
            . rw[if_neg ej];simp only[Option.map_some];rw[HST.out j,if_neg (fun h=>ej h.1),List.append_nil]
          . rw[yB (l:=List.range n) (by simp;omega)];by_cases ej:e0=j
            . omega
            . rw[if_neg ej];rfl)
         have hE0I:(e0:Int)<(n:Int):=by omega
         rw[hoE]at hwz;clear hx hcell hX hbl hb1 hr hrow hnr hstc hoE;go_wp2_with fail;rw[<- hwz,<- heb];clear hwz heb hlkz c0 c1 c2;have hl2:wz.drew.cell? ⟨stb,e0,none⟩=some (.slice ra nr rc):=HL2.out;have hl3:=HL3.out;refine wp_region_held_drew (S:=fun u=>u.cell? ⟨sb,26,none⟩=some (.slice (some ⟨stb,0,none⟩) n n)/\u.cell? ⟨eb,0,none⟩=some (.int .i64 (e0:Int))/\u.cell? ⟨eb,2,none⟩=some (.int .i64 (e2:Int))) (by kernel_rfl) ?_ (fun hHeld=>?_)
         . exact KS.out _ HA1.out
         refine tkH (i:=0) (oi:=⟨some 88,.move (.tmp 6),64, "search.go:66",#[],none⟩) (v:=?_) rfl ?_ hHeld ?_;rotate_left 1
         . rintro W ⟨l1,l2,l3⟩;go_simp;try with_reducible rfl
         simp only[Act.put,zIB,zSZ,zSS];refine tkH (i:=1) (oi:=⟨some 89,.nilCheck (.tmp 88),0, "search.go:66",#[⟨0,.data⟩],none⟩) (v:=?_) rfl ?_ hHeld ?_;rotate_left 1
         . rintro W ⟨l1,l2,l3⟩;go_simp;try with_reducible rfl
         simp only[Act.put,zIB,zSZ,zSS];refine tkH (i:=2) (oi:=⟨some 90,.fieldAddr 100 (.tmp 89) 2,0, "search.go:66",#[⟨1,.data⟩],none⟩) (v:=?_) rfl ?_ hHeld ?_;rotate_left 1
         . rintro W ⟨l1,l2,l3⟩;go_simp;try with_reducible rfl
         simp only[Act.put,zIB,zSZ,zSS];refine tkH (i:=3) (oi:=⟨some 91,.load 96 (.tmp 90),96, "search.go:66",#[⟨2,.data⟩],none⟩) (v:=?_) rfl ?_ hHeld ?_;rotate_left 1
         . rintro W ⟨l1,l2,l3⟩;go_simp;try with_reducible rfl
         simp only[Act.put,zIB,zSZ,zSS];refine tkH (i:=4) (oi:=⟨some 92,.fieldAddr 93 (.tmp 11) 0,0, "search.go:66",#[],none⟩) (v:=?_) rfl ?_ hHeld ?_;rotate_left 1
         . rintro W ⟨l1,l2,l3⟩;go_simp;try with_reducible rfl
         simp only[Act.put,zIB,zSZ,zSS];refine tkH (i:=5) (oi:=⟨some 93,.load 3 (.tmp 92),3, "search.go:66",#[⟨4,.data⟩],none⟩) (v:=?_) rfl ?_ hHeld ?_;rotate_left 1
         . rintro W ⟨l1,l2,l3⟩;go_simp;try with_reducible rfl
         simp only[Act.put,zIB,zSZ,zSS];refine tkH (i:=6) (oi:=⟨some 94,.move (.tmp 6),64, "search.go:66",#[],none⟩) (v:=?_) rfl ?_ hHeld ?_;rotate_left 1
         . rintro W ⟨l1,l2,l3⟩;go_simp;try with_reducible rfl
         simp only[Act.put,zIB,zSZ,zSS];refine tkH (i:=7) (oi:=⟨some 95,.nilCheck (.tmp 94),0, "search.go:66",#[⟨6,.data⟩],none⟩) (v:=?_) rfl ?_ hHeld ?_;rotate_left 1
         . rintro W ⟨l1,l2,l3⟩;go_simp;try with_reducible rfl
         simp only[Act.put,zIB,zSZ,zSS];refine tkH (i:=8) (oi:=⟨some 96,.fieldAddr 100 (.tmp 95) 2,0, "search.go:66",#[⟨7,.data⟩],none⟩) (v:=?_) rfl ?_ hHeld ?_;rotate_left 1
         . rintro W ⟨l1,l2,l3⟩;go_simp;try with_reducible rfl
         simp only[Act.put,zIB,zSZ,zSS];refine tkH (i:=9) (oi:=⟨some 97,.load 96 (.tmp 96),96, "search.go:66",#[⟨8,.data⟩],none⟩) (v:=?_) rfl ?_ hHeld ?_;rotate_left 1
         . rintro W ⟨l1,l2,l3⟩;go_simp;try with_reducible rfl
         simp only[Act.put,zIB,zSZ,zSS];refine tkH (i:=10) (oi:=⟨some 98,.fieldAddr 93 (.tmp 11) 0,0, "search.go:66",#[],none⟩) (v:=?_) rfl ?_ hHeld ?_;rotate_left 1
         . rintro W ⟨l1,l2,l3⟩;go_simp;try with_reducible rfl
         simp only[Act.put,zIB,zSZ,zSS];refine tkH (i:=11) (oi:=⟨some 99,.load 3 (.tmp 98),3, "search.go:66",#[⟨10,.data⟩],none⟩) (v:=?_) rfl ?_ hHeld ?_;rotate_left 1
         . rintro W ⟨l1,l2,l3⟩;go_simp;try with_reducible rfl
         simp only[Act.put,zIB,zSZ,zSS];refine tkH (i:=12) (oi:=⟨some 100,.indexAddr 96 (.tmp 97) (.tmp 99),0, "search.go:66",#[⟨9,.data⟩,⟨11,.data⟩],none⟩) (v:=?_) rfl ?_ hHeld ?_;rotate_left 1
         . rintro W ⟨l1,l2,l3⟩;go_simp;try with_reducible rfl
         simp only[Act.put,zIB,zSZ,zSS];refine tkH (i:=14) (oi:=⟨some 102,.fieldAddr 93 (.tmp 11) 2,0, "search.go:66",#[],none⟩) (v:=?_) rfl ?_ hHeld ?_;rotate_left 1
         . rintro W ⟨l1,l2,l3⟩;go_simp;try with_reducible rfl
         simp only[Act.put,zIB,zSZ,zSS];refine tkH (i:=15) (oi:=⟨some 103,.load 3 (.tmp 102),3, "search.go:66",#[⟨14,.data⟩],none⟩) (v:=?_) rfl ?_ hHeld ?_;rotate_left 1
         . rintro W ⟨l1,l2,l3⟩;go_simp;try with_reducible rfl
         simp only[Act.put,zIB,zSZ,zSS];refine tkH (i:=16) (oi:=⟨some 104,.move (.tmp 12),94, "search.go:66",#[],none⟩) (v:=?_) rfl ?_ hHeld ?_;rotate_left 1
         . rintro W ⟨l1,l2,l3⟩;go_simp;try with_reducible rfl
         simp only[Act.put,zIB,zSZ,zSS];refine tkH (i:=17) (oi:=⟨some 105,.build 105 #[(0,.tmp 103),(1,.tmp 104)],105, "search.go:66",#[⟨15,.data⟩,⟨16,.data⟩],none⟩) (v:=?_) rfl ?_ hHeld ?_;rotate_left 1
         . rintro W ⟨l1,l2,l3⟩;go_simp;try with_reducible rfl
         simp only[Act.put,zIB,zSZ,zSS];refine wpAnyH_ready (rs:=[13,18]) (by kernel_rfl) (by simp) ?_;refine AllReadyH.cons (o:=⟨some 101,.load 103 (.tmp 100),103, "search.go:66",#[⟨12,.data⟩],none⟩) rfl (fun K hK=>?_) (AllReadyH.cons (o:=⟨some 106,.buildSlice 103 1 #[(0,.tmp 105)],103, "search.go:66",#[⟨17,.data⟩],none⟩) rfl (fun K hK=>?_) AllReadyH.nil)
         . go_simp;refine hK.out _ _ (KS.out _ HA1.out) (fun hHeld=>?_);clear hK K;refine wpAnyH_ready (rs:=[18]) (by kernel_rfl) (by simp) ?_;refine AllReadyH.cons (o:=⟨some 106,.buildSlice 103 1 #[(0,.tmp 105)],103, "search.go:66",#[⟨17,.data⟩],none⟩) rfl (fun K hK=>?_) AllReadyH.nil;go_simp;refine hK.out _ _ (KS.out _ HA2.out) (fun hHeld=>?_);clear hK K;refine wpAnyH_ready (rs:=[19]) (by kernel_rfl) (by simp) ?_;refine AllReadyH.cons (o:=⟨some 107,.call { callee:=.builtin .append,args:=#[.tmp 101,.tmp 106],argTypes:=#[103,103] },103, "search.go:66",#[⟨13,.data⟩,⟨18,.data⟩],none⟩) rfl (fun K hK=>?_) AllReadyH.nil;refine step_append_lies _ (by rfl) _ _ _ (by rfl) w1.heap.size 105 i3 _ 2 16 Tryz.underlying103 hi3 hz0 hz1 hz2 rfl (by decide) (.slice ra nr rc) _ _ (by rfl) HOE2.out ⟨wz.heap.size,0,none⟩ 1 1 [.int .i64 (e2:Int),.int .u32 (X:Int)] (by rfl) (by rfl) HNWS.out (by simp[Value.oneCell']) (by decide) (by unfold maxLen;omega) (by omega) (by simp;omega) (wz.heap.size+1) (by simp) ?_;intro gg cap2 w9 hown9 hgrow9 hat9 hlt9;have HW9:=zA (HKG.out gg cap2 w9 hown9 hgrow9 hat9);refine hK.out _ _ HW9.out.1 (fun hHeld=>?_);clear hK K hown9 hgrow9 hat9 hlt9;obtain⟨c2,c8⟩:=HW9.out.2.2.1;refine tkH (i:=20) (oi:=⟨some 108,.indexAddr 96 (.tmp 91) (.tmp 93),0, "search.go:66",#[⟨3,.data⟩,⟨5,.data⟩,⟨0,.phase⟩,⟨1,.phase⟩,⟨2,.phase⟩,⟨3,.phase⟩,⟨4,.phase⟩,⟨5,.phase⟩,⟨6,.phase⟩,⟨7,.phase⟩,⟨8,.phase⟩,⟨9,.phase⟩,⟨10,.phase⟩,⟨11,.phase⟩,⟨12,.phase⟩,⟨13,.phase⟩,⟨14,.phase⟩,⟨15,.phase⟩,⟨16,.phase⟩,⟨17,.phase⟩,⟨18,.phase⟩,⟨19,.phase⟩],none⟩) (v:=?_) rfl ?_ hHeld ?_;rotate_left 1
           . rintro W ⟨l1,l2,l3⟩;go_simp;try with_reducible rfl
           simp only[Act.put,zIB,zSZ,zSS];refine wpAnyH_ready (rs:=[21]) (by kernel_rfl) (by simp) ?_;refine AllReadyH.cons (o:=⟨none,.store 103 (.tmp 108) (.tmp 107),0, "search.go:66",#[⟨20,.data⟩,⟨19,.data⟩,⟨19,.chain⟩,⟨0,.phase⟩,⟨1,.phase⟩,⟨2,.phase⟩,⟨3,.phase⟩,⟨4,.phase⟩,⟨5,.phase⟩,⟨6,.phase⟩,⟨7,.phase⟩,⟨8,.phase⟩,⟨9,.phase⟩,⟨10,.phase⟩,⟨11,.phase⟩,⟨12,.phase⟩,⟨13,.phase⟩,⟨14,.phase⟩,⟨15,.phase⟩,⟨16,.phase⟩,⟨17,.phase⟩,⟨18,.phase⟩,⟨19,.phase⟩],none⟩) rfl (fun K hK=>?_) AllReadyH.nil;go_simp;refine hK.out _ _ HW9.out.2.1 (fun hHeld=>?_);clear hK K c2 c8;refine wpAnyH_done (by kernel_rfl) ?_ _;go_wp2;go_roundw
           case rel=>exact⟨k+1,_,by omega,by go_num,HW9.out.2.2.2.1,zA (HRS.out _),HW9.out.2.2.2.2.1,HW9.out.2.2.2.2.2⟩
           case measure=>simp[intOf];omega
         . go_simp;refine hK.out _ _ (KS.out _ HA2.out) (fun hHeld=>?_);clear hK K;refine wpAnyH_ready (rs:=[13]) (by kernel_rfl) (by simp) ?_;refine AllReadyH.cons (o:=⟨some 101,.load 103 (.tmp 100),103, "search.go:66",#[⟨12,.data⟩],none⟩) rfl (fun K hK=>?_) AllReadyH.nil;go_simp;refine hK.out _ _ (KS.out _ HA2.out) (fun hHeld=>?_);clear hK K;refine wpAnyH_ready (rs:=[19]) (by kernel_rfl) (by simp) ?_;refine AllReadyH.cons (o:=⟨some 107,.call { callee:=.builtin .append,args:=#[.tmp 101,.tmp 106],argTypes:=#[103,103] },103, "search.go:66",#[⟨13,.data⟩,⟨18,.data⟩],none⟩) rfl (fun K hK=>?_) AllReadyH.nil;refine step_append_lies _ (by rfl) _ _ _ (by rfl) w1.heap.size 105 i3 _ 2 16 Tryz.underlying103 hi3 hz0 hz1 hz2 rfl (by decide) (.slice ra nr rc) _ _ (by rfl) HOE2.out ⟨wz.heap.size,0,none⟩ 1 1 [.int .i64 (e2:Int),.int .u32 (X:Int)] (by rfl) (by rfl) HNWS.out (by simp[Value.oneCell']) (by decide) (by unfold maxLen;omega) (by omega) (by simp;omega) (wz.heap.size+1) (by simp) ?_;intro gg cap2 w9 hown9 hgrow9 hat9 hlt9;have HW9:=zA (HKG.out gg cap2 w9 hown9 hgrow9 hat9);refine hK.out _ _ HW9.out.1 (fun hHeld=>?_);clear hK K hown9 hgrow9 hat9 hlt9;obtain⟨c2,c8⟩:=HW9.out.2.2.1;refine tkH (i:=20) (oi:=⟨some 108,.indexAddr 96 (.tmp 91) (.tmp 93),0, "search.go:66",#[⟨3,.data⟩,⟨5,.data⟩,⟨0,.phase⟩,⟨1,.phase⟩,⟨2,.phase⟩,⟨3,.phase⟩,⟨4,.phase⟩,⟨5,.phase⟩,⟨6,.phase⟩,⟨7,.phase⟩,⟨8,.phase⟩,⟨9,.phase⟩,⟨10,.phase⟩,⟨11,.phase⟩,⟨12,.phase⟩,⟨13,.phase⟩,⟨14,.phase⟩,⟨15,.phase⟩,⟨16,.phase⟩,⟨17,.phase⟩,⟨18,.phase⟩,⟨19,.phase⟩],none⟩) (v:=?_) rfl ?_ hHeld ?_;rotate_left 1
           . rintro W ⟨l1,l2,l3⟩;go_simp;try with_reducible rfl
           simp only[Act.put,zIB,zSZ,zSS];refine wpAnyH_ready (rs:=[21]) (by kernel_rfl) (by simp) ?_;refine AllReadyH.cons (o:=⟨none,.store 103 (.tmp 108) (.tmp 107),0, "search.go:66",#[⟨20,.data⟩,⟨19,.data⟩,⟨19,.chain⟩,⟨0,.phase⟩,⟨1,.phase⟩,⟨2,.phase⟩,⟨3,.phase⟩,⟨4,.phase⟩,⟨5,.phase⟩,⟨6,.phase⟩,⟨7,.phase⟩,⟨8,.phase⟩,⟨9,.phase⟩,⟨10,.phase⟩,⟨11,.phase⟩,⟨12,.phase⟩,⟨13,.phase⟩,⟨14,.phase⟩,⟨15,.phase⟩,⟨16,.phase⟩,⟨17,.phase⟩,⟨18,.phase⟩,⟨19,.phase⟩],none⟩) rfl (fun K hK=>?_) AllReadyH.nil;go_simp;refine hK.out _ _ HW9.out.2.1 (fun hHeld=>?_);clear hK K c2 c8;refine wpAnyH_done (by kernel_rfl) ?_ _;go_wp2;go_roundw
           case rel=>exact⟨k+1,_,by omega,by go_num,HW9.out.2.2.2.1,zA (HRS.out _),HW9.out.2.2.2.2.1,HW9.out.2.2.2.2.2⟩
           case measure=>simp[intOf];omega
     . have hltkI:¬(k:Int)<(ne:Int):=by omega
       have HRE:Hid (rs.map (·.2)=(List.range n).map (stepsOf a E)):=zA (by rw[HRk.out,zK (by rw[<- HNE.out];omega)]);have HFIN:Hid (NewE w n E a (.returned (.pointer (some ⟨sb,0,none⟩))) wy):=zA (by
        have hdn:=HCk.out.done (d:=sdOf (fun k=>k=stb\/∃r∈rs,r.1.ownBlock=some k) n E a) (sd_ok HM.out (fun e he=>by have:=(HE.out e he).2.1;rw[HN.out];exact this)) rfl (fun j hj=>(HFA.out j hj).symm) (by
         rw[HL1.out];show lastA a=_;rw[lastA,HAU.out,HSL.out]) HRE.out.symm (fun k=>Iff.rfl)
        refine⟨sb,_,_,rfl,hdn,fun k hk=>?_,fun k hk=>?_,HWW.out wy HBk.out⟩
        . have hlo:=HCk.out.lo;have:=HB1.out.size;rcases hk with hk|hk|hk|hk|hk
          . rw[hk];omega
          . rw[hk];show w.heap.size<=cb;omega
          . rw[hk];show w.heap.size<=fb;omega
          . simp[Value.ownBlock]at hk
          . simp[Value.ownBlock]at hk
        . have:=HB1.out.size;rcases hk with hk|⟨r,hr,hb⟩
          . have hlo:=HCk.out.lo;rw[hk];exact⟨by omega,lt_of_block HCk.out.st⟩
          . have:=(HCk.out.rows r hr).lt k hb;exact⟨by omega,this.2⟩)
       go_wp2;go_ret;exact HFIN.out
end Go.Proofs.YtdalcipmpelifaaGreatDoor
