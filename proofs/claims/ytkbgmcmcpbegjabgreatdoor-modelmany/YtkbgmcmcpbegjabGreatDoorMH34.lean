/- XVertex. -/
import Derived.Test.YtkbgmcmcpbegjabGreatDoorMH30
import Derived.Test.YtkbgmcmcpbegjabGreatDoorMH26
import Derived.Test.YtkbgmcmcpbegjabGreatDoorMH33
set_option maxRecDepth 100000
namespace Go.Proofs.YtkbgmcmcpbegjabGreatDoor
open Go.RowKit Go.Shelf
def VerE(w:World)(L:List Nat)(e:Ending)(w':World):Prop:=∃v,e=.returned v/\NatC (fun k=>w.heap.size<=k) w' v L/\Below w.heap.size w w'
def vertexL(N:List Wd)(s:Wd):List Nat:=if s∈N then [N.idxOf s]else []
set_option maxHeartbeats 4000000 in
theorem vertex_any{S:Nat->Prop}{w:World}{gb:Nat}{N:List Wd}{E:List Eg}{mb:Nat}{nv ev:Value}{D:DataW Unit}{c:Nat}(h:GrS S w gb N E mb nv ev D c)(s:Wd)(hs:s.length<=140737488351232):
 Calls Tryz.prog 64 #[.pointer (some ⟨gb,0,none⟩),.string ⟨s.toArray⟩] w (VerE w (vertexL N s)):=by
 have H:=zA h;have HK:=zA (keySG s (by unfold maxLen;omega));obtain⟨⟨g0,g1,g2⟩,_⟩:=cells3G h.blk;have hh:=h.keys s;by_cases hm:s∈N
 . have HM:Hid (Maps.has D (.string s)=true):=zA (by rw[hh];exact yA hm);have hx:=h.tells (N.idxOf s) s (zZ hm) (idx_at hm);have HX:=zA hx;have HL:Hid (vertexL N s=[N.idxOf s]):=zA (by rw[vertexL,if_pos hm]);rw[HL.out];obtain⟨x,hxe⟩:∃x,x=N.idxOf s:=⟨_,rfl⟩
   rw[<- hxe]at HX ⊢;clear h hh hm hx HL hxe;go_enter Tryz.func64,Tryz.ntmps64;have HONE:Hid (∀u:World,Hid (NatC (fun k=>u.heap.size<=k) (u.alloc (.cells #[.int .i64 (x:Int)] 3)) (.slice (some ⟨u.heap.size,0,none⟩) 1 1) [x])):=zA (fun u=>zA ((one_nat (b:=u.heap.size) (heap_alloc_new u _)).sub (fun k hk _=>by have hk:k=u.heap.size:=hk;omega)));go_wp2_with (at_lookup;refine wpList_lookup_own_ok_int _ rfl _ _ 77 rfl 9 3 .i64 lawSG Tryz.underlying77 Tryz.underlying3 (zeroIG _) mb _ D rfl H.out.map _ _ rfl HK.out ?_;intro cc hat hwc;rw[HM.out];have hcc:cc=(x:Int):=(by rw[HX.out]at hat;injection hat with hat;injection hat with _ hat;exact hat.symm);clear hat hwc;subst hcc);all_goals (first|(go_ret;exact⟨_,rfl,(HONE.out w).out,(zF _ _).alloc (zD _) _⟩)|exact⟨_,rfl,(HONE.out w).out,(zF _ _).alloc (zD _) _⟩)
 . have HM:Hid (Maps.has D (.string s)=false):=zA (by rw[hh];exact decide_eq_false hm);have HL:Hid (vertexL N s=[]):=zA (by rw[vertexL,if_neg hm]);rw[HL.out];clear h hh hm HL;have HNIL:Hid (NatC (fun k=>w.heap.size<=k) w (.slice none 0 0) []):=zA ⟨SlS.nil _ _,none,0,rfl,zD _⟩;go_enter Tryz.func64,Tryz.ntmps64;go_wp2_with (at_lookup;refine wpList_lookup_own_ok_int _ rfl _ _ 77 rfl 9 3 .i64 lawSG Tryz.underlying77 Tryz.underlying3 (zeroIG _) mb _ D rfl H.out.map _ _ rfl HK.out ?_;intro cc hat hwc;rw[HM.out];clear hat hwc);all_goals (first|(go_ret;exact⟨_,rfl,HNIL.out,zF _ _⟩)|exact⟨_,rfl,HNIL.out,zF _ _⟩)
def WrdE(w:World)(L:List Wd)(e:Ending)(w':World):Prop:=∃b,e=.returned (.slice (some ⟨b,0,none⟩) L.length L.length)/\b=w.heap.size/\VRow w' b 9 (L.flatMap csT)/\Below w.heap.size w w'
theorem csT_lenX(x:Wd):(csT x).length=1:=rfl
theorem flat_T(L:List Wd):L.flatMap csT=L.map (fun s=>Value.string ⟨s.toArray⟩):=by
 induction L with
 |nil=>rfl
 |cons a l ih=>rw[yS,ih];rfl
set_option maxHeartbeats 4000000 in
theorem words_any{S T:Nat->Prop}{w:World}{gb:Nat}{N:List Wd}{E:List Eg}{mb:Nat}{nv ev:Value}{D:DataW Unit}{c:Nat}(h:GrS S w gb N E mb nv ev D c){v:Value}{row:List Nat}(hr:NatC T w v row)(hrl:row.length<=100000)(hrn:∀x∈row,x<N.length):
 Calls Tryz.prog 22 #[.pointer (some ⟨gb,0,none⟩),v] w (WrdE w (row.map fun i=>N.getD i [])):=by
 obtain⟨i0,hi0,hz0,hz1,hz2⟩:=info_partsG infoSG;obtain⟨⟨g0,_,_⟩,_⟩:=cells3G h.blk;obtain⟨na,nc,hnv⟩:=h.names.slice;obtain⟨nn,hnn⟩:∃q,q=N.length:=⟨_,rfl⟩
 rw[<- hnn]at hnv;rw[hnv]at g0;obtain⟨ra,rc,hre⟩:=hr.1.slice;obtain⟨n,hn⟩:∃q,q=row.length:=⟨_,rfl⟩
 rw[<- hn]at hre hrl;subst hre;have hgb:=lt_of_block h.blk;have HNA:Hid (TxtS S w (.slice na nn nc) N):=zA (by rw[<- hnv];exact h.names);have HR:=zA hr.1;have HRN:=zA hrn;have HN:=zA hn;have HNN:=zA hnn;obtain⟨R,hR⟩:∃R,R=row.map fun i=>N.getD i []:=⟨_,rfl⟩
 rw[<- hR];have HRR:=zA hR;have hRl:R.length=n:=by rw[hR,zH,hn]
 have HRL:=zA hRl;have HM:=zA (made_row w (.string ⟨#[]⟩) n 9);have HB0:Hid (Below w.heap.size w (w.alloc (.cells (madeCells #[.string ⟨#[]⟩] n) 9))):=zA ((zF _ _).alloc (zD _) _);have HG0:Hid (∀u,Below w.heap.size w u->u.cell? ⟨gb,0,none⟩=some (.slice na nn nc)):=zA (fun u hu=>(hu.cell (p:=⟨gb,0,none⟩) hgb).trans g0);obtain⟨W0,hW0⟩:∃W,W=w.alloc (.cells (madeCells #[.string ⟨#[]⟩] n) 9):=⟨_,rfl⟩
 rw[<- hW0]at HM HB0;have HW0:=zA hW0.symm;clear h hr hrn hn hnn hnv hR hRl hW0 g0 hgb;go_enter Tryz.func22,Tryz.ntmps22;go_wp2_with (at_make;refine wpList_make_row _ rfl _ _ 30 rfl 9 i0 (.string ⟨#[]⟩) Tryz.underlying30 hi0 hz0 hz1 rfl _ _ n rfl rfl (by rw[hz2];omega) (by omega) ?_;rw[HW0.out]);go_loopw [13] (fun c wr=>∃(i:Nat) (l:List Wd),i<=n/\c=.int .i64 i/\Hid (l.length=n)/\Hid (l.take i=R.take i)/\Hid (VRow wr w.heap.size 9 (l.flatMap csT))/\Hid (Below w.heap.size w wr)) (fun c _=>n-(intOf c).toNat)
 case atStart=>exact⟨0,List.replicate n [],zR _,rfl,zA (by simp),zA (by simp),zA (by
  have:=HM.out;rw[show (List.replicate n ([]:Wd)).flatMap csT=List.replicate n (Value.string ⟨#[]⟩) by rw[flat_T];simp];exact this),HB0⟩
 case round=>
  obtain⟨i,l,hi,rfl,HLL,HTK,HROW,HBW⟩:=hrel;obtain⟨wx,hwx⟩:∃wx,wx=wr:=⟨_,rfl⟩
  subst hwx;by_cases hlt:i<n
  . have hltI:(i:Int)<(n:Int):=by omega
    obtain⟨x,hx⟩:∃x,row[i]?=some x:=⟨_,zB (by rw[<- HN.out];exact hlt)⟩
    obtain⟨ga,goff,hra,_,hgl,hcell⟩:=HR.out.get hx;subst hra;have q0:=getI hcell;rw[yF]at q0;have q0:=(HBW.out.cell (p:=⟨ga,goff+i,none⟩) hgl).trans q0;have hxn:=HRN.out x (zC hx);rw[<- HNN.out]at hxn;have hxI:(x:Int)<(nn:Int):=by omega
    obtain⟨s,hs⟩:∃s,N[x]?=some s:=⟨_,zB (by rw[<- HNN.out];exact hxn)⟩
    obtain⟨gn,noff,hna,_,hnl,hcelln⟩:=HNA.out.get hs;subst hna;have q1:=hcelln 0 _ rfl;rw[yF,yJ]at q1;have q1:=(HBW.out.cell (p:=⟨gn,noff+x,none⟩) hnl).trans q1;have q2:=HG0.out wx HBW.out;obtain⟨y,hy⟩:∃y,l[i]?=some y:=⟨_,zB (by rw[HLL.out];exact hlt)⟩
    obtain⟨z0,z1⟩:=HROW.out.cell (i:=i) (v:=.string ⟨y.toArray⟩) (by rw[flat_T,zI,hy];rfl);have HR2:Hid (VRow (wx.setCell ⟨w.heap.size,i,none⟩ (.string ⟨s.toArray⟩)) w.heap.size 9 ((l.set i s).flatMap csT)):=zA (by
     have:=HROW.out.set i (.string ⟨s.toArray⟩);rw[flat_T]at this ⊢;rw[List.map_set];exact this)
    have HB2:=zA (HBW.out.setCell (p:=⟨w.heap.size,i,none⟩) (zD _) (.string ⟨s.toArray⟩));have HT2:Hid ((l.set i s).take (i+1)=R.take (i+1)):=zA (by
     rw[zU,List.getElem?_set_self (by rw[HLL.out];exact hlt),List.take_set_of_le (zD _),HTK.out,zU];have hRi:R[i]?=some s:=by
      rw[HRR.out,zI,hx];simp[List.getD,hs]
     rw[hRi])
    have HL2:Hid ((l.set i s).length=n):=zA (by rw[List.length_set];exact HLL.out);clear hx hs hy hcell hcelln;go_wp2;go_roundw
    case rel=>exact⟨i+1,l.set i s,by omega,by go_num,HL2,HT2,HR2,HB2⟩
    case measure=>simp[intOf];omega
  . have hltI:¬(i:Int)<(n:Int):=by omega
    have HE:Hid (l=R):=zA (by
     have h1:=HTK.out;rw[zK (by rw[HLL.out];omega),zK (by rw[HRL.out];omega)]at h1;exact h1)
    have HFIN:Hid (WrdE w R (.returned (.slice (some ⟨w.heap.size,0,none⟩) n n)) wx):=zA ⟨_,by rw[HRL.out],rfl,by rw[<- HE.out];exact HROW.out,HBW.out⟩;go_wp2;all_goals (first|(go_ret;exact HFIN.out)|exact HFIN.out)
theorem NewE.mono{w w2:World}{n:Nat}{E:List Eg}{a:Au}{e:Ending}{w':World}(h:NewE w2 n E a e w')(hb:Below w.heap.size w w2):NewE w n E a e w':=by
 obtain⟨sb,m,kp,h1,h2,h3,h4,h5⟩:=h;have hz:=hb.size;exact⟨sb,m,kp,h1,h2,fun k hk=>zQ hz (h3 k hk),fun k hk=>⟨zQ hz (h4 k hk).1,(h4 k hk).2⟩,hb.trans (h5.mono hz)⟩
set_option maxHeartbeats 8000000 in
theorem along_any{S U:Nat->Prop}{w:World}{gb:Nat}{N:List Wd}{E:List Eg}{mb:Nat}{nv ev:Value}{D:DataW Unit}{c:Nat}{t:Vt}(hg:GrS S w gb N E mb nv ev D c)(hv:VOk U w t)(hp:mayP t.pt=true)(hn:N.length<=10000)(hEl:E.length<=10000)(hE:∀e∈E,e.1<N.length/\e.2.2<N.length/\e.2.1.length<=140737488351232):
 Calls Tryz.prog 40 #[.pointer (some ⟨gb,0,none⟩),encN t] w (NewE w N.length E (autoOf t.pt)):=by
 obtain⟨P,hP⟩:∃P,P=t.pt:=⟨_,rfl⟩
 rw[<- hP]at hp ⊢;have CO:Hid (∀u,Below w.heap.size w u->Calls Tryz.prog 26 #[encN t] u fun e w'=>∃m:Mu,e=.returned (.tuple #[encU m,.int .i64 0])/\UOk (fun g=>u.heap.size<=g) w' m/\m.au=autoOf P/\Below u.heap.size u w'):=zA (fun u hu=>by
  have h1:=of_any (hv.below hu);rw[<- hP,hp,if_pos rfl]at h1;have h2:ofA P=autoOf P:=by rw[ofA,hp,if_pos rfl]
  rw[h2]at h1;exact h1)
 obtain⟨hmay,_⟩:=auto_will hp;have HG:=zA hg;have HMAY:=zA hmay;have HE:=zA hE;obtain⟨ka,kc,hkv⟩:=hv.parts.1.slice;obtain⟨k,wd,v,l⟩:=t;dsimp only at hkv;subst hkv;obtain⟨kn,hkn⟩:∃n,n=l.length:=⟨_,rfl⟩
 rw[<- hkn]at CO ⊢;clear hg hv hp hP hkn hmay hE;show Calls Tryz.prog _ #[_,.agg #[.int .i64 k,.string ⟨wd.toArray⟩,.slice ka kn kc]] w _;obtain⟨o,ho⟩:∃o,o=Obj.cells #[.int .i64 k,.string ⟨wd.toArray⟩,.slice ka kn kc] 28 (0,0):=⟨_,rfl⟩
 have HBA:Hid (Below w.heap.size w (w.alloc o)):=zA ((zF _ _).alloc (zD _) _);have C1:=zA (CO.out (w.alloc o) HBA.out);subst ho;have C1b:Hid (Calls Tryz.prog 26 #[.agg #[.int .i64 k,.string ⟨wd.toArray⟩,.slice ka kn kc]] (w.alloc (Obj.cells #[.int .i64 k,.string ⟨wd.toArray⟩,.slice ka kn kc] 28 (0,0))) fun e w'=>∃m:Mu,e=.returned (.tuple #[encU m,.int .i64 0])/\UOk (fun g=>(w.alloc (Obj.cells #[.int .i64 k,.string ⟨wd.toArray⟩,.slice ka kn kc] 28 (0,0))).heap.size<=g) w' m/\m.au=autoOf P/\Below (w.alloc (Obj.cells #[.int .i64 k,.string ⟨wd.toArray⟩,.slice ka kn kc] 28 (0,0))).heap.size (w.alloc (Obj.cells #[.int .i64 k,.string ⟨wd.toArray⟩,.slice ka kn kc] 28 (0,0))) w'):=C1;clear C1 CO;go_enter Tryz.func40,Tryz.ntmps40;go_wp2_with fail;refine C1b.out.mono ?_;rintro e w1 ⟨m,rfl,hu,hau,hb1⟩;have HU:=zA hu;have HAU:=zA hau;have HB1:=zA (HBA.out.trans (hb1.mono HBA.out.size));obtain⟨wa,wcc,fa2,fc2,la,lc,oa,oc,e1,e2,e3,e4⟩:=hu.slices;obtain⟨wv,ws,fv,fs2,lv,ls,ov,os,em⟩:=m;dsimp only at e1 e2 e3 e4;subst e1 e2 e3 e4;clear hu hau hb1 C1b;obtain⟨nw,hnw⟩:∃n,n=ws.length:=⟨_,rfl⟩
 obtain⟨no,hno⟩:∃n,n=os.length:=⟨_,rfl⟩
 obtain⟨nf2,hnf2⟩:∃n,n=fs2.length:=⟨_,rfl⟩
 obtain⟨nl,hnl⟩:∃n,n=ls.length:=⟨_,rfl⟩
 obtain⟨mu0,hmu⟩:∃m:Mu,m=⟨.slice wa ws.length wcc,ws,.slice fa2 fs2.length fc2,fs2,.slice la ls.length lc,ls,.slice oa os.length oc,os,em⟩:=⟨_,rfl⟩
 rw[<- hmu]at HU HAU;have HEN:Hid (encU mu0=.agg #[.slice wa nw wcc,.slice fa2 nf2 fc2,.slice la nl lc,.slice oa no oc,.bool em]):=zA (by rw[hmu,hnw,hno,hnf2,hnl]);rw[<- hmu,HEN.out];clear hmu hnw hno hnf2 hnl;obtain⟨o2,ho2⟩:∃o,o=Obj.cells #[.slice wa nw wcc,.slice fa2 nf2 fc2,.slice la nl lc,.slice oa no oc,.bool em] 69 (0,0):=⟨_,rfl⟩
 obtain⟨w2,hw2⟩:∃W,W=w1.alloc o2:=⟨_,rfl⟩
 have hb12:Below w1.heap.size w1 w2:=by rw[hw2];exact(zF _ _).alloc (zD _) _
 have HB2:=zA (HB1.out.trans (hb12.mono HB1.out.size));have hbx:w2.heap[w1.heap.size]?=some o2:=by rw[hw2];exact heap_alloc_new _ _
 rw[ho2]at hbx;obtain⟨⟨r0,r1,r2,r3,r4⟩,_⟩:=five_cells hbx;have CN:=zA (newSearch_any (HG.out.keep HB2.out.size (fun b hs hl=>⟨hs,HB2.out.block b hl⟩)) (HU.out.below hb12) (by rw[HAU.out];exact HMAY.out) hn hEl HE.out);rw[HAU.out,HEN.out]at CN;have HW2:Hid (w1.alloc (.cells #[.slice wa nw wcc,.slice fa2 nf2 fc2,.slice la nl lc,.slice oa no oc,.bool em] 69)=w2):=zA (by rw[hw2,ho2]);rw[hw2,ho2]at r0 r1 r2 r3 r4;clear hb12 hbx hw2 ho2;go_wp2_with fail;rw[HW2.out];refine CN.out.mono ?_;intro e w3 hnew;have HNEW:=zA (hnew.mono HB2.out);obtain⟨sb,m3,kp,rfl,_⟩:=hnew;go_wp2;all_goals (first|(go_ret;exact HNEW.out)|exact HNEW.out)
end Go.Proofs.YtkbgmcmcpbegjabGreatDoor
