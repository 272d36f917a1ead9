/- MRows. -/
import Derived.Test.YtkbgmcmcpbegjaaGreatDoorZR21
import Derived.Test.YtkbgmcmcpbegjaaGreatDoorZR29
set_option maxRecDepth 100000
set_option maxHeartbeats 40000000
namespace Go.Proofs.YtkbgmcmcpbegjaaGreatDoor
open Go.RowKit Go.Shelf
def jj4(fs:List Fa)(vars:List Wd)(l:List Pa):Int:=if mayQ vars l=true then (if 4096<(jhk fs vars l).length then 110 else 0)else 1
def jhw(fs:List Fa)(vars:List Wd)(l:List Pa):List Rw:=if mayQ vars l=true then (if 4096<(jhk fs vars l).length then []else jhk fs vars l)else []
theorem jfW(x:Wd):(csT x).length=1:=rfl
theorem jl7:(Tryz.prog.info? 78).map (fun i=>(i.zero,i.size,i.bytes))=some (some (.slice none 0 0),1,24):=by kernel_rfl
theorem jjO{w:World}{vf:Value}{fs:List Fa}{q:Qm}(hf:FasS (fun _=>True) w vf fs)(hlf:fs.length<=40)(hq:QOk (fun _=>True) w q):
 Calls Tryz.prog 20 #[vf,encQ q] w fun e w'=>∃v,e=.returned (.tuple #[v,.int .i64 (jj4 fs q.vars (q.atoms.map Am.pa))])/\jbq w' v (jhw fs q.vars (q.atoms.map Am.pa))/\Below w.heap.size w w':=by
 obtain⟨i0,dk,dh,dw,ds⟩:=info_parts jl7;obtain⟨i1,cj,cP,cR,cI⟩:=info_parts jjD;obtain⟨LP,ax⟩:=eX (q.atoms.map Am.pa);obtain⟨VR,aR⟩:=eX q.vars;obtain⟨b,hb⟩:=eX (mayQ VR LP);obtain⟨V,hV⟩:=eX (jac fs);obtain⟨NM,aO⟩:=eX (jai LP);have ct:V.length<=80:=by rw[hV];have:=jbz fs;omega
 rw[<- ax,<- aR];obtain⟨R,hR⟩:=eX (jhw fs VR LP);obtain⟨ec,bQ⟩:=eX (jj4 fs VR LP:Int);rw[<- hR,<- bQ];have HR:Hid (R=if b=true then (if 4096<(jba fs V NM VR LP (V.length^NM.length)).length then []else jba fs V NM VR LP (V.length^NM.length))else []):=zA (by rw[hR,hb,hV,aO];rfl);have aM:Hid (ec=if b=true then (if 4096<(jba fs V NM VR LP (V.length^NM.length)).length then 110 else 0)else 1):=zA (by rw[bQ,hb,hV,aO];rfl);have aK:Hid (b=true->(1<=VR.length/\VR.length<=6)/\(1<=LP.length/\LP.length<=6)/\(∀a∈q.atoms,mayP a.2.1.pt=true)/\NM.length<=6/\∀v∈VR,v∈NM):=zA (fun h=>by
  rw[hb]at h;obtain⟨h1,h2,h3,h4,h5⟩:=(mayQ_iff VR LP).1 h;refine⟨h1,h2,fun a ha=>(h4 a.pa (by rw[ax];exact zW ha)).2.2,?_⟩;rw[jjt (fun a ha=>(h4 a ha).2.2) h1.2 h2.2]at h5;rw[aO];split at h5
  . cases h5
  . rename_i h6;split at h5
    . cases h5
    . split at h5
      . cases h5
      . rename_i h7;refine⟨by omega,fun v hv=>?_⟩;by_cases hm:v∈jai LP
        . exact hm
        . exact absurd ⟨v,hv,hm⟩ h7)
 have CM:Hid (∀u,Below w.heap.size w u->Calls Tryz.prog 26 #[.agg #[.int .i64 1,q.vv,q.av,.slice none 0 0]] u fun e w'=>e=.returned (.bool b)/\Below u.heap.size u w'):=zA (fun u hu=>by rw[hb,aR,ax];exact rMayQ_any (hq.below hu));have CV:Hid (∀u,Below w.heap.size w u->Calls Tryz.prog 16 #[vf] u fun e w'=>∃v',e=.returned v'/\SrcW w' v' V/\Below u.heap.size u w'):=zA (fun u hu=>by rw[hV];exact jgm (hf.below hu) (by omega));have CN:Hid (b=true->∀u,Below w.heap.size w u->Calls Tryz.prog 38 #[.agg #[q.vv,q.av]] u fun e w'=>∃v,e=.returned v/\w'.ownsRow u.heap.size 9 1 v NM.length (NM.flatMap csT)/\Below u.heap.size u w'):=zA (fun h u hu=>by
  have h2:=(aK.out h).2.1;rw[ax,zH]at h2;rw[aO,ax];exact jdA (hq.below hu) (by omega))
 have CL:Hid (b=true->∀a∈q.atoms,∀u vl,Below w.heap.size w u->TxtS (fun _=>True) u vl V->Calls Tryz.prog 36 #[vf,vl,encN a.2.1] u fun e w'=>∃v,e=.returned v/\IsM w' v V.length (jaq fs V a.2.1.pt)/\Below u.heap.size u w'):=zA (fun h1 a ha u vl hu hl=>by
  have h2:=(aK.out h1).2.2.1 a ha;simp only[mayP,Bool.and_eq_true,decide_eq_true_eq]at h2;exact rLead_any hV (by omega) (by omega) a.2.1 12 h2.1 u vf vl (hf.below hu) hl ((hq.ok a ha).below hu))
 have HA:=zA hq.ats;have bM:=zA hq.vs;have cf:=zA hq.ok;obtain⟨fa,fc,cM⟩:=hf.slice;obtain⟨nf,cQ⟩:=eX fs.length;rw[<- cQ]at cM;subst cM;obtain⟨va,vc,a9⟩:=hq.vs.slice;obtain⟨aa,ac,bf⟩:=hq.ats.slice;obtain⟨na,bi⟩:=eX q.atoms.length;obtain⟨nv,bP⟩:=eX q.vars.length;rw[<- bi]at bf;rw[<- bP]at a9;rw[bf]at HA;rw[a9]at bM;have bq:Hid (na=LP.length):=zA (by rw[bi,ax,zH]);have aD:=zA bi;have bu:Hid (nv=VR.length):=zA (by rw[bP,aR]);obtain⟨AT,bz⟩:=eX q.atoms;rw[<- bz]at HA cf CL aK aD;rw[<- aR]at bM;have cq:Hid (LP=AT.map Am.pa):=zA (by rw[ax,bz]);rw[a9,bf]at CM CN;show Calls Tryz.prog _ #[_,.agg #[q.vv,q.av]] w _;rw[a9,bf];obtain⟨n,hn⟩:=eX V.length;rw[<- hn]at CL ct HR aM;have HN:=zA hn;obtain⟨s,hs⟩:=eX NM.length;rw[<- hs]at HR aM CN aK;have HS:=zA hs;have a0:=zA aO;clear hf hlf hq hb hV hR bQ cQ bi bP hn hs ax aR bz a9 bf aO;obtain⟨o,ho⟩:=eX (Obj.cells #[.slice va nv vc,.slice aa na ac] 38);have co:=zA ho;have HC:Hid (∀wr,Below (w.alloc o).heap.size (w.alloc o) wr->wr.cell? ⟨w.heap.size,0,none⟩=some (.slice va nv vc)/\wr.cell? ⟨w.heap.size,1,none⟩=some (.slice aa na ac)):=zA (fun wr hb=>by
  have h:=jav hb;rw[co.out]at h;simp[World.cell?,h])
 have bC:Hid (Below (w.alloc o).heap.size (w.alloc o) (w.alloc (.cells #[.slice va nv vc,.slice aa na ac] 38))):=zA (by rw[co.out];exact zF _ _);clear ho;go_enter Tryz.func20,Tryz.ntmps20;go_wp2_with fail;refine(CM.out _ (jaa bC.out)).mono ?_;rintro e w1 ⟨rfl,cv⟩;have bn:=zA (bC.out.trans (cv.mono bC.out.size));clear cv;cases b with
 |false=>
  go_wp2;go_ret2;exact⟨.slice none 0 0,by rw[aM.out];rfl,by rw[HR.out];exact jbR _,jaa bn.out⟩
 |true=>
  have de:=zA (CL.out rfl);have dC:=zA (CN.out rfl);obtain⟨⟨db,dR⟩,⟨dv,dB⟩,a4,hs6,cr⟩:=aK.out rfl;rw[<- bq.out]at dv dB;rw[<- bu.out]at db dR;have b6:=zA a4;have dc:=zA cr;obtain⟨ND,bB⟩:=eX (n^s);rw[<- bB]at HR aM;have bh:Hid (R=if 4096<(jba fs V NM VR LP ND).length then []else jba fs V NM VR LP ND):=zA (by rw[HR.out];rfl);have aq:Hid (ec=if 4096<(jba fs V NM VR LP ND).length then 110 else 0):=zA (by rw[aM.out];rfl);have bS:=zA bB;clear CL CN HR aM aK a4 cr bB;go_wp2_with fail;refine(CV.out _ (jaa bn.out)).mono ?_;rintro e w2 ⟨vl,rfl,dn,cX⟩;have bs:=zA (bn.out.trans (cX.mono bn.out.size));obtain⟨cz,la,lc,cO,bO⟩:=dn;rw[<- HN.out]at cO;subst cO;have dQ:=zA cz.sl;clear cX cz bO;obtain⟨c0,c1⟩:=HC.out _ bs.out;go_wp2_with fail;refine(dC.out _ (jaa bs.out)).mono ?_;rintro e w3 ⟨vn,rfl,cp,ca⟩;have cw:=zA (bs.out.trans (ca.mono bs.out.size));have ci:=zA (dQ.out.below ca);have bx:TxtS (fun _=>True) w3 vn NM:=(jaD jfW cp HS.out).sub (fun _ _ _=>trivial);obtain⟨ma,mc,az⟩:=bx.slice;rw[<- HS.out]at az;subst az;have cb:=zA bx;clear ca bx cp c0 c1;go_wp2_with fail;go_loopw [8,9] (fun vl c wr=>∃(i:Nat) (u:Value) (ms:List (Value×Mt)),u=vl/\i<=na/\c=.int .i64 i/\ms.map (·.2)=(LP.take i).map (fun a=>jaq fs V a.2.1)/\AllO w3.heap.size wr u n ms/\Below w3.heap.size w3 wr) (fun _ c _=>na-(intOf c).toNat)
  case atStart=>exact⟨0,.slice none 0 0,[],rfl,zO _,rfl,rfl,AllO.nil _ _ _,zF _ _⟩
  case round=>
   obtain⟨i,u,ms,rfl,hi,rfl,b0,ho,bo⟩:=hrel;obtain⟨wx,c5⟩:=eX wr;subst c5;obtain⟨ua,uc,hu⟩:=jab ho.row;obtain⟨nu,bv⟩:=eX ms.length;rw[<- bv]at hu;subst hu;have cN:nu=i:=by
    have h1:ms.length=((LP.take i).map (fun a=>jaq fs V a.2.1)).length:=by rw[<- b0,zH]
    rw[zH,zX,<- bq.out]at h1;omega
   have aQ:=zA cN;have hub6:nu<=6:=by omega
   clear cN;obtain⟨X,hX⟩:=eX (ms.flatMap csMx);have cB:=zA hX;have aJ:Hid (wx.ownsRow w3.heap.size 78 1 (.slice ua nu uc) nu X):=zA (by
    have h:=ho.row;rw[<- bv,<- hX]at h;exact h)
   have HO:=zA ho;have bV:=zA b0;have aC:=zA bo;have dG:=zA bv;have aw:=zA (cw.out.trans (bo.mono cw.out.size));have hsx:w3.heap.size<=wx.heap.size:=bo.size;clear ho b0 bo bv hX;obtain⟨c0,c1⟩:=HC.out _ aw.out;by_cases hlt:i<na
   . have bT:(i:Int)<(na:Int):=by omega
     obtain⟨a,ha⟩:∃x,AT[i]?=some x:=⟨_,zB (by rw[<- aD.out];exact hlt)⟩
     have aB:=zC ha;have cx:=zA ha;obtain⟨g,du,b5,_,dF,ag⟩:=(HA.out.below (jaa aw.out)).get ha;subst b5;obtain⟨q0,q1,q2,q3,q4,q5,q6⟩:=getA ag;have C3:=zA (de.out a aB);have am:=zA (cf.out a aB);obtain⟨⟨b1,t1⟩,⟨k,wd,v,l⟩,⟨b2,t2⟩⟩:=a;obtain⟨ka,kc,a3⟩:=am.out.parts.1.slice;dsimp only at a3 q0 q1 q2 q3 q4 q5 q6;subst a3;obtain⟨kn,aZ⟩:=eX l.length;rw[<- aZ]at C3 cx q4;clear ag ha aB aZ am;go_wp2_with fail;refine(C3.out _ _ (jaa aw.out) (ci.out.below aC.out)).mono ?_;rintro e w4 ⟨vm,rfl,bd,bt⟩;have cc:=zA bd;obtain⟨ga,b8⟩:=bd;obtain⟨bg,a6,az⟩:=b8.sl.slice;rw[b8.len]at az;subst az;have cU:=zA bt;have hs4:wx.heap.size<=w4.heap.size:=bt.size;have dl:=zA (jao aJ.out bt);clear b8 bt;go_wp2_with (at_builtin;refine wpList_append_lies _ rfl _ _ _ rfl w3.heap.size 78 i0 _ 1 24 Tryz.underlying89 dk dh dw ds rfl (by decide) (.slice ua nu uc) _ _ (by rfl) (dl.out.alloc _) ⟨w4.heap.size,0,none⟩ 1 1 [.slice bg n a6] (by rfl) (by rfl) (World.news_of_block (cs:=#[.slice bg n a6]) (t:=78) (fr:=(0,0)) (heap_alloc_new w4 _)) (by simp[Value.oneCell']) (by decide) (by unfold maxLen;omega) (by omega) (by simp;omega) (w4.heap.size+1) (by simp) ?_);intro gg al w9 ad ab aj ak;have ba:Below w4.heap.size w4 (w4.alloc (.cells #[.slice bg n a6] 78)):=(zF _ _).alloc (zD _) _;have aF:Below w3.heap.size w3 w4:=aC.out.trans (cU.out.mono aC.out.size);have aY:Hid (Below w3.heap.size w3 w9):=zA ((aF.trans (ba.mono aF.size)).grown ab (by simp;omega) (fun k e=>(aJ.out.lt k e).1));have dJ:Hid (AllO w3.heap.size w9 (.slice (some ⟨gg,0,none⟩) (nu+1) al) n (ms++[(.slice bg n a6,jaq fs V (Vt.mk k wd (.slice ka kn kc) l).pt)])):=zA ((HO.out.below cU.out).grow cc.out ba ab (by
      rw[zG,<- dG.out,zP,<- cB.out];exact ad))
     have dm:Hid ((ms++[((.slice bg n a6:Value),jaq fs V (Vt.mk k wd (.slice ka kn kc) l).pt)]).map (·.2)=(LP.take (i+1)).map (fun a=>jaq fs V a.2.1)):=zA (by
      rw[yG,bV.out,zS,yG,cq.out,zI,cx.out];rfl)
     clear ad ab aj ak ba aF;go_wp2;go_roundw
     case rel=>exact⟨i+1,_,_,by rw[aQ.out],by omega,by go_num,dm.out,dJ.out,aY.out⟩
     case measure=>simp[intOf];omega
   . have bT:¬(i:Int)<(na:Int):=by omega
     have df:Hid (ms.map (·.2)=LP.map (fun a=>jaq fs V a.2.1)):=zA (by
      rw[bV.out,zJ (by rw[<- bq.out];omega)])
     have dO:Hid (AllO w3.heap.size wx (.slice ua nu uc) n ms):=HO;have cn:Hid (∀i,i<=s->n^i<=262144000000):=zA (fun i hi=>by
      have h1:n^i<=80^i:=Nat.pow_le_pow_left ct i;have h2:80^i<=80^6:=Nat.pow_le_pow_right (by omega) (by omega);have h3:(80:Nat)^6=262144000000:=by decide
      omega)
     clear bV HO aJ cB;go_wp2_with fail;go_loopw [10,11] (fun c1 c wr=>∃(j p:Nat),j<=s/\c=.int .i64 j/\Hid (p=n^j)/\c1=.int .i64 p/\wr=wx) (fun _ c _=>s-(intOf c).toNat)
     case atStart=>exact⟨0,1,zO _,rfl,zA (by simp),rfl,rfl⟩
     case round=>
      obtain⟨j,p,hj,rfl,HP,rfl,cu⟩:=hrel;have bD:wx=wr:=cu.symm;clear cu;subst bD;by_cases hlj:j<s
      . have bG:(j:Int)<(s:Int):=by omega
        obtain⟨p2,aL⟩:=eX (p*n);have bF:p2=n^(j+1):=by rw[aL,HP.out,Nat.pow_succ]
        have di:p2<=262144000000:=by rw[bF];exact cn.out _ (by omega)
        have bK:(p:Int)*(n:Int)=(p2:Int):=by rw[aL];simp
        have hwr:IntKind.i64.wrap ((p:Int)*(n:Int))=(p2:Int):=by rw[bK,IntKind.wrap_i64];omega
        have c3:=zA bF;clear aL bF;go_wp2;go_roundw
        case rel=>exact⟨j+1,p2,by omega,by go_num,c3,by first|rfl|trivial,by first|rfl|trivial⟩
        case measure=>simp[intOf];omega
      . have bG:¬(j:Int)<(s:Int):=by omega
        have dy:p=ND:=by rw[HP.out,bS.out,show j=s by omega]
        subst dy;have di:p<=262144000000:=by rw[bS.out];exact cn.out _ (zD _)
        clear HP c0 c1;go_wp2_with fail;go_loopw [12,13] (fun vl c wr=>∃(k:Nat) (u:Value),u=vl/\k<=p/\c=.int .i64 k/\jbq wr u (jba fs V NM VR LP k)/\Below wx.heap.size wx wr) (fun _ c _=>p-(intOf c).toNat)
        case atStart=>exact⟨0,.slice none 0 0,rfl,zO _,rfl,jbR _,zF _ _⟩
        case round=>
         obtain⟨c,uo,rfl,hc,rfl,cY,bR⟩:=hrel;obtain⟨wo,dN⟩:=eX wr;subst dN;have aP:=zA cY;have aA:=zA bR;have hzo:wx.heap.size<=wo.heap.size:=bR.size;clear cY bR;by_cases bO:c<p
         . have bZ:(c:Int)<(p:Int):=by omega
           have b7:=zA ((ci.out.below aC.out).below aA.out);have c6:0<s->0<n:=fun h=>by
            rcases Nat.eq_zero_or_pos n with h0|h0
            . rw[bS.out,h0,Nat.zero_pow h]at bO;omega
            . exact h0
           go_wp2_with fail;go_loopw [14,15,16] (fun vl kv iv wr=>∃(i k:Nat) (u:Value),u=vl/\i<=s/\iv=.int .i64 i/\Hid (k=c/n^i)/\k<=c/\kv=.int .i64 k/\wr.ownsRow wo.heap.size 9 1 u (digL V i c).length ((digL V i c).flatMap csT)/\Below wo.heap.size wo wr) (fun _ _ iv _=>s-(intOf iv).toNat)
           case atStart=>exact⟨0,c,.slice none 0 0,rfl,zO _,rfl,zA (by simp),zD _,rfl,World.ownsRow_nil _ _ _ _,zF _ _⟩
           case round=>
            obtain⟨ix,k,u,rfl,hix,rfl,HK,hkc,rfl,af,ch⟩:=hrel;obtain⟨wt,dz⟩:=eX wr;subst dz;rw[jd5]at af;obtain⟨ta,tc,hu⟩:=jab af;subst hu;have bm:=zA af;have ai:=zA ch;have hzt:wo.heap.size<=wt.heap.size:=ch.size;clear af ch;by_cases hlx:ix<s
            . have cd:(ix:Int)<(s:Int):=by omega
              have dd:=c6 (by omega);obtain⟨r,hr⟩:=eX (k%n);have dK:r<n:=by rw[hr];exact Nat.mod_lt _ dd
              have hmod:(k:Int).tmod (n:Int)=(r:Int):=by rw[hr];rfl
              obtain⟨d,hd⟩:=eX (k/n);have hdiv:(k:Int).tdiv (n:Int)=(d:Int):=by rw[hd];rfl
              have hdk:d<=k:=by rw[hd];exact Nat.div_le_self _ _
              have hnz:¬(n:Int)=0:=by omega
              obtain⟨x,hx⟩:∃x,V[r]?=some x:=⟨_,zB (by rw[<- HN.out];exact dK)⟩
              obtain⟨lb,lo,dq,_,lbl,cT⟩:=(b7.out.below ai.out).get hx;subst dq;have l0:=cT 0 _ rfl;rw[yC,yA]at l0;have HX:Hid (digL V (ix+1) c=digL V ix c++[x]):=zA (by
               rw[jgD,<- HN.out,<- HK.out,<- hr,List.getD,hx];rfl)
              have HD:Hid (d=c/n^(ix+1)):=zA (by rw[hd,HK.out,Nat.div_div_eq_div_mul,<- Nat.pow_succ]);clear hx cT hr hd;have hrI:(r:Int)<(n:Int):=by omega
              go_wp2_with (at_builtin;refine wpList_append_lies _ rfl _ _ _ rfl wo.heap.size 9 i1 _ 1 16 Tryz.underlying34 cj cP cR cI rfl (by decide) (.slice ta ix tc) _ _ (by rfl) (bm.out.alloc _) ⟨wt.heap.size,0,none⟩ 1 1 [.string ⟨x.toArray⟩] (by rfl) (by rfl) (World.news_of_block (cs:=#[.string ⟨x.toArray⟩]) (t:=9) (fr:=(0,0)) (heap_alloc_new wt _)) (by simp[Value.oneCell']) (by decide) (by unfold maxLen;omega) (by omega) (by simp;omega) (wt.heap.size+1) (by simp) ?_);intro gg al w9 ad ab aj ak;have ba:Below wt.heap.size wt (wt.alloc (.cells #[.string ⟨x.toArray⟩] 9)):=(zF _ _).alloc (zD _) _;have aY:Hid (Below wo.heap.size wo w9):=zA ((ai.out.trans (ba.mono ai.out.size)).grown ab (by simp;omega) (fun k e=>(bm.out.lt k e).1));have aU:Hid (w9.ownsRow wo.heap.size 9 1 (.slice (some ⟨gg,0,none⟩) (ix+1) al) (digL V (ix+1) c).length ((digL V (ix+1) c).flatMap csT)):=zA (by
               rw[jd5,HX.out,zP];exact ad)
              clear ad ab aj ak ba;go_wp2;go_roundw
              case rel=>exact⟨ix+1,d,_,rfl,by omega,by go_num,HD,by omega,by first|rfl|go_num,aU.out,aY.out⟩
              case measure=>simp[intOf];omega
            . have cd:¬(ix:Int)<(s:Int):=by omega
              obtain rfl:ix=s:=by omega
              obtain⟨ae,ao⟩:=eX (digL V ix c);rw[<- ao]at bm;have bl:ae.length=ix:=by rw[ao,jd5]
              have bI:Hid (TxtS (fun _=>True) wt (.slice ta ix tc) ae):=zA ((jaD jfW bm.out bl.symm).sub (fun _ _ _=>trivial));have bw:Hid (ae=digL V ix c):=zA ao;clear ao HK;have au:=zA (aA.out.trans (ai.out.mono aA.out.size));have an:=zA (aw.out.trans (au.out.mono aw.out.size));go_wp2_with fail;go_loopw [17,18] (fun okv iv wr=>∃(i:Nat) (ok:Bool),okv=.bool ok/\i<=na/\iv=.int .i64 i/\Hid (ok=(LP.take i).all (okA fs V NM ae))/\Below wt.heap.size wt wr) (fun _ iv _=>na-(intOf iv).toNat)
              case atStart=>exact⟨0,true,rfl,zO _,rfl,zA (by simp),zF _ _⟩
              case round=>
               obtain⟨e,ok,rfl,he,rfl,ap,ce⟩:=hrel;obtain⟨wq,dD⟩:=eX wr;subst dD;have ah:=zA ce;have hze:wt.heap.size<=wq.heap.size:=ce.size;clear ce;obtain⟨c0,c1⟩:=HC.out _ (an.out.trans (ah.out.mono an.out.size));by_cases hle:e<na
               . have aI:(e:Int)<(na:Int):=by omega
                 have bJ:decide ((e:Int)<(na:Int))=true:=zU aI;cases ok with
                 |true=>
                  obtain⟨a,ha⟩:∃x,AT[e]?=some x:=⟨_,zB (by rw[<- aD.out];exact hle)⟩
                  have aB:=zC ha;have cg:Hid (LP[e]?=some a.pa):=zA (by rw[cq.out,zI,ha];rfl);have cG:=zA (b6.out a aB);obtain⟨g,du,b5,_,dF,ag⟩:=(HA.out.below (jaa (an.out.trans (ah.out.mono an.out.size)))).get ha;subst b5;obtain⟨q0,q1,q2,q3,q4,q5,q6⟩:=getA ag;have am:=zA (cf.out a aB);obtain⟨⟨b1,t1⟩,⟨k,wd,v,l⟩,⟨b2,t2⟩⟩:=a;obtain⟨ka,kc,a3⟩:=am.out.parts.1.slice;dsimp only at a3 q0 q1 q2 q3 q4 q5 q6;subst a3;obtain⟨kn,aZ⟩:=eX l.length;rw[<- aZ]at q4 cg cG;clear ag ha aB aZ am;obtain⟨PT,cL⟩:=eX ((Vt.mk k wd (.slice ka kn kc) l).pt);have aH:Hid (LP[e]?=some ((b1,t1),PT,(b2,t2))):=zA (by rw[cg.out,cL];rfl);have aS:Hid (((b1,t1),PT,(b2,t2))∈LP):=zA (zC aH.out);clear cg cG cL;obtain⟨xw,bH⟩:=eX (valT (b1,t1) NM ae);obtain⟨yw,bY⟩:=eX (valT (b2,t2) NM ae);obtain⟨px,bc⟩:=eX (jaT V xw);obtain⟨py,aX⟩:=eX (jaT V yw);have cl:Hid (∀u,Below wt.heap.size wt u->Calls Tryz.prog 45 #[.agg #[.bool b1,.string ⟨t1.toArray⟩],.slice ma ix mc,.slice ta ix tc] u fun e w'=>e=.returned (.string ⟨xw.toArray⟩)/\Below u.heap.size u w'):=zA (fun u hu=>by
                   rw[bH];exact jff (t:=(b1,t1)) ((((cb.out.below aC.out).below aA.out).below ai.out).below hu) (bI.out.below hu) (by rw[<- HS.out];omega) (by rw[bl,HS.out]) (fun h=>by rw[a0.out];exact jaL.2 ⟨_,aS.out,.inl ⟨h,rfl⟩⟩))
                  have cH:Hid (∀u,Below wt.heap.size wt u->Calls Tryz.prog 45 #[.agg #[.bool b2,.string ⟨t2.toArray⟩],.slice ma ix mc,.slice ta ix tc] u fun e w'=>e=.returned (.string ⟨yw.toArray⟩)/\Below u.heap.size u w'):=zA (fun u hu=>by
                   rw[bY];exact jff (t:=(b2,t2)) ((((cb.out.below aC.out).below aA.out).below ai.out).below hu) (bI.out.below hu) (by rw[<- HS.out];omega) (by rw[bl,HS.out]) (fun h=>by rw[a0.out];exact jaL.2 ⟨_,aS.out,.inr ⟨h,rfl⟩⟩))
                  have cE:Hid (∀u,Below wt.heap.size wt u->Calls Tryz.prog 44 #[.slice la n lc,.string ⟨xw.toArray⟩] u fun e w'=>e=.returned (.int .i64 px)/\w'=u):=zA (fun u hu=>by
                   rw[bc];exact jbu ((b7.out.below ai.out).below hu) (by rw[<- HN.out];omega) xw)
                  have cF:Hid (∀u,Below wt.heap.size wt u->Calls Tryz.prog 44 #[.slice la n lc,.string ⟨yw.toArray⟩] u fun e w'=>e=.returned (.int .i64 py)/\w'=u):=zA (fun u hu=>by
                   rw[aX];exact jbu ((b7.out.below ai.out).below hu) (by rw[<- HN.out];omega) yw)
                  have cJ:Hid (okA fs V NM ae ((b1,t1),PT,(b2,t2))=(decide (0<=px)&&decide (0<=py)&&jaq fs V PT px.toNat py.toNat)):=zA (by
                   rw[bc,aX,bH,bY];rfl)
                  have bA:Hid ((LP.take (e+1)).all (okA fs V NM ae)=(decide (0<=px)&&decide (0<=py)&&jaq fs V PT px.toNat py.toNat)):=zA (by
                   rw[zS,aH.out,List.all_append,<- ap.out];simp only[yQ,List.all_cons,List.all_nil,Bool.and_true,Bool.true_and];exact cJ.out)
                  have dH:Hid ((xw∈V/\∃i,px=((i:Nat):Int)/\i<n)\/px= -1):=zA (by
                   by_cases hm:xw∈V
                   . obtain⟨i,h1,h2⟩:=jbZ hm;exact .inl ⟨hm,i,by rw[bc];exact h1,by rw[HN.out];exact(zE.1 h2).1⟩
                   . exact .inr (by rw[bc];exact jb0 hm))
                  have dM:Hid ((yw∈V/\∃i,py=((i:Nat):Int)/\i<n)\/py= -1):=zA (by
                   by_cases hm:yw∈V
                   . obtain⟨i,h1,h2⟩:=jbZ hm;exact .inl ⟨hm,i,by rw[aX];exact h1,by rw[HN.out];exact(zE.1 h2).1⟩
                   . exact .inr (by rw[aX];exact jb0 hm))
                  clear bc aX bH bY cJ;have b9:Below wq.heap.size wq (wq.alloc (.cells #[.bool b1,.string ⟨t1.toArray⟩,.int .i64 k,.string ⟨wd.toArray⟩,.slice ka kn kc,.bool b2,.string ⟨t2.toArray⟩] 55)):=(zF _ _).alloc (zD _) _;have a5:Hid (Below (wq.alloc (.cells #[.bool b1,.string ⟨t1.toArray⟩,.int .i64 k,.string ⟨wd.toArray⟩,.slice ka kn kc,.bool b2,.string ⟨t2.toArray⟩] 55)).heap.size (wq.alloc (.cells #[.bool b1,.string ⟨t1.toArray⟩,.int .i64 k,.string ⟨wd.toArray⟩,.slice ka kn kc,.bool b2,.string ⟨t2.toArray⟩] 55)) (wq.alloc (.cells #[.bool b1,.string ⟨t1.toArray⟩,.int .i64 k,.string ⟨wd.toArray⟩,.slice ka kn kc,.bool b2,.string ⟨t2.toArray⟩] 55)).drew):=zA (zF _ _).drew;have aN:Hid (∀u,Below (wq.alloc (.cells #[.bool b1,.string ⟨t1.toArray⟩,.int .i64 k,.string ⟨wd.toArray⟩,.slice ka kn kc,.bool b2,.string ⟨t2.toArray⟩] 55)).heap.size (wq.alloc (.cells #[.bool b1,.string ⟨t1.toArray⟩,.int .i64 k,.string ⟨wd.toArray⟩,.slice ka kn kc,.bool b2,.string ⟨t2.toArray⟩] 55)) u->Below wt.heap.size wt u):=zA (fun u hu=>(ah.out.trans (b9.mono ah.out.size)).trans (hu.mono (ah.out.trans (b9.mono ah.out.size)).size));have KS:Hid (∀u,Below (wq.alloc (.cells #[.bool b1,.string ⟨t1.toArray⟩,.int .i64 k,.string ⟨wd.toArray⟩,.slice ka kn kc,.bool b2,.string ⟨t2.toArray⟩] 55)).heap.size (wq.alloc (.cells #[.bool b1,.string ⟨t1.toArray⟩,.int .i64 k,.string ⟨wd.toArray⟩,.slice ka kn kc,.bool b2,.string ⟨t2.toArray⟩] 55)) u->u.cell? ⟨wq.heap.size,0,none⟩=some (.bool b1)/\u.cell? ⟨wq.heap.size,1,none⟩=some (.string ⟨t1.toArray⟩)/\u.cell? ⟨wq.heap.size,5,none⟩=some (.bool b2)/\u.cell? ⟨wq.heap.size,6,none⟩=some (.string ⟨t2.toArray⟩)):=zA (fun u hu=>by
                   have h:=(hu.block wq.heap.size (by simp)).trans (heap_alloc_new wq (.cells #[.bool b1,.string ⟨t1.toArray⟩,.int .i64 k,.string ⟨wd.toArray⟩,.slice ka kn kc,.bool b2,.string ⟨t2.toArray⟩] 55));exact jfZ h)
                  clear b9;go_wp2_with fail;refine wp_region_held_drew (S:=fun u=>u.cell? ⟨wq.heap.size,0,none⟩=some (.bool b1)/\u.cell? ⟨wq.heap.size,1,none⟩=some (.string ⟨t1.toArray⟩)/\u.cell? ⟨wq.heap.size,5,none⟩=some (.bool b2)/\u.cell? ⟨wq.heap.size,6,none⟩=some (.string ⟨t2.toArray⟩)) (by kernel_rfl) ?_ (fun hHeld=>?_)
                  . exact KS.out _ a5.out
                  refine tkH (i:=0) (oi:=⟨some 102,.move (.tmp 6),34, "ref.go:219",#[],none⟩) (v:=?_) rfl ?_ hHeld ?_;rotate_left 1
                  . rintro W ⟨s0,s1,s5,s6⟩;go_simp;try with_reducible rfl
                  simp only[Act.put,zIB,zSZ,zSS];refine tkH (i:=1) (oi:=⟨some 103,.fieldAddr 55 (.tmp 19) 0,0, "ref.go:219",#[],none⟩) (v:=?_) rfl ?_ hHeld ?_;rotate_left 1
                  . rintro W ⟨s0,s1,s5,s6⟩;go_simp;try with_reducible rfl
                  simp only[Act.put,zIB,zSZ,zSS];refine tkH (i:=2) (oi:=⟨some 104,.load 53 (.tmp 103),53, "ref.go:219",#[⟨1,.data⟩],none⟩) (v:=?_) rfl ?_ hHeld ?_;rotate_left 1
                  . rintro W ⟨s0,s1,s5,s6⟩;go_simp;try with_reducible rfl
                  simp only[Act.put,zIB,zSZ,zSS];refine tkH (i:=3) (oi:=⟨some 105,.move (.tmp 7),34, "ref.go:219",#[],none⟩) (v:=?_) rfl ?_ hHeld ?_;rotate_left 1
                  . rintro W ⟨s0,s1,s5,s6⟩;go_simp;try with_reducible rfl
                  simp only[Act.put,zIB,zSZ,zSS];refine tkH (i:=4) (oi:=⟨some 106,.move (.tmp 14),34, "ref.go:219",#[],none⟩) (v:=?_) rfl ?_ hHeld ?_;rotate_left 1
                  . rintro W ⟨s0,s1,s5,s6⟩;go_simp;try with_reducible rfl
                  simp only[Act.put,zIB,zSZ,zSS];refine tkH (i:=7) (oi:=⟨some 109,.move (.tmp 6),34, "ref.go:219",#[],none⟩) (v:=?_) rfl ?_ hHeld ?_;rotate_left 1
                  . rintro W ⟨s0,s1,s5,s6⟩;go_simp;try with_reducible rfl
                  simp only[Act.put,zIB,zSZ,zSS];refine tkH (i:=8) (oi:=⟨some 110,.fieldAddr 55 (.tmp 19) 2,0, "ref.go:219",#[],none⟩) (v:=?_) rfl ?_ hHeld ?_;rotate_left 1
                  . rintro W ⟨s0,s1,s5,s6⟩;go_simp;try with_reducible rfl
                  simp only[Act.put,zIB,zSZ,zSS];refine tkH (i:=9) (oi:=⟨some 111,.load 53 (.tmp 110),53, "ref.go:219",#[⟨8,.data⟩],none⟩) (v:=?_) rfl ?_ hHeld ?_;rotate_left 1
                  . rintro W ⟨s0,s1,s5,s6⟩;go_simp;try with_reducible rfl
                  simp only[Act.put,zIB,zSZ,zSS];refine tkH (i:=10) (oi:=⟨some 112,.move (.tmp 7),34, "ref.go:219",#[],none⟩) (v:=?_) rfl ?_ hHeld ?_;rotate_left 1
                  . rintro W ⟨s0,s1,s5,s6⟩;go_simp;try with_reducible rfl
                  simp only[Act.put,zIB,zSZ,zSS];refine tkH (i:=11) (oi:=⟨some 113,.move (.tmp 14),34, "ref.go:219",#[],none⟩) (v:=?_) rfl ?_ hHeld ?_;rotate_left 1
                  . rintro W ⟨s0,s1,s5,s6⟩;go_simp;try with_reducible rfl
                  simp only[Act.put,zIB,zSZ,zSS];refine rdH (k:=5) (o:=⟨some 107,.call { callee:=.value (.func 45),args:=#[.tmp 104,.tmp 105,.tmp 106],argTypes:=#[53,34,34] },9, "ref.go:219",#[⟨2,.data⟩,⟨3,.data⟩,⟨4,.data⟩],none⟩) rfl (fun K hK=>?_);go_simp;refine(cl.out _ (aN.out _ a5.out)).mono ?_;rintro e w5 ⟨rfl,cK⟩;have aG:=zA (a5.out.trans (cK.mono a5.out.size));clear cK;refine hK.out _ _ (KS.out _ aG.out) (fun hHeld=>?_);clear hK K;refine rdH (k:=6) (o:=⟨some 108,.call { callee:=.value (.func 44),args:=#[.tmp 102,.tmp 107],argTypes:=#[34,9] },3, "ref.go:219",#[⟨0,.data⟩,⟨5,.data⟩,⟨5,.chain⟩],none⟩) rfl (fun K hK=>?_);go_simp;refine(cE.out _ (aN.out _ aG.out)).mono ?_;rintro e w6 ⟨rfl,a2⟩;rw[a2];clear a2;refine hK.out _ _ (KS.out _ aG.out) (fun hHeld=>?_);clear hK K;refine rdH (k:=12) (o:=⟨some 114,.call { callee:=.value (.func 45),args:=#[.tmp 111,.tmp 112,.tmp 113],argTypes:=#[53,34,34] },9, "ref.go:219",#[⟨9,.data⟩,⟨10,.data⟩,⟨11,.data⟩,⟨6,.chain⟩],none⟩) rfl (fun K hK=>?_);go_simp;refine(cH.out _ (aN.out _ aG.out)).mono ?_;rintro e w7 ⟨rfl,cD⟩;have bk:=zA (aG.out.trans (cD.mono aG.out.size));clear cD;refine hK.out _ _ (KS.out _ bk.out) (fun hHeld=>?_);clear hK K;refine rdH (k:=13) (o:=⟨some 115,.call { callee:=.value (.func 44),args:=#[.tmp 109,.tmp 114],argTypes:=#[34,9] },3, "ref.go:219",#[⟨7,.data⟩,⟨12,.data⟩,⟨12,.chain⟩],none⟩) rfl (fun K hK=>?_);go_simp;refine(cF.out _ (aN.out _ bk.out)).mono ?_;rintro e w8 ⟨rfl,cC⟩;rw[cC];clear cC;refine hK.out _ _ (KS.out _ bk.out) (fun hHeld=>?_);clear hK K;refine tkH (i:=14) (oi:=⟨some 20,.assign (.tmp 108),3, "ref.go:219",#[⟨6,.data⟩,⟨13,.chain⟩,⟨0,.phase⟩,⟨1,.phase⟩,⟨2,.phase⟩,⟨3,.phase⟩,⟨4,.phase⟩,⟨5,.phase⟩,⟨6,.phase⟩,{ on:=7,ground:=.textOnly .lateStores },{ on:=8,ground:=.textOnly .lateStores },{ on:=9,ground:=.textOnly .lateStores },{ on:=10,ground:=.textOnly .lateStores },{ on:=11,ground:=.textOnly .lateStores },{ on:=12,ground:=.textOnly .lateStoresUnsure },{ on:=13,ground:=.textOnly .lateStoresUnsure }],none⟩) (v:=?_) rfl ?_ hHeld ?_;rotate_left 1
                  . rintro W ⟨s0,s1,s5,s6⟩;go_simp;try with_reducible rfl
                  simp only[Act.put,zIB,zSZ,zSS];refine tkH (i:=15) (oi:=⟨some 21,.assign (.tmp 115),3, "ref.go:219",#[⟨13,.data⟩,⟨14,.chain⟩,⟨0,.phase⟩,⟨1,.phase⟩,⟨2,.phase⟩,⟨3,.phase⟩,⟨4,.phase⟩,⟨5,.phase⟩,⟨6,.phase⟩,⟨7,.phase⟩,⟨8,.phase⟩,⟨9,.phase⟩,⟨10,.phase⟩,⟨11,.phase⟩,⟨12,.phase⟩,⟨13,.phase⟩,⟨14,.phase⟩],none⟩) (v:=?_) rfl ?_ hHeld ?_;rotate_left 1
                  . rintro W ⟨s0,s1,s5,s6⟩;go_simp;try with_reducible rfl
                  simp only[Act.put,zIB,zSZ,zSS];refine wpAnyH_done (by kernel_rfl) ?_ _;have ar:=zA (aN.out _ bk.out);clear KS a5 aN aG cl cH cE cF hHeld;rcases dH.out with⟨_,xi,bp,dI⟩|bp
                  . rcases dM.out with⟨_,yi,bE,c9⟩|bE
                    . subst bp bE;obtain⟨vm,az⟩:∃vm,ms[e]?=some (vm,jaq fs V PT):=by
                       have h1:(ms.map (·.2))[e]?=some (jaq fs V PT):=by rw[df.out,zI,aH.out];rfl
                       rw[zI,Option.map_eq_some_iff]at h1;obtain⟨⟨vm,M⟩,h2,h3⟩:=h1;dsimp only at h3;subst h3;exact⟨vm,h2⟩
                      obtain⟨mb,mo,c7,mbl,m0,hM⟩:=(dO.out.below (au.out.trans (ar.out.mono au.out.size))).at_ az;subst c7;obtain⟨gs2,bj⟩:=hM;obtain⟨ma2,mc2,aT⟩:=bj.sl.slice;rw[bj.len]at aT;subst aT;obtain⟨mb2,mo2,g2,bN,_,_,m1,_,mr⟩:=bj.at_ dI;subst bN;obtain⟨m2,_⟩:=mr yi c9;obtain⟨z,hz⟩:=eX (jaq fs V PT xi yi);rw[<- hz]at m2;have bb:Hid (z=(LP.take (e+1)).all (okA fs V NM ae)):=zA (by
                       rw[bA.out,Int.toNat_natCast,Int.toNat_natCast,<- hz];simp)
                      have heu:(e:Int)<(nu:Int):=by have:=aQ.out;omega
                      have hxnI:(xi:Int)<(n:Int):=by omega
                      have hynI:(yi:Int)<(n:Int):=by omega
                      have dE:decide ((0:Int)<=(xi:Int))=true:=zU (by omega);have hy0':decide ((0:Int)<=(yi:Int))=true:=zU (by omega);clear az bj mr hz;go_wp2;go_roundw
                      case rel=>exact⟨e+1,z,rfl,by omega,by go_num,bb,ar.out⟩
                      case measure=>simp[intOf];omega
                    . subst bp bE;have bb:Hid (false=(LP.take (e+1)).all (okA fs V NM ae)):=zA (by
                       rw[bA.out];simp)
                      have dE:decide ((0:Int)<=(xi:Int))=true:=zU (by omega);go_wp2;go_roundw
                      case rel=>exact⟨e+1,false,rfl,by omega,by go_num,bb,ar.out⟩
                      case measure=>simp[intOf];omega
                  . subst bp;have bb:Hid (false=(LP.take (e+1)).all (okA fs V NM ae)):=zA (by
                     rw[bA.out];simp)
                    go_wp2;go_roundw
                    case rel=>exact⟨e+1,false,rfl,by omega,by go_num,bb,ar.out⟩
                    case measure=>simp[intOf];omega
                 |false=>
                  have a7:Hid (jba fs V NM VR LP (c+1)=jba fs V NM VR LP c):=zA (by
                   rw[jba,if_neg];rw[<- HS.out,<- bw.out];intro aE;have:=ap.out;rw[yF.2 (fun a ha=>yF.1 aE a (List.mem_of_mem_take ha))]at this;cases this)
                  have bW:Hid (jbq wq uo (jba fs V NM VR LP (c+1))):=zA (by rw[a7.out];exact(aP.out.below ai.out).below ah.out);have a1:Hid (Below wx.heap.size wx wq):=zA (au.out.trans (ah.out.mono au.out.size));go_wp2;go_roundw
                  case rel=>exact⟨c+1,uo,rfl,by omega,by go_num,bW.out,a1.out⟩
                  case measure=>simp[intOf];omega
               . have aI:¬(e:Int)<(na:Int):=by omega
                 have bJ:decide ((e:Int)<(na:Int))=false:=decide_eq_false aI;cases ok with
                 |false=>
                  have a7:Hid (jba fs V NM VR LP (c+1)=jba fs V NM VR LP c):=zA (by
                   rw[jba,if_neg];rw[<- HS.out,<- bw.out];intro aE;have:=ap.out;rw[yF.2 (fun a ha=>yF.1 aE a (List.mem_of_mem_take ha))]at this;cases this)
                  have bW:Hid (jbq wq uo (jba fs V NM VR LP (c+1))):=zA (by rw[a7.out];exact(aP.out.below ai.out).below ah.out);have a1:Hid (Below wx.heap.size wx wq):=zA (au.out.trans (ah.out.mono au.out.size));go_wp2;go_roundw
                  case rel=>exact⟨c+1,uo,rfl,by omega,by go_num,bW.out,a1.out⟩
                  case measure=>simp[intOf];omega
                 |true=>
                  have a7:Hid (jba fs V NM VR LP (c+1)=putL jaE (jba fs V NM VR LP c) (rowC NM VR ae)):=zA (by
                   rw[jba,<- HS.out,<- bw.out,if_pos];rw[ap.out,zJ (by rw[<- bq.out];omega)])
                  have dp:=zA (bI.out.below ah.out);have dx:=zA ((((cb.out.below aC.out).below aA.out).below ai.out).below ah.out);have dg:=zA (bM.out.below (jaa (an.out.trans (ah.out.mono an.out.size))));have c4:=zA ((aP.out.below ai.out).below ah.out);have dj:Hid (∀wr,Below wq.heap.size wq wr->wr.cell? ⟨w.heap.size,0,none⟩=some (.slice va nv vc)):=zA (fun wr hb=>((HC.out _ ((an.out.trans (ah.out.mono an.out.size)).trans (hb.mono (an.out.trans (ah.out.mono an.out.size)).size))).1));go_wp2_with fail;go_loopw [22,23] (fun vl iv wr=>∃(i:Nat) (u:Value),u=vl/\i<=nv/\iv=.int .i64 i/\wr.ownsRow wq.heap.size 9 1 u (rowC NM (VR.take i) ae).length ((rowC NM (VR.take i) ae).flatMap csT)/\Below wq.heap.size wq wr) (fun _ iv _=>nv-(intOf iv).toNat)
                  case atStart=>exact⟨0,.slice none 0 0,rfl,zO _,rfl,World.ownsRow_nil _ _ _ _,zF _ _⟩
                  case round=>
                   clear c0 c1;obtain⟨y,u,rfl,hy,rfl,af,b4⟩:=hrel;obtain⟨wy,dA⟩:=eX wr;subst dA;have br:(rowC NM (VR.take y) ae).length=y:=by rw[rowC,zH,zX,<- bu.out];omega
                   rw[br]at af;obtain⟨ra,rc,hu⟩:=jab af;subst hu;have bL:=zA af;have ay:=zA b4;have hzy:wq.heap.size<=wy.heap.size:=b4.size;clear af b4;have c0:=dj.out _ ay.out;by_cases hly:y<nv
                   . have bX:(y:Int)<(nv:Int):=by omega
                     obtain⟨x,hx⟩:∃x,VR[y]?=some x:=⟨_,zB (by rw[<- bu.out];exact hly)⟩
                     obtain⟨vb,vo,c2,_,_,cS⟩:=(dg.out.below ay.out).get hx;subst c2;have v0:=cS 0 _ rfl;rw[yC,yA]at v0;obtain⟨pp,bU,aL⟩:=jbZ (dc.out x (zC hx));have c8:pp<ix:=by rw[HS.out];exact(zE.1 aL).1
                     obtain⟨z,hz⟩:∃z,ae[pp]?=some z:=⟨_,zB (by rw[bl];exact c8)⟩
                     obtain⟨tb,tqq,dP,_,_,cW⟩:=(dp.out.below ay.out).get hz;subst dP;have t0:=cW 0 _ rfl;rw[yC,yA]at t0;have CP:Hid (Calls Tryz.prog 44 #[.slice ma ix mc,.string ⟨x.toArray⟩] wy fun e w'=>e=.returned (.int .i64 (pp:Int))/\w'=wy):=zA (by
                      rw[<- bU];exact jbu (dx.out.below ay.out) (by rw[<- HS.out];omega) x)
                     have HX:Hid (rowC NM (VR.take (y+1)) ae=rowC NM (VR.take y) ae++[z]):=zA (by
                      rw[zS,hx];simp only[rowC,yQ,yG,List.map_cons,List.map_nil];rw[bU,Int.toNat_natCast,List.getD,hz];rfl)
                     have hplI:(pp:Int)<(ix:Int):=by omega
                     clear hx cS bU aL hz cW;go_wp2_with fail;refine CP.out.mono ?_;rintro e9 w6 ⟨rfl,a2⟩;rw[a2];clear a2;go_wp2_with (at_builtin;refine wpList_append_lies _ rfl _ _ _ rfl wq.heap.size 9 i1 _ 1 16 Tryz.underlying34 cj cP cR cI rfl (by decide) (.slice ra y rc) _ _ (by rfl) (bL.out.alloc _) ⟨wy.heap.size,0,none⟩ 1 1 [.string ⟨z.toArray⟩] (by rfl) (by rfl) (World.news_of_block (cs:=#[.string ⟨z.toArray⟩]) (t:=9) (fr:=(0,0)) (heap_alloc_new wy _)) (by simp[Value.oneCell']) (by decide) (by unfold maxLen;omega) (by omega) (by simp;omega) (wy.heap.size+1) (by simp) ?_);intro gg al w9 ad ab aj ak;have ba:Below wy.heap.size wy (wy.alloc (.cells #[.string ⟨z.toArray⟩] 9)):=(zF _ _).alloc (zD _) _;have aY:Hid (Below wq.heap.size wq w9):=zA ((ay.out.trans (ba.mono ay.out.size)).grown ab (by simp;omega) (fun k e=>(bL.out.lt k e).1));have aU:Hid (w9.ownsRow wq.heap.size 9 1 (.slice (some ⟨gg,0,none⟩) (y+1) al) (rowC NM (VR.take (y+1)) ae).length ((rowC NM (VR.take (y+1)) ae).flatMap csT)):=zA (by
                      rw[HX.out,zG,br,zP];exact ad)
                     clear ad ab aj ak ba;go_wp2;go_roundw
                     case rel=>exact⟨y+1,_,rfl,by omega,by go_num,aU.out,aY.out⟩
                     case measure=>simp[intOf];omega
                   . have bX:¬(y:Int)<(nv:Int):=by omega
                     have cm:Hid (rowC NM (VR.take y) ae=rowC NM VR ae):=zA (by rw[zJ (by rw[<- bu.out];omega)]);have dt:Hid (TxtS (fun _=>True) wy (.slice ra y rc) (rowC NM VR ae)):=zA (by
                      rw[<- cm.out];exact(jaD jfW bL.out br.symm).sub (fun _ _ _=>trivial))
                     have dL:Hid (Calls Tryz.prog 46 #[uo,.slice ra y rc] wy fun e w'=>∃v',e=.returned v'/\jbq w' v' (jba fs V NM VR LP (c+1))/\Below wy.heap.size wy w'):=zA (by
                      rw[a7.out];exact jhx (c4.out.below ay.out) (by have:=jgY fs V NM VR LP c;omega) (jcJ ..) dt.out (by rw[<- cm.out,br];omega))
                     go_wp2_with fail;refine dL.out.mono ?_;rintro e9 w9 ⟨v9,rfl,cV,cy⟩;have aU:=zA cV;have a1:Hid (Below wx.heap.size wx w9):=zA (by
                      have h1:=au.out.trans (ah.out.mono au.out.size);have h2:=h1.trans (ay.out.mono h1.size);exact h2.trans (cy.mono h2.size))
                     clear cV cy;go_wp2;go_roundw
                     case rel=>exact⟨c+1,v9,rfl,by omega,by go_num,aU.out,a1.out⟩
                     case measure=>simp[intOf];omega
         . have bZ:¬(c:Int)<(p:Int):=by omega
           obtain rfl:c=p:=by omega
           obtain⟨cA,aV⟩:=eX (jba fs V NM VR LP c);rw[<- aV]at aP bh aq;clear aV;have dr:=aP.out;obtain⟨rs,ck,a8⟩:=dr;obtain⟨ra,rc,b3,_⟩:=ck.cap;have da:Hid (rs.length=cA.length):=zA (by rw[<- a8,zH]);rw[da.out]at b3;obtain⟨no,cZ⟩:=eX cA.length;rw[<- cZ]at b3 bh aq;subst b3;clear ck a8 cZ;by_cases h4:(4096:Int)<(no:Int)
           . have aW:4096<no:=by omega
             go_wp2;go_ret2;exact⟨.slice none 0 0,by rw[aq.out,if_pos aW];rfl,by rw[bh.out,if_pos aW];exact jbR _,jaa (aw.out.trans (aA.out.mono aw.out.size))⟩
           . have aW:¬ 4096<no:=by omega
             go_wp2;go_ret2;exact⟨_,by rw[aq.out,if_neg aW];rfl,by rw[bh.out,if_neg aW];exact aP.out,jaa (aw.out.trans (aA.out.mono aw.out.size))⟩
end Go.Proofs.YtkbgmcmcpbegjaaGreatDoor
