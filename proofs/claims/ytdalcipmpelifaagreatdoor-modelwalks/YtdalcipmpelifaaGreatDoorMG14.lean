/- QMay. -/
import Derived.Test.YtdalcipmpelifaaGreatDoorMG13
set_option maxRecDepth 100000
namespace Go.Proofs.YtdalcipmpelifaaGreatDoor
open Go.RowKit
structure Rq where
 kind:Int
 vars:List (List UInt8)
 atoms:List Pa
 chgs:List Cg
def Rm.rq(r:Rm):Rq:=⟨r.kind,r.q.vars,r.q.atoms.map Am.pa,r.chgs⟩
def wordsA(a:Pa):Bool:=isW a.1.2&&isW a.2.2.2
def wordsC(c:Cg):Bool:=isW c.2.1&&isW c.2.2.1&&isW c.2.2.2
def mayQ(vars:List (List UInt8))(l:List Pa):Bool:=decide (vars.length≠0)&&decide (l.length≠0)&&decide (whyQ vars l=0)&&l.all wordsA
def mayC(l:List Cg):Bool:=decide (l.length≠0)&&decide (l.length<=64)&&l.all wordsC
def mayRq(r:Rq):Bool:=if r.kind=1 then decide (r.chgs.length=0)&&mayQ r.vars r.atoms else if r.kind=2 then decide (r.vars.length=0)&&decide (r.atoms.length=0)&&mayC r.chgs else false
theorem all_step{α:Type}{f:α->Bool}{l:List α}{i:Nat}{a:α}(h:l[i]?=some a)(ha:∀x∈l.take i,f x=true)(hm:f a=true):∀x∈l.take (i+1),f x=true:=by
 intro y hy;rw[zT,h]at hy;rcases zN.1 hy with hy|hy
 . exact ha y hy
 . simp at hy;subst hy;exact hm
set_option maxHeartbeats 4000000 in
theorem queryMayBe_any{S:Nat->Prop}{w:World}{q:Qm}(h:QOk S w q):
 Calls Tryz.prog 68 #[encQ q] w fun e w'=>e=.returned (.bool (mayQ q.vars (q.atoms.map Am.pa)))/\Below w.heap.size w w':=by
 obtain⟨va,vc,hvv,hvc⟩:=h.vcap;obtain⟨ao,cap,hv⟩:=h.ats.slice;have hvl:=h.vl;have hal:=h.al;have HQ:=zA (fun u (hu:Below w.heap.size w u)=>queryFault_any (h.below hu));obtain⟨vv,vars,av,atoms⟩:=q;dsimp only at hvv hvc hv hvl hal HQ ⊢;subst hvv hv;have H:=zA h;obtain⟨ans,hans⟩:∃a,a=mayQ vars (atoms.map Am.pa):=⟨_,rfl⟩
 rw[<- hans];have HA:=zA hans;obtain⟨n,hn⟩:∃n,n=atoms.length:=⟨_,rfl⟩
 rw[<- hn]at hal H HQ ⊢;have HN:=zA hn;obtain⟨nv,hnv⟩:∃nv,nv=vars.length:=⟨_,rfl⟩
 rw[<- hnv]at hvl hvc H HQ ⊢;have HNV:=zA hnv;obtain⟨o,ho⟩:∃o,o=Obj.cells #[.slice va nv vc,.slice ao n cap] 47:=⟨_,rfl⟩
 have HO:=zA ho;have HB:Hid (∀a:Obj,Below w.heap.size w (w.alloc a)):=zA (fun a=>(zF _ _).alloc (zD _) _);have HC:Hid (∀wr,Below (w.alloc o).heap.size (w.alloc o) wr->wr.cell? ⟨w.heap.size,0,none⟩=some (.slice va nv vc)/\wr.cell? ⟨w.heap.size,1,none⟩=some (.slice ao n cap)):=zA (fun wr hb=>by
  have h:=box_keptQ hb;rw[HO.out]at h;exact⟨by simp[World.cell?,h],by simp[World.cell?,h]⟩)
 clear h hn hnv ho hans;by_cases h0:nv=0
 . have HF:Hid (ans=false):=zA (by rw[HA.out,mayQ,<- HNV.out,h0];rfl);subst h0;go_enter Tryz.func68,Tryz.ntmps68;go_wp2;go_ret;exact⟨by rw[HF.out];rfl,HB.out _⟩
 . obtain⟨e1,e2⟩:=not_both (a:=(nv:Int)) (b:=0) (by omega);have HV0:Hid (decide (vars.length≠0)=true):=zA (yC (by rw[<- HNV.out];exact h0));clear h0;by_cases h1:n=0
   . have HF:Hid (ans=false):=zA (by rw[HA.out,mayQ,zH,<- HN.out,h1];simp);subst h1;go_enter Tryz.func68,Tryz.ntmps68;go_wp2;go_ret;exact⟨by rw[HF.out];rfl,HB.out _⟩
   . obtain⟨e3,e4⟩:=not_both (a:=(n:Int)) (b:=0) (by omega);have HN0:Hid (decide ((atoms.map Am.pa).length≠0)=true):=zA (yC (by rw[zH,<- HN.out];exact h1));clear h1;obtain⟨y,hy⟩:∃y,y=whyQ vars (atoms.map Am.pa):=⟨_,rfl⟩
     have HQ1:=zA (HQ.out (w.alloc o) (HB.out _));rw[<- hy]at HQ1;have HY:=zA hy;clear hy;by_cases hy0:y=0
     . have HY0:=zA (show whyQ vars (atoms.map Am.pa)=0 by rw[<- HY.out];exact hy0);subst hy0;go_enter Tryz.func68,Tryz.ntmps68;go_wp2_with fail;rw[<- HO.out];refine HQ1.out.mono ?_;rintro e w2 ⟨rfl,hb2⟩;obtain⟨c0,c1⟩:=HC.out _ hb2;have HB2:=zA hb2;clear hb2;go_wp2_with fail;go_loopw [23] (fun c wr=>∃i:Nat,i<=n/\c=.int .i64 i/\(∀x∈(atoms.map Am.pa).take i,wordsA x=true)/\Below (w.alloc o).heap.size (w.alloc o) wr) (fun c _=>n-(intOf c).toNat)
       case atStart=>exact⟨0,zS _,rfl,by simp,HB2.out⟩
       case round=>
        obtain⟨i,hi,rfl,hall,hbq⟩:=hrel;have HAll:=zA hall;have HBQ:=zA hbq;clear hall hbq;by_cases hlt:i<n
        . have hltI:(i:Int)<(n:Int):=by omega
          obtain⟨a,ha⟩:∃a,atoms[i]?=some a:=⟨_,zB (by rw[<- HN.out];exact hlt)⟩
          obtain⟨g,off,rfl,_,_,hcell⟩:=(H.out.ats.below (below_boxQ HBQ.out)).get ha;obtain⟨q0,q1,q2,q3,q4,q5,q6⟩:=getA hcell;have hmem:=zC ha;obtain⟨xa,xc,hxv⟩:=(H.out.ok a hmem).parts.1.slice;obtain⟨wx,hwx⟩:∃wx,wx=wr:=⟨_,rfl⟩
          subst hwx;have HBa:Hid (∀ob:Obj,Below (w.alloc o).heap.size (w.alloc o) (wx.alloc ob)):=zA (fun ob=>HBQ.out.alloc HBQ.out.size _);obtain⟨nx,hnx⟩:∃nx,nx=a.2.1.kids.length:=⟨_,rfl⟩
          rw[<- hnx]at hxv;have HXA:Hid ((atoms.map Am.pa)[i]?=some a.pa):=zA (by rw[zI,ha];rfl);have HXM:Hid (a.pa∈atoms.map Am.pa):=zA (zU hmem);have I1:=zA (isQ_any a.1.2);have I2:=zA (isQ_any a.2.2.2);have HWA:Hid (wordsA a.pa=(isW a.1.2&&isW a.2.2.2)):=zA rfl;obtain⟨m1,hm1⟩:∃m,m=isW a.1.2:=⟨_,rfl⟩
          obtain⟨m2,hm2⟩:∃m,m=isW a.2.2.2:=⟨_,rfl⟩
          rw[<- hm1]at I1 HWA;rw[<- hm2]at I2 HWA;have HNO:Hid (wordsA a.pa=false->ans=false):=zA (fun hn=>by
           rw[HA.out,mayQ];have:(atoms.map Am.pa).all wordsA=false:=List.all_eq_false.2 ⟨a.pa,HXM.out,by rw[hn];decide⟩;rw[this];simp)
          have HYES:Hid (wordsA a.pa=true->∀x∈(atoms.map Am.pa).take (i+1),wordsA x=true):=zA (fun hn=>all_step HXA.out HAll.out hn);clear ha hcell hmem hnx hm1 hm2;obtain⟨W,hW⟩:∃W,W=wordsA a.pa:=⟨_,rfl⟩
          rw[<- hW]at HWA HNO HYES;obtain⟨⟨b1,n1⟩,⟨xk,xw,xv,xl⟩,⟨b2,n2⟩⟩:=a;dsimp only at q0 q1 q2 q3 q4 q5 q6 hxv I1 I2;subst hxv;clear hW;cases m1 with
          |false=>
           have HF:=zA (HNO.out (by rw[HWA.out];rfl));go_wp2_with fail;refine(I1.out _).mono ?_;rintro e w3 ⟨rfl,hw⟩;subst hw;go_wp2;go_ret;exact⟨by rw[HF.out];rfl,below_boxQ (HBa.out _)⟩
          |true=>
           cases m2 with
           |false=>
            have HF:=zA (HNO.out (by rw[HWA.out];rfl));go_wp2_with fail;refine(I1.out _).mono ?_;rintro e w3 ⟨rfl,hw⟩;subst hw;go_wp2_with fail;refine(I2.out _).mono ?_;rintro e w3 ⟨rfl,hw⟩;subst hw;go_wp2;go_ret;exact⟨by rw[HF.out];rfl,below_boxQ (HBa.out _)⟩
           |true=>
            have HA2:=zA (HYES.out (by rw[HWA.out];rfl));go_wp2_with fail;refine(I1.out _).mono ?_;rintro e w3 ⟨rfl,hw⟩;subst hw;go_wp2_with fail;refine(I2.out _).mono ?_;rintro e w3 ⟨rfl,hw⟩;subst hw;go_wp2;go_roundw
            case rel=>exact⟨i+1,by omega,by go_num,HA2.out,HBa.out _⟩
            case measure=>simp[intOf];omega
        . have hltI:¬(i:Int)<(n:Int):=by omega
          have HF:Hid (ans=true):=zA (by
           have:(atoms.map Am.pa).all wordsA=true:=yJ.2 (fun x hx=>HAll.out x (by
            rw[zK (by rw[zH,<- HN.out];omega)];exact hx))
           rw[HA.out,mayQ,HV0.out,HN0.out,HY0.out,this];rfl)
          go_wp2;go_ret;exact⟨by rw[HF.out];rfl,below_boxQ HBQ.out⟩
     . obtain⟨e5,e6⟩:=not_both (a:=(y:Int)) (b:=0) (by omega);have HF:Hid (ans=false):=zA (by
        rw[HA.out,mayQ,<- HY.out,decide_eq_false hy0];simp)
       clear hy0;go_enter Tryz.func68,Tryz.ntmps68;go_wp2_with fail;rw[<- HO.out];refine HQ1.out.mono ?_;rintro e w2 ⟨rfl,hb2⟩;go_wp2;go_ret;exact⟨by rw[HF.out];rfl,below_boxQ hb2⟩
set_option maxHeartbeats 4000000 in
theorem batchMayBe_any{S:Nat->Prop}{w:World}{v:Value}{l:List Cg}(h:CgsS S w v l)(hcl:l.length<=9223372036854775807):
 Calls Tryz.prog 69 #[v] w fun e w'=>e=.returned (.bool (mayC l))/\Below w.heap.size w w':=by
 obtain⟨ca,cc,rfl⟩:=h.slice;have H:=zA h;obtain⟨n,hn⟩:∃n,n=l.length:=⟨_,rfl⟩
 rw[<- hn]at hcl H ⊢;have HN:=zA hn;obtain⟨ans,hans⟩:∃a,a=mayC l:=⟨_,rfl⟩
 rw[<- hans];have HA:=zA hans;clear h hn hans;by_cases h0:n=0
 . have HF:Hid (ans=false):=zA (by rw[HA.out,mayC,<- HN.out,h0];rfl);subst h0;go_enter Tryz.func69,Tryz.ntmps69;go_wp2;go_ret;exact⟨by rw[HF.out];rfl,zF _ _⟩
 . obtain⟨e1,e2⟩:=not_both (a:=(n:Int)) (b:=0) (by omega);have HV0:Hid (decide (l.length≠0)=true):=zA (yC (by rw[<- HN.out];exact h0));clear h0;have HBF:=zA (fun u=>batchFault_any u ca n cc hcl);by_cases h64:64<n
   . rw[if_pos h64]at HBF;have HF:Hid (ans=false):=zA (by rw[HA.out,mayC,<- HN.out,decide_eq_false (show ¬n<=64 by omega)];simp);clear h64;go_enter Tryz.func69,Tryz.ntmps69;go_wp2_with fail;refine(HBF.out _).mono ?_;rintro e w3 ⟨rfl,hw⟩;subst hw;go_wp2;go_ret;exact⟨by rw[HF.out];rfl,zF _ _⟩
   . rw[if_neg h64]at HBF;have H64:Hid (decide (l.length<=64)=true):=zA (yC (by rw[<- HN.out];omega));clear h64;go_enter Tryz.func69,Tryz.ntmps69;go_wp2_with fail;refine(HBF.out _).mono ?_;rintro e w3 ⟨rfl,hw⟩;subst hw;obtain⟨w,hw⟩:∃w,w=w3:=⟨_,rfl⟩
     subst hw;go_wp2_with fail;go_loopw [15] (fun c wr=>∃i:Nat,i<=n/\c=.int .i64 i/\(∀x∈l.take i,wordsC x=true)/\Below w.heap.size w wr) (fun c _=>n-(intOf c).toNat)
     case atStart=>exact⟨0,zS _,rfl,by simp,zF _ _⟩
     case round=>
      obtain⟨i,hi,rfl,hall,hbq⟩:=hrel;have HAll:=zA hall;have HBQ:=zA hbq;clear hall hbq;by_cases hlt:i<n
      . have hltI:(i:Int)<(n:Int):=by omega
        obtain⟨a,ha⟩:∃a,l[i]?=some a:=⟨_,zB (by rw[<- HN.out];exact hlt)⟩
        obtain⟨g,off,rfl,_,_,hcell⟩:=(H.out.below HBQ.out).get ha;obtain⟨q0,q1,q2,q3⟩:=getC hcell;have hmem:=zC ha;obtain⟨wx,hwx⟩:∃wx,wx=wr:=⟨_,rfl⟩
        subst hwx;have HBa:Hid (∀ob:Obj,Below w.heap.size w (wx.alloc ob)):=zA (fun ob=>HBQ.out.alloc HBQ.out.size _);have HXA:=zA ha;have HXM:=zA hmem;have I1:=zA (isQ_any a.2.1);have I2:=zA (isQ_any a.2.2.1);have I3:=zA (isQ_any a.2.2.2);have HWA:Hid (wordsC a=(isW a.2.1&&isW a.2.2.1&&isW a.2.2.2)):=zA rfl;obtain⟨m1,hm1⟩:∃m,m=isW a.2.1:=⟨_,rfl⟩
        obtain⟨m2,hm2⟩:∃m,m=isW a.2.2.1:=⟨_,rfl⟩
        obtain⟨m3,hm3⟩:∃m,m=isW a.2.2.2:=⟨_,rfl⟩
        rw[<- hm1]at I1 HWA;rw[<- hm2]at I2 HWA;rw[<- hm3]at I3 HWA;have HNO:Hid (wordsC a=false->ans=false):=zA (fun hn=>by
         rw[HA.out,mayC];have:l.all wordsC=false:=List.all_eq_false.2 ⟨a,HXM.out,by rw[hn];decide⟩;rw[this];simp)
        have HYES:Hid (wordsC a=true->∀x∈l.take (i+1),wordsC x=true):=zA (fun hn=>all_step HXA.out HAll.out hn);obtain⟨W,hW⟩:∃W,W=wordsC a:=⟨_,rfl⟩
        rw[<- hW]at HWA HNO HYES;obtain⟨b0,n1,n2,n3⟩:=a;dsimp only at q0 q1 q2 q3 I1 I2 I3;clear ha hcell hmem hm1 hm2 hm3 hW;cases m1 with
        |false=>
         have HF:=zA (HNO.out (by rw[HWA.out];rfl));go_wp2_with fail;refine(I1.out _).mono ?_;rintro e w4 ⟨rfl,hw⟩;subst hw;go_wp2;go_ret;exact⟨by rw[HF.out];rfl,HBa.out _⟩
        |true=>
         cases m2 with
         |false=>
          have HF:=zA (HNO.out (by rw[HWA.out];rfl));go_wp2_with fail;refine(I1.out _).mono ?_;rintro e w4 ⟨rfl,hw⟩;subst hw;go_wp2_with fail;refine(I2.out _).mono ?_;rintro e w4 ⟨rfl,hw⟩;subst hw;go_wp2;go_ret;exact⟨by rw[HF.out];rfl,HBa.out _⟩
         |true=>
          cases m3 with
          |false=>
           have HF:=zA (HNO.out (by rw[HWA.out];rfl));go_wp2_with fail;refine(I1.out _).mono ?_;rintro e w4 ⟨rfl,hw⟩;subst hw;go_wp2_with fail;refine(I2.out _).mono ?_;rintro e w4 ⟨rfl,hw⟩;subst hw;go_wp2_with fail;refine(I3.out _).mono ?_;rintro e w4 ⟨rfl,hw⟩;subst hw;go_wp2;go_ret;exact⟨by rw[HF.out];rfl,HBa.out _⟩
          |true=>
           have HA2:=zA (HYES.out (by rw[HWA.out];rfl));go_wp2_with fail;refine(I1.out _).mono ?_;rintro e w4 ⟨rfl,hw⟩;subst hw;go_wp2_with fail;refine(I2.out _).mono ?_;rintro e w4 ⟨rfl,hw⟩;subst hw;go_wp2_with fail;refine(I3.out _).mono ?_;rintro e w4 ⟨rfl,hw⟩;subst hw;go_wp2;go_roundw
           case rel=>exact⟨i+1,by omega,by go_num,HA2.out,HBa.out _⟩
           case measure=>simp[intOf];omega
      . have hltI:¬(i:Int)<(n:Int):=by omega
        have HF:Hid (ans=true):=zA (by
         have:l.all wordsC=true:=yJ.2 (fun x hx=>HAll.out x (by
          rw[zK (by rw[<- HN.out];omega)];exact hx))
         rw[HA.out,mayC,HV0.out,H64.out,this];rfl)
        go_wp2;go_ret;exact⟨by rw[HF.out];rfl,HBQ.out⟩
set_option maxHeartbeats 4000000 in
theorem mayBe_any{S:Nat->Prop}{w:World}{r:Rm}(h:ROk S w r):
 Calls Tryz.prog 46 #[encR r] w fun e w'=>e=.returned (.bool (mayRq r.rq))/\Below w.heap.size w w':=by
 have HB:Hid (∀a:Obj,Below w.heap.size w (w.alloc a)):=zA (fun a=>(zF _ _).alloc (zD _) _);have HQ:=zA (fun u (hu:Below w.heap.size w u)=>queryMayBe_any (h.q.below hu));have HC:=zA (fun u (hu:Below w.heap.size w u)=>batchMayBe_any (h.cs.below hu) h.cl);obtain⟨va,vc,hvv,hvc⟩:=h.q.vcap;obtain⟨ao,cap,hv⟩:=h.q.ats.slice;obtain⟨ca,cc,hcv⟩:=h.cs.slice;have hcl:=h.cl;have hvl:=h.q.vl;have hal:=h.q.al;obtain⟨k,⟨vv,vars,av,atoms⟩,cv,chgs⟩:=r;dsimp only at hvv hv hcv hcl hvl hal HQ HC;subst hvv hv hcv;obtain⟨ans,hans⟩:∃a,a=mayRq (Rm.rq ⟨k,⟨.slice va vars.length vc,vars,.slice ao atoms.length cap,atoms⟩,.slice ca chgs.length cc,chgs⟩):=⟨_,rfl⟩
 rw[<- hans];have HA:=zA hans;obtain⟨mq,hmq⟩:∃m,m=mayQ vars (atoms.map Am.pa):=⟨_,rfl⟩
 obtain⟨mc,hmc⟩:∃m,m=mayC chgs:=⟨_,rfl⟩
 rw[<- hmq]at HQ;rw[<- hmc]at HC;have HMQ:=zA hmq;have HMC:=zA hmc;obtain⟨n,hn⟩:∃n,n=atoms.length:=⟨_,rfl⟩
 obtain⟨nv,hnv⟩:∃n,n=vars.length:=⟨_,rfl⟩
 obtain⟨nc,hnc⟩:∃n,n=chgs.length:=⟨_,rfl⟩
 rw[<- hn]at hal HQ ⊢;rw[<- hnv]at hvl HQ ⊢;rw[<- hnc]at hcl HC ⊢;have HN:=zA hn;have HNV:=zA hnv;have HNC:=zA hnc;clear h hvc hans hmq hmc hn hnv hnc;by_cases k1:k=1
 . subst k1;have HE:Hid (ans=(decide (nc=0)&&mq)):=zA (by rw[HA.out,HMQ.out,HNC.out];rfl);by_cases h0:nc=0
   . subst h0;go_enter Tryz.func46,Tryz.ntmps46;go_wp2_with fail;refine(HQ.out _ (HB.out _)).mono ?_;rintro e w2 ⟨rfl,hb2⟩;go_wp2;go_ret;exact⟨by rw[HE.out];simp,(HB.out _).trans (hb2.mono (by simp))⟩
   . obtain⟨e1,e2⟩:=not_both (a:=(nc:Int)) (b:=0) (by omega);have HF:Hid (ans=false):=zA (by rw[HE.out,decide_eq_false h0];rfl);clear h0;go_enter Tryz.func46,Tryz.ntmps46;go_wp2;go_ret;exact⟨by rw[HF.out];rfl,HB.out _⟩
 . obtain⟨a1,a2⟩:=not_both k1;by_cases k2:k=2
   . subst k2;have HE:Hid (ans=(decide (nv=0)&&decide (n=0)&&mc)):=zA (by
      rw[HA.out,HMC.out,HNV.out,HN.out];simp[mayRq,Rm.rq])
     clear k1;by_cases h0:nv=0
     . subst h0;by_cases h1:n=0
       . subst h1;go_enter Tryz.func46,Tryz.ntmps46;go_wp2_with fail;refine(HC.out _ (HB.out _)).mono ?_;rintro e w2 ⟨rfl,hb2⟩;go_wp2;go_ret;exact⟨by rw[HE.out];simp,(HB.out _).trans (hb2.mono (by simp))⟩
       . obtain⟨e1,e2⟩:=not_both (a:=(n:Int)) (b:=0) (by omega);have HF:Hid (ans=false):=zA (by rw[HE.out,decide_eq_false h1];rfl);clear h1;go_enter Tryz.func46,Tryz.ntmps46;go_wp2;go_ret;exact⟨by rw[HF.out];rfl,HB.out _⟩
     . obtain⟨e1,e2⟩:=not_both (a:=(nv:Int)) (b:=0) (by omega);have HF:Hid (ans=false):=zA (by rw[HE.out,decide_eq_false h0];rfl);clear h0;go_enter Tryz.func46,Tryz.ntmps46;go_wp2;go_ret;exact⟨by rw[HF.out];rfl,HB.out _⟩
   . obtain⟨a3,a4⟩:=not_both k2;have HF:Hid (ans=false):=zA (by rw[HA.out];simp[mayRq,Rm.rq,k1,k2]);clear k1 k2;go_enter Tryz.func46,Tryz.ntmps46;go_wp2;go_ret;exact⟨by rw[HF.out];rfl,HB.out _⟩
set_option maxHeartbeats 1000000 in
theorem check_any{S:Nat->Prop}{w:World}{r:Rm}(h:ROk S w r):
 Calls Tryz.prog 29 #[encR r] w fun e w'=>e=.returned (.int .i64 (if mayRq r.rq=true then 0 else 1))/\Below w.heap.size w w':=by
 have HB:Hid (∀a:Obj,Below w.heap.size w (w.alloc a)):=zA (fun a=>(zF _ _).alloc (zD _) _);have HM:=zA (fun u (hu:Below w.heap.size w u)=>mayBe_any (h.below hu));obtain⟨va,vc,hvv,hvc⟩:=h.q.vcap;obtain⟨ao,cap,hv⟩:=h.q.ats.slice;obtain⟨ca,cc,hcv⟩:=h.cs.slice;obtain⟨m,hm⟩:∃m,m=mayRq r.rq:=⟨_,rfl⟩
 rw[<- hm]at HM ⊢;obtain⟨k,⟨vv,vars,av,atoms⟩,cv,chgs⟩:=r;dsimp only at hvv hv hcv HM;subst hvv hv hcv;clear h hvc hm;cases m with
 |true=>
  go_enter Tryz.func29,Tryz.ntmps29;go_wp2_with fail;refine(HM.out _ (HB.out _)).mono ?_;rintro e w2 ⟨rfl,hb2⟩;go_wp2;go_ret;exact⟨rfl,(HB.out _).trans (hb2.mono (by simp))⟩
 |false=>
  go_enter Tryz.func29,Tryz.ntmps29;go_wp2_with fail;refine(HM.out _ (HB.out _)).mono ?_;rintro e w2 ⟨rfl,hb2⟩;go_wp2;go_ret;exact⟨rfl,(HB.out _).trans (hb2.mono (by simp))⟩
end Go.Proofs.YtdalcipmpelifaaGreatDoor
