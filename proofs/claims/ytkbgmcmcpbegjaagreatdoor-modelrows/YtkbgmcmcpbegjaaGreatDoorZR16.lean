/- MLead. -/
import Derived.Test.YtkbgmcmcpbegjaaGreatDoorZR15
set_option maxRecDepth 100000
set_option maxHeartbeats 40000000
namespace Go.Proofs.YtkbgmcmcpbegjaaGreatDoor
open Go.RowKit Go.Shelf
def LeadC(fs:List Fa)(V:List Wd)(x:Vt):Prop:=∀(w:World) (vf vl:Value),FasS (fun _=>True) w vf fs->TxtS (fun _=>True) w vl V->VOk (fun _=>True) w x->Calls Tryz.prog 36 #[vf,vl,encN x] w fun e w'=>∃v,e=.returned v/\IsM w' v V.length (jaq fs V x.pt)/\Below w.heap.size w w'
theorem formed_casesM{k:Int}{w:List UInt8}{n:Nat}(h:jam k w n=true):(k=1/\n=0/\isW w=true)\/(k=2/\2<=n)\/(k=3/\2<=n)\/(k=4/\n=1)\/(k=5/\n=1)\/(k=6/\n=1):=by
 unfold jam at h;split at h
 . simp at h;rename_i hk;exact .inl ⟨hk,h.1,h.2⟩
 . split at h
   . rename_i hk;simp at h;rcases hk with hk|hk
     . exact .inr (.inl ⟨hk,h.1⟩)
     . exact .inr (.inr (.inl ⟨hk,h.1⟩))
   . split at h
     . rename_i hk;simp at h;rcases hk with hk|hk|hk
       . exact .inr (.inr (.inr (.inl ⟨hk,h.1⟩)))
       . exact .inr (.inr (.inr (.inr (.inl ⟨hk,h.1⟩))))
       . exact .inr (.inr (.inr (.inr (.inr ⟨hk,h.1⟩))))
     . cases h
theorem word_step{fs:List Fa}{V:List Wd}(hV:ja2 less V){wd f1 f3:Wd}{i pi pk:Nat}(hx:fs[i]?=some (f1,wd,f3))(h1:V[pi]?=some f1)(h2:V[pk]?=some f3)(i' k':Nat):updM (jco (fs.take i) V wd) pi pk true i' k'=jco (fs.take (i+1)) V wd i' k':=by
 unfold jco updM;rw[zS,hx];simp only[yQ,List.any_append,List.any_cons,List.any_nil,Bool.or_false];have e1:decide (V[i']?=some f1)=decide (i'=pi):=by
  rw[decide_eq_decide];exact⟨fun h=>hV.once ordW h h1,fun h=>h▸h1⟩
 have e2:decide (V[k']?=some f3)=decide (k'=pk):=by
  rw[decide_eq_decide];exact⟨fun h=>hV.once ordW h h2,fun h=>h▸h2⟩
 rw[e1,e2];by_cases e:i'=pi/\k'=pk
 . rw[if_pos e,e.1,e.2];simp
 . rw[if_neg e];have:(decide (i'=pi)&&decide (k'=pk))=false:=by
    rw[<- Bool.decide_and];exact decide_eq_false e
   simp only[decide_true,Bool.true_and,this,Bool.or_false]
theorem word_skip{fs:List Fa}{V:List Wd}{wd f1 f2 f3:Wd}{i:Nat}(hx:fs[i]?=some (f1,f2,f3))(hne:¬f2=wd)(i' k':Nat):jco (fs.take i) V wd i' k'=jco (fs.take (i+1)) V wd i' k':=by
 unfold jco;rw[zS,hx];simp[hne]
theorem place_vert{V:List Wd}(hV:ja2 less V){s:Wd}(h:s∈V):∃i:Nat,V[i]?=some s/\i<V.length/\jaT V s=(i:Int):=by
 obtain⟨i,hi⟩:=List.getElem?_of_mem h;refine⟨i,hi,(zE.1 hi).1,jfj hi (fun j hj hj2=>?_)⟩;have:=hV.once ordW hi hj2;omega
theorem rLead_word{fs:List Fa}{V:List Wd}(hV:V=jac fs)(hlf:fs.length<=100000)(hlv:V.length<=100000){wd:Wd}{v:Value}{l:List Vt}:LeadC fs V ⟨1,wd,v,l⟩:=by
 intro w vf vl hf hl aA;obtain⟨R,hR⟩:=eX (jaq fs V (Vt.pt ⟨1,wd,v,l⟩));rw[<- hR];have HR:Hid (R=jco fs V wd):=zA (by rw[hR,Vt.pt_mk,jcw];rfl);clear hR;have ac:=aA.parts;obtain⟨ka,kc,hv⟩:=ac.1.slice;dsimp only at ac hv;subst hv;have HK:=zA ac;obtain⟨fa,fc,aJ⟩:=hf.slice;obtain⟨la,lc,aK⟩:=hl.slice;subst aJ aK;have HF:=zA hf;have ap:=zA hl;obtain⟨nf,aq⟩:=eX fs.length;obtain⟨n,hn⟩:=eX V.length;rw[<- aq]at HF hlf ⊢;rw[<- hn]at ap hlv ⊢;try rw[<- hn]at HR
 have ax:=zA aq;have HN:=zA hn;clear aA ac hf hl aq hn;have ak:Hid (ja2 less V):=zA (by rw[hV];exact jaY fs);have ay:Hid (∀i f1 f2 f3,fs[i]?=some (f1,f2,f3)->f1∈V/\f3∈V):=zA (fun i f1 f2 f3 h=>by
  rw[hV];exact⟨jax.2 ⟨_,zC h,.inl rfl⟩,jax.2 ⟨_,zC h,.inr rfl⟩⟩)
 clear hV;obtain⟨kn,av⟩:=eX l.length;rw[<- av];clear av HK;obtain⟨o,ho⟩:=eX (Obj.cells #[.int .i64 1,.string ⟨wd.toArray⟩,.slice ka kn kc] 25);have ao:=zA ho;have HC:Hid (∀wr,Below (w.alloc o).heap.size (w.alloc o) wr->wr.cell? ⟨w.heap.size,0,none⟩=some (.int .i64 1)/\wr.cell? ⟨w.heap.size,1,none⟩=some (.string ⟨wd.toArray⟩)/\wr.cell? ⟨w.heap.size,2,none⟩=some (.slice ka kn kc)):=zA (fun wr hb=>by
  have h:=jav hb;rw[ao.out]at h;simp[World.cell?,h])
 have aL:Hid (Below (w.alloc o).heap.size (w.alloc o) (w.alloc (.cells #[.int .i64 1,.string ⟨wd.toArray⟩,.slice ka kn kc] 25))):=zA (by rw[ao.out];exact zF _ _);clear ho;go_enter Tryz.func36,Tryz.ntmps36;go_wp2_with fail;refine(jcs n _ hlv).mono ?_;rintro e w1 ⟨v,rfl,⟨gs,ab,hm⟩,aw⟩;obtain⟨ma,mc,hv⟩:=jab hm.row;rw[ab]at hv;subst hv;obtain⟨B,hB⟩:=eX ((w.alloc (.cells #[.int .i64 1,.string ⟨wd.toArray⟩,.slice ka kn kc] 25)).heap.size);rw[<- hB]at hm;have hBw:w.heap.size<B:=by rw[hB];simp
 have aD:Hid (B=(w.alloc o).heap.size):=zA (by rw[hB];simp);have aj:=zA ab;have aM:=zA (hm.congr (m':=jco (fs.take 0) V wd) ab (fun i k _ _=>by simp[jbQ,jco]));have aP:=zA (aL.out.trans (aw.mono (by rw[ao.out];exact zD _)));clear ab hm aw hB;go_wp2_with fail;go_loopw [9] (fun c wr=>∃i:Nat,i<=nf/\c=.int .i64 i/\MatO B wr (.slice ma n mc) n gs (jco (fs.take i) V wd)/\Below (w.alloc o).heap.size (w.alloc o) wr) (fun c _=>nf-(intOf c).toNat)
 case atStart=>exact⟨0,zO _,rfl,aM.out,aP.out⟩
 case round=>
  obtain⟨i,hi,rfl,hm,aB⟩:=hrel;have HM:=zA hm;have ae:=zA aB;clear hm aB;obtain⟨wx,aG⟩:=eX wr;subst aG;by_cases hlt:i<nf
  . have al:(i:Int)<(nf:Int):=by omega
    obtain⟨⟨f1,f2,f3⟩,hx⟩:∃x,fs[i]?=some x:=⟨_,zB (by rw[<- ax.out];exact hlt)⟩
    obtain⟨g,aa,aO,_,ab,ad⟩:=HF.out.get hx;subst aO;obtain⟨q0,q1,q2⟩:=getF ad;have KF:Hid (∀u,Below w.heap.size w u->u.cell? ⟨g,aa+i*3,none⟩=some (.string ⟨f1.toArray⟩)/\u.cell? ⟨g,aa+i*3+1,none⟩=some (.string ⟨f2.toArray⟩)/\u.cell? ⟨g,aa+i*3+2,none⟩=some (.string ⟨f3.toArray⟩)):=zA (fun u hu=>⟨(hu.cell (p:=⟨g,aa+i*3,none⟩) ab).trans q0,(hu.cell (p:=⟨g,aa+i*3+1,none⟩) ab).trans q1,(hu.cell (p:=⟨g,aa+i*3+2,none⟩) ab).trans q2⟩);have HX:=zA hx;have aN:Hid (g<w.heap.size):=zA ab;clear hx ad q0 q1 q2 ab;obtain⟨q0,q1,q2⟩:=KF.out _ (jaa ae.out);obtain⟨c0,c1,c2⟩:=HC.out _ ae.out;by_cases exs:f2=wd
    . obtain⟨pi,p1,p2,p3⟩:=place_vert ak.out (ay.out i f1 f2 f3 HX.out).1;obtain⟨pk,r1,r2,r3⟩:=place_vert ak.out (ay.out i f1 f2 f3 HX.out).2;rw[<- HN.out]at p2 r2;have aI:Hid (∀u,Below (w.alloc o).heap.size (w.alloc o) u->Calls Tryz.prog 44 #[.slice la n lc,.string ⟨f1.toArray⟩] u fun e w'=>e=.returned (.int .i64 (pi:Int))/\w'=u):=zA (fun u hu=>by rw[<- p3];exact jbu (ap.out.below (jaa hu)) (by rw[<- HN.out];omega) f1);have aH:Hid (∀u,Below (w.alloc o).heap.size (w.alloc o) u->Calls Tryz.prog 44 #[.slice la n lc,.string ⟨f3.toArray⟩] u fun e w'=>e=.returned (.int .i64 (pk:Int))/\w'=u):=zA (fun u hu=>by rw[<- r3];exact jbu (ap.out.below (jaa hu)) (by rw[<- HN.out];omega) f3);have aE:Hid (∀i' k',updM (jco (fs.take i) V wd) pi pk true i' k'=jco (fs.take (i+1)) V wd i' k'):=zA (word_step ak.out (by rw[HX.out,exs]) p1 r1);have hpI:(pi:Int)<(n:Int):=by omega
      have hrI:(pk:Int)<(n:Int):=by omega
      clear p1 p3 r1 r3;subst exs;go_wp2_with fail;go_quiet (fail);obtain⟨wy,ah⟩:=eX (wx.drewN nq);rw[<- ah];have an:Hid (Below (w.alloc o).heap.size (w.alloc o) wy):=zA (by rw[ah];exact jau ae.out nq);have ag:Hid (MatO B wy (.slice ma n mc) n gs (jco (fs.take i) V f2)):=zA (by rw[ah];exact HM.out.below (jau (zF _ _) nq));clear ah q0 q1 q2 c0 c1 c2;obtain⟨q0,q1,q2⟩:=KF.out _ (jaa an.out);obtain⟨mb,mo,mg,az,ai,_,m0,_,mr⟩:=(ag.out.read aj.out).at_ p2;have am:B<=mg:=ag.out.lo mg (zC ai);have ar:mb≠mg:=fun e=>jdF ag.out.row (ag.out.ats pi mg ai) (by decide) (by rw[az,e];rfl)
      subst az;obtain⟨m1,m2⟩:=mr pk r2;have aF:=zA ai;have HS:Hid ((wy.cell? ⟨mb,mo+pi,none⟩=some (.slice (some ⟨mg,0,none⟩) n n))/\(wy.cell? ⟨g,aa+i*3,none⟩=some (.string ⟨f1.toArray⟩)/\wy.cell? ⟨g,aa+i*3+2,none⟩=some (.string ⟨f3.toArray⟩))):=zA ⟨m0,q0,q2⟩;have aQ:Hid (∀v:Value,((wy.setCell ⟨mg,pk,none⟩ v).drew.cell? ⟨mb,mo+pi,none⟩=some (.slice (some ⟨mg,0,none⟩) n n))/\((wy.setCell ⟨mg,pk,none⟩ v).drew.cell? ⟨g,aa+i*3,none⟩=some (.string ⟨f1.toArray⟩)/\(wy.setCell ⟨mg,pk,none⟩ v).drew.cell? ⟨g,aa+i*3+2,none⟩=some (.string ⟨f3.toArray⟩))):=zA (fun v=>by
       obtain⟨s0,s1,s2⟩:=HS.out;have:=aN.out;exact⟨(cellM_other ar).trans s0,(cellM_other (by omega)).trans s1,(cellM_other (by omega)).trans s2⟩)
      have HD:Hid (Below (w.alloc o).heap.size (w.alloc o) wy.drew):=zA an.out.drew;have af:Hid (MatO B (wy.setCell ⟨mg,pk,none⟩ (.bool true)).drew (.slice (some ⟨mb,mo,none⟩) n mc) n gs (jco (fs.take (i+1)) V f2)):=zA (((ag.out.set aF.out true).below (zF _ _).drew).congr aj.out (fun i' k' _ _=>aE.out i' k'));have au:Hid (Below (w.alloc o).heap.size (w.alloc o) (wy.setCell ⟨mg,pk,none⟩ (.bool true)).drew):=zA (an.out.setCell (p:=⟨mg,pk,none⟩) (by rw[<- aD.out];exact am) _).drew;clear mr ai m0 q0 q1 q2;go_wp2_with fail;refine wp_region_held_drew (S:=fun u=>(u.cell? ⟨mb,mo+pi,none⟩=some (.slice (some ⟨mg,0,none⟩) n n))/\(u.cell? ⟨g,aa+i*3,none⟩=some (.string ⟨f1.toArray⟩)/\u.cell? ⟨g,aa+i*3+2,none⟩=some (.string ⟨f3.toArray⟩))) (by kernel_rfl) ?_ (fun hHeld=>?_)
      . exact HS.out
      refine tkH (i:=0) (oi:=⟨some 37,.move (.tmp 8),78, "ref.go:107",#[],none⟩) (v:=?_) rfl ?_ hHeld ?_;rotate_left 1
      . rintro W ⟨s0,s1,s2⟩;go_simp;try with_reducible rfl
      simp only[Act.put,zIB,zSZ,zSS];refine tkH (i:=1) (oi:=⟨some 38,.move (.tmp 1),34, "ref.go:107",#[],none⟩) (v:=?_) rfl ?_ hHeld ?_;rotate_left 1
      . rintro W ⟨s0,s1,s2⟩;go_simp;try with_reducible rfl
      simp only[Act.put,zIB,zSZ,zSS];refine tkH (i:=2) (oi:=⟨some 39,.move (.tmp 0),22, "ref.go:107",#[],none⟩) (v:=?_) rfl ?_ hHeld ?_;rotate_left 1
      . rintro W ⟨s0,s1,s2⟩;go_simp;try with_reducible rfl
      simp only[Act.put,zIB,zSZ,zSS];refine tkH (i:=3) (oi:=⟨some 40,.move (.tmp 9),3, "ref.go:107",#[],none⟩) (v:=?_) rfl ?_ hHeld ?_;rotate_left 1
      . rintro W ⟨s0,s1,s2⟩;go_simp;try with_reducible rfl
      simp only[Act.put,zIB,zSZ,zSS];refine tkH (i:=4) (oi:=⟨some 41,.indexAddr 22 (.tmp 39) (.tmp 40),0, "ref.go:107",#[⟨2,.data⟩,⟨3,.data⟩],none⟩) (v:=?_) rfl ?_ hHeld ?_;rotate_left 1
      . rintro W ⟨s0,s1,s2⟩;go_simp;try with_reducible rfl
      simp only[Act.put,zIB,zSZ,zSS];refine tkH (i:=5) (oi:=⟨some 42,.fieldAddr 48 (.tmp 41) 0,0, "ref.go:107",#[⟨4,.data⟩],none⟩) (v:=?_) rfl ?_ hHeld ?_;rotate_left 1
      . rintro W ⟨s0,s1,s2⟩;go_simp;try with_reducible rfl
      simp only[Act.put,zIB,zSZ,zSS];refine tkH (i:=6) (oi:=⟨some 43,.load 9 (.tmp 42),9, "ref.go:107",#[⟨5,.data⟩],none⟩) (v:=?_) rfl ?_ hHeld ?_;rotate_left 1
      . rintro W ⟨s0,s1,s2⟩;go_simp;try with_reducible rfl
      simp only[Act.put,zIB,zSZ,zSS];refine tkH (i:=10) (oi:=⟨some 47,.move (.tmp 1),34, "ref.go:107",#[],none⟩) (v:=?_) rfl ?_ hHeld ?_;rotate_left 1
      . rintro W ⟨s0,s1,s2⟩;go_simp;try with_reducible rfl
      simp only[Act.put,zIB,zSZ,zSS];refine tkH (i:=11) (oi:=⟨some 48,.move (.tmp 0),22, "ref.go:107",#[],none⟩) (v:=?_) rfl ?_ hHeld ?_;rotate_left 1
      . rintro W ⟨s0,s1,s2⟩;go_simp;try with_reducible rfl
      simp only[Act.put,zIB,zSZ,zSS];refine tkH (i:=12) (oi:=⟨some 49,.move (.tmp 9),3, "ref.go:107",#[],none⟩) (v:=?_) rfl ?_ hHeld ?_;rotate_left 1
      . rintro W ⟨s0,s1,s2⟩;go_simp;try with_reducible rfl
      simp only[Act.put,zIB,zSZ,zSS];refine tkH (i:=13) (oi:=⟨some 50,.indexAddr 22 (.tmp 48) (.tmp 49),0, "ref.go:107",#[⟨11,.data⟩,⟨12,.data⟩],none⟩) (v:=?_) rfl ?_ hHeld ?_;rotate_left 1
      . rintro W ⟨s0,s1,s2⟩;go_simp;try with_reducible rfl
      simp only[Act.put,zIB,zSZ,zSS];refine tkH (i:=14) (oi:=⟨some 51,.fieldAddr 48 (.tmp 50) 2,0, "ref.go:107",#[⟨13,.data⟩],none⟩) (v:=?_) rfl ?_ hHeld ?_;rotate_left 1
      . rintro W ⟨s0,s1,s2⟩;go_simp;try with_reducible rfl
      simp only[Act.put,zIB,zSZ,zSS];refine tkH (i:=15) (oi:=⟨some 52,.load 9 (.tmp 51),9, "ref.go:107",#[⟨14,.data⟩],none⟩) (v:=?_) rfl ?_ hHeld ?_;rotate_left 1
      . rintro W ⟨s0,s1,s2⟩;go_simp;try with_reducible rfl
      simp only[Act.put,zIB,zSZ,zSS];refine rdH (k:=7) (o:=⟨some 44,.call { callee:=.value (.func 44),args:=#[.tmp 38,.tmp 43],argTypes:=#[34,9] },3, "ref.go:107",#[⟨1,.data⟩,⟨6,.data⟩],none⟩) rfl (fun K hK=>?_);go_simp;refine(aI.out _ HD.out).mono ?_;rintro e w5 ⟨rfl,rfl⟩;go_wp2_with fail;refine hK.out _ _ HS.out (fun hHeld=>?_);clear hK K;refine tkH (i:=8) (oi:=⟨some 45,.indexAddr 78 (.tmp 37) (.tmp 44),0, "ref.go:107",#[⟨0,.data⟩,⟨7,.data⟩],none⟩) (v:=?_) rfl ?_ hHeld ?_;rotate_left 1
      . rintro W ⟨s0,s1,s2⟩;go_simp;try with_reducible rfl
      simp only[Act.put,zIB,zSZ,zSS];refine tkH (i:=9) (oi:=⟨some 46,.load 80 (.tmp 45),80, "ref.go:107",#[⟨8,.data⟩],none⟩) (v:=?_) rfl ?_ hHeld ?_;rotate_left 1
      . rintro W ⟨s0,s1,s2⟩;go_simp;try with_reducible rfl
      simp only[Act.put,zIB,zSZ,zSS];refine rdH (k:=16) (o:=⟨some 53,.call { callee:=.value (.func 44),args:=#[.tmp 47,.tmp 52],argTypes:=#[34,9] },3, "ref.go:107",#[⟨10,.data⟩,⟨15,.data⟩,⟨7,.chain⟩],none⟩) rfl (fun K hK=>?_);go_simp;refine(aH.out _ HD.out).mono ?_;rintro e w6 ⟨rfl,rfl⟩;go_wp2_with fail;refine hK.out _ _ HS.out (fun hHeld=>?_);clear hK K;refine tkH (i:=17) (oi:=⟨some 54,.indexAddr 80 (.tmp 46) (.tmp 53),0, "ref.go:107",#[⟨9,.data⟩,⟨16,.data⟩,⟨0,.phase⟩,⟨1,.phase⟩,⟨2,.phase⟩,⟨3,.phase⟩,⟨4,.phase⟩,⟨5,.phase⟩,⟨6,.phase⟩,⟨7,.phase⟩,⟨8,.phase⟩,⟨9,.phase⟩,⟨10,.phase⟩,⟨11,.phase⟩,⟨12,.phase⟩,⟨13,.phase⟩,⟨14,.phase⟩,⟨15,.phase⟩,⟨16,.phase⟩],none⟩) (v:=?_) rfl ?_ hHeld ?_;rotate_left 1
      . rintro W ⟨s0,s1,s2⟩;go_simp;try with_reducible rfl
      simp only[Act.put,zIB,zSZ,zSS];refine rdH (k:=18) (o:=⟨none,.store 4 (.tmp 54) (.const (.bool true)),0, "ref.go:107",#[⟨17,.data⟩,⟨16,.chain⟩,⟨0,.phase⟩,⟨1,.phase⟩,⟨2,.phase⟩,⟨3,.phase⟩,⟨4,.phase⟩,⟨5,.phase⟩,⟨6,.phase⟩,⟨7,.phase⟩,⟨8,.phase⟩,⟨9,.phase⟩,⟨10,.phase⟩,⟨11,.phase⟩,⟨12,.phase⟩,⟨13,.phase⟩,⟨14,.phase⟩,⟨15,.phase⟩,⟨16,.phase⟩],none⟩) rfl (fun K hK=>?_);go_simp;refine hK.out _ _ (aQ.out _) (fun hHeld=>?_);clear hK K;refine wpAnyH_done (by kernel_rfl) ?_ _;go_wp2;go_roundw
      case rel=>exact⟨i+1,by omega,by go_num,af.out,au.out⟩
      case measure=>simp[intOf];omega
    . obtain⟨e1,e2⟩:=jbW exs;have af:Hid (MatO B wx (.slice ma n mc) n gs (jco (fs.take (i+1)) V wd)):=zA (HM.out.congr aj.out (fun i' k' _ _=>word_skip HX.out exs i' k'));clear exs;go_wp2_with fail;go_quiet (fail);have au:=zA (jau ae.out nq);have aC:=zA (af.out.below (jau (zF _ _) nq));go_wp2;go_roundw
      case rel=>exact⟨i+1,by omega,by go_num,aC.out,au.out⟩
      case measure=>simp[intOf];omega
  . have al:¬(i:Int)<(nf:Int):=by omega
    have af:Hid (IsM wx (.slice ma n mc) n R):=zA ⟨gs,by
     rw[HR.out];have h:=HM.out.read aj.out;rw[zJ (by rw[<- ax.out];omega)]at h;exact h⟩
    go_wp2;go_ret;exact⟨_,rfl,af.out,jaa ae.out⟩
theorem rLead_seq{fs:List Fa}{V:List Wd}(hlv:V.length<=100000){wd:Wd}{v:Value}{l:List Vt}(hk:∀x∈l,LeadC fs V x):LeadC fs V ⟨2,wd,v,l⟩:=by
 intro w vf vl hf hl av;obtain⟨R,hR⟩:=eX (jaq fs V (Vt.pt ⟨2,wd,v,l⟩));rw[<- hR];have HR:Hid (R=(l.map fun x=>jaq fs V x.pt).foldl (jaP V.length) jc2):=zA (by rw[hR,Vt.pt_mk,jcw];simp only[List.map_map];rfl);clear hR;have aa:=av.parts;obtain⟨ka,kc,hv⟩:=aa.1.slice;dsimp only at aa hv;subst hv;have HK:=zA aa;obtain⟨fa,fc,aC⟩:=hf.slice;obtain⟨la,lc,aE⟩:=hl.slice;subst aC aE;have HF:=zA hf;have ao:=zA hl;obtain⟨nf,ak⟩:=eX fs.length;obtain⟨n,hn⟩:=eX V.length;rw[<- ak]at HF ⊢;rw[<- hn]at ao hlv ⊢;try rw[<- hn]at HR
 have HNF:=zA ak;have HN:=zA hn;clear av aa hf hl ak hn;have aG:Hid (∀x∈l,∀u,Below w.heap.size w u->Calls Tryz.prog 36 #[.slice fa nf fc,.slice la n lc,encN x] u fun e w'=>∃v,e=.returned v/\IsM w' v n (jaq fs V x.pt)/\Below u.heap.size u w'):=zA (fun x hx u hu=>by
  have h:=hk x hx u (.slice fa nf fc) (.slice la n lc) (HF.out.below hu) (ao.out.below hu) ((HK.out.2.2.2 x hx).below hu);rw[<- HN.out]at h;exact h)
 obtain⟨kn,ad⟩:=eX l.length;have ax:=zA ad;have af:=HK.out.2.2.1;rw[<- ad]at HK af ⊢;clear ad hk;obtain⟨o,ho⟩:=eX (Obj.cells #[.int .i64 2,.string ⟨wd.toArray⟩,.slice ka kn kc] 25);have aj:=zA ho;have HC:Hid (∀wr,Below (w.alloc o).heap.size (w.alloc o) wr->wr.cell? ⟨w.heap.size,0,none⟩=some (.int .i64 2)/\wr.cell? ⟨w.heap.size,1,none⟩=some (.string ⟨wd.toArray⟩)/\wr.cell? ⟨w.heap.size,2,none⟩=some (.slice ka kn kc)):=zA (fun wr hb=>by
  have h:=jav hb;rw[aj.out]at h;simp[World.cell?,h])
 have aH:Hid (Below (w.alloc o).heap.size (w.alloc o) (w.alloc (.cells #[.int .i64 2,.string ⟨wd.toArray⟩,.slice ka kn kc] 25))):=zA (by rw[aj.out];exact zF _ _);clear ho;go_enter Tryz.func36,Tryz.ntmps36;go_wp2_with fail;refine(rSameM_any n _ hlv).mono ?_;rintro e w1 ⟨v,rfl,hm,am⟩;have aI:=zA hm;have ar:=zA (aH.out.trans (am.mono (by rw[aj.out];exact zD _)));clear hm am;obtain⟨c0,c1,c2⟩:=HC.out _ ar.out;go_wp2_with fail;go_loopw [10,11] (fun vl c wr=>∃(i:Nat) (u:Value),u=vl/\i<=kn/\c=.int .i64 i/\IsM wr u n (((l.take i).map fun x=>jaq fs V x.pt).foldl (jaP n) jc2)/\Below (w.alloc o).heap.size (w.alloc o) wr) (fun _ c _=>kn-(intOf c).toNat)
 case atStart=>exact⟨0,_,rfl,zO _,rfl,aI.out,ar.out⟩
 case round=>
  clear c0 c1 c2;obtain⟨i,u,rfl,hi,rfl,hm,aw⟩:=hrel;have HM:=zA hm;have ac:=zA aw;clear hm aw;obtain⟨c0,c1,c2⟩:=HC.out _ ac.out;by_cases hlt:i<kn
  . have ae:(i:Int)<(kn:Int):=by omega
    obtain⟨x,hx⟩:∃x,l[i]?=some x:=⟨_,zB (by rw[<- ax.out];exact hlt)⟩
    have ag:=zC hx;obtain⟨g,off,aA,_,hgl,ab⟩:=(HK.out.1.below (jaa ac.out)).get hx;subst aA;obtain⟨q0,q1,q2⟩:=getN ab;have C1:=zA (aG.out x ag wr (jaa ac.out));have HT:Hid (((l.take (i+1)).map fun x=>jaq fs V x.pt).foldl (jaP n) jc2=jaP n (((l.take i).map fun x=>jaq fs V x.pt).foldl (jaP n) jc2) (jaq fs V x.pt)):=zA (by rw[zS,hx,yG,List.foldl_append];rfl);obtain⟨xa,xc,ai⟩:=(HK.out.2.2.2 x ag).parts.1.slice;obtain⟨xn,ap⟩:=eX x.kids.length;rw[<- ap]at ai;obtain⟨X,hX⟩:=eX (jaq fs V x.pt);rw[<- hX]at C1 HT;obtain⟨xk,xw,xv,xl⟩:=x;dsimp only at q0 q1 q2 ai;subst ai;clear hx ag ab ap hX;go_wp2_with fail;refine C1.out.mono ?_;rintro e w3 ⟨v3,rfl,aq,ah⟩;have az:=zA aq;have aB:=zA (HM.out.below ah);have an:=zA (ac.out.trans (ah.mono ac.out.size));clear aq ah c0 c1 c2 q0 q1 q2;go_wp2_with fail;refine(rBehind_any aB.out az.out hlv).mono ?_;rintro e w4 ⟨v4,rfl,al,au⟩;have aD:=zA al;have ay:=zA (an.out.trans (au.mono an.out.size));clear al au;go_wp2;go_roundw
    case rel=>exact⟨i+1,_,rfl,by omega,by go_num,by rw[HT.out];exact aD.out,ay.out⟩
    case measure=>simp[intOf];omega
  . have ae:¬(i:Int)<(kn:Int):=by omega
    have aF:Hid (IsM wr u n R):=zA (by
     rw[HR.out];have h:=HM.out;rw[zJ (by rw[<- ax.out];omega)]at h;exact h)
    go_wp2;go_ret;exact⟨_,rfl,aF.out,jaa ac.out⟩
theorem rLead_alt{fs:List Fa}{V:List Wd}(hlv:V.length<=100000){wd:Wd}{v:Value}{l:List Vt}(hk:∀x∈l,LeadC fs V x):LeadC fs V ⟨3,wd,v,l⟩:=by
 intro w vf vl hf hl av;obtain⟨R,hR⟩:=eX (jaq fs V (Vt.pt ⟨3,wd,v,l⟩));rw[<- hR];have HR:Hid (R=(l.map fun x=>jaq fs V x.pt).foldl jaW jbQ):=zA (by rw[hR,Vt.pt_mk,jcw];simp only[List.map_map];rfl);clear hR;have aa:=av.parts;obtain⟨ka,kc,hv⟩:=aa.1.slice;dsimp only at aa hv;subst hv;have HK:=zA aa;obtain⟨fa,fc,aC⟩:=hf.slice;obtain⟨la,lc,aE⟩:=hl.slice;subst aC aE;have HF:=zA hf;have ao:=zA hl;obtain⟨nf,ak⟩:=eX fs.length;obtain⟨n,hn⟩:=eX V.length;rw[<- ak]at HF ⊢;rw[<- hn]at ao hlv ⊢;try rw[<- hn]at HR
 have HNF:=zA ak;have HN:=zA hn;clear av aa hf hl ak hn;have aG:Hid (∀x∈l,∀u,Below w.heap.size w u->Calls Tryz.prog 36 #[.slice fa nf fc,.slice la n lc,encN x] u fun e w'=>∃v,e=.returned v/\IsM w' v n (jaq fs V x.pt)/\Below u.heap.size u w'):=zA (fun x hx u hu=>by
  have h:=hk x hx u (.slice fa nf fc) (.slice la n lc) (HF.out.below hu) (ao.out.below hu) ((HK.out.2.2.2 x hx).below hu);rw[<- HN.out]at h;exact h)
 obtain⟨kn,ad⟩:=eX l.length;have ax:=zA ad;have af:=HK.out.2.2.1;rw[<- ad]at HK af ⊢;clear ad hk;obtain⟨o,ho⟩:=eX (Obj.cells #[.int .i64 3,.string ⟨wd.toArray⟩,.slice ka kn kc] 25);have aj:=zA ho;have HC:Hid (∀wr,Below (w.alloc o).heap.size (w.alloc o) wr->wr.cell? ⟨w.heap.size,0,none⟩=some (.int .i64 3)/\wr.cell? ⟨w.heap.size,1,none⟩=some (.string ⟨wd.toArray⟩)/\wr.cell? ⟨w.heap.size,2,none⟩=some (.slice ka kn kc)):=zA (fun wr hb=>by
  have h:=jav hb;rw[aj.out]at h;simp[World.cell?,h])
 have aH:Hid (Below (w.alloc o).heap.size (w.alloc o) (w.alloc (.cells #[.int .i64 3,.string ⟨wd.toArray⟩,.slice ka kn kc] 25))):=zA (by rw[aj.out];exact zF _ _);clear ho;go_enter Tryz.func36,Tryz.ntmps36;go_wp2_with fail;refine(jcs n _ hlv).mono ?_;rintro e w1 ⟨v,rfl,hm,am⟩;have aI:=zA hm;have ar:=zA (aH.out.trans (am.mono (by rw[aj.out];exact zD _)));clear hm am;obtain⟨c0,c1,c2⟩:=HC.out _ ar.out;go_wp2_with fail;go_loopw [12,13] (fun vl c wr=>∃(i:Nat) (u:Value),u=vl/\i<=kn/\c=.int .i64 i/\IsM wr u n (((l.take i).map fun x=>jaq fs V x.pt).foldl jaW jbQ)/\Below (w.alloc o).heap.size (w.alloc o) wr) (fun _ c _=>kn-(intOf c).toNat)
 case atStart=>exact⟨0,_,rfl,zO _,rfl,aI.out.read,ar.out⟩
 case round=>
  clear c0 c1 c2;obtain⟨i,u,rfl,hi,rfl,hm,aw⟩:=hrel;have HM:=zA hm;have ac:=zA aw;clear hm aw;obtain⟨c0,c1,c2⟩:=HC.out _ ac.out;by_cases hlt:i<kn
  . have ae:(i:Int)<(kn:Int):=by omega
    obtain⟨x,hx⟩:∃x,l[i]?=some x:=⟨_,zB (by rw[<- ax.out];exact hlt)⟩
    have ag:=zC hx;obtain⟨g,off,aA,_,hgl,ab⟩:=(HK.out.1.below (jaa ac.out)).get hx;subst aA;obtain⟨q0,q1,q2⟩:=getN ab;have C1:=zA (aG.out x ag wr (jaa ac.out));have HT:Hid (((l.take (i+1)).map fun x=>jaq fs V x.pt).foldl jaW jbQ=jaW (((l.take i).map fun x=>jaq fs V x.pt).foldl jaW jbQ) (jaq fs V x.pt)):=zA (by rw[zS,hx,yG,List.foldl_append];rfl);obtain⟨xa,xc,ai⟩:=(HK.out.2.2.2 x ag).parts.1.slice;obtain⟨xn,ap⟩:=eX x.kids.length;rw[<- ap]at ai;obtain⟨X,hX⟩:=eX (jaq fs V x.pt);rw[<- hX]at C1 HT;obtain⟨xk,xw,xv,xl⟩:=x;dsimp only at q0 q1 q2 ai;subst ai;clear hx ag ab ap hX;go_wp2_with fail;refine C1.out.mono ?_;rintro e w3 ⟨v3,rfl,aq,ah⟩;have az:=zA aq;have aB:=zA (HM.out.below ah);have an:=zA (ac.out.trans (ah.mono ac.out.size));clear aq ah c0 c1 c2 q0 q1 q2;go_wp2_with fail;refine(rEither_any aB.out az.out hlv).mono ?_;rintro e w4 ⟨v4,rfl,al,au⟩;have aD:=zA al;have ay:=zA (an.out.trans (au.mono an.out.size));clear al au;go_wp2;go_roundw
    case rel=>exact⟨i+1,_,rfl,by omega,by go_num,by rw[HT.out];exact aD.out,ay.out⟩
    case measure=>simp[intOf];omega
  . have ae:¬(i:Int)<(kn:Int):=by omega
    have aF:Hid (IsM wr u n R):=zA (by
     rw[HR.out];have h:=HM.out;rw[zJ (by rw[<- ax.out];omega)]at h;exact h)
    go_wp2;go_ret;exact⟨_,rfl,aF.out,jaa ac.out⟩
theorem rLead_one{fs:List Fa}{V:List Wd}(hlv:V.length<=100000){k:Int}(hk3:k=4\/k=5\/k=6){wd:Wd}{v:Value}{x:Vt}(hk:LeadC fs V x):LeadC fs V ⟨k,wd,v,[x]⟩:=by
 intro w vf vl hf hl aE;obtain⟨R,hR⟩:=eX (jaq fs V (Vt.pt ⟨k,wd,v,[x]⟩));rw[<- hR];have HR:Hid (R=endM V.length k (jaq fs V x.pt)):=zA (by rw[hR,Vt.pt_mk,jcw,if_neg (by omega),if_neg (by omega),if_neg (by omega)];rfl);clear hR;have ab:=aE.parts;obtain⟨ka,kc,hv⟩:=ab.1.slice;dsimp only at ab hv;subst hv;have HK:=zA ab;obtain⟨fa,fc,aG⟩:=hf.slice;obtain⟨la,lc,aI⟩:=hl.slice;subst aG aI;have HF:=zA hf;have aB:=zA hl;obtain⟨nf,ax⟩:=eX fs.length;obtain⟨n,hn⟩:=eX V.length;rw[<- ax]at HF ⊢;rw[<- hn]at aB hlv ⊢;try rw[<- hn]at HR
 have HNF:=zA ax;have HN:=zA hn;clear aE ab hf hl ax hn;have C1:Hid (∀u,Below w.heap.size w u->Calls Tryz.prog 36 #[.slice fa nf fc,.slice la n lc,encN x] u fun e w'=>∃v,e=.returned v/\IsM w' v n (jaq fs V x.pt)/\Below u.heap.size u w'):=zA (fun u hu=>by
  have h:=hk u (.slice fa nf fc) (.slice la n lc) (HF.out.below hu) (aB.out.below hu) ((HK.out.2.2.2 x (by simp)).below hu);rw[<- HN.out]at h;exact h)
 have k1:¬k=1:=by omega
 have k2:¬k=2:=by omega
 have k3:¬k=3:=by omega
 obtain⟨a1,b1⟩:=jaj k1;obtain⟨a2,b2⟩:=jaj k2;obtain⟨a3,b3⟩:=jaj k3;have aH:=zA hk3;clear hk k1 k2 k3 hk3;obtain⟨X,hX⟩:=eX (jaq fs V x.pt);rw[<- hX]at C1 HR;obtain⟨g,aa,aF,_,av,ac⟩:=HK.out.1.get (j:=0) (x:=x) rfl;subst aF;obtain⟨q0,q1,q2⟩:=getN ac;rw[Nat.zero_mul,yA]at q0 q1 q2;obtain⟨xa,xc,ar⟩:=(HK.out.2.2.2 x (by simp)).parts.1.slice;obtain⟨xn,aC⟩:=eX x.kids.length;rw[<- aC]at ar;obtain⟨xk,xw,xv,xl⟩:=x;dsimp only at q0 q1 q2 ar;subst ar;have aJ:Hid (∀u,Below w.heap.size w u->u.cell? ⟨g,aa,none⟩=some (.int .i64 xk)/\u.cell? ⟨g,aa+1,none⟩=some (.string ⟨xw.toArray⟩)/\u.cell? ⟨g,aa+2,none⟩=some (.slice xa xn xc)):=zA (fun u hu=>⟨(hu.cell (p:=⟨g,aa,none⟩) av).trans q0,(hu.cell (p:=⟨g,aa+1,none⟩) av).trans q1,(hu.cell (p:=⟨g,aa+2,none⟩) av).trans q2⟩);clear ac aC hX HK;show Calls Tryz.prog _ #[_,_,.agg #[.int .i64 k,.string ⟨wd.toArray⟩,.slice (some ⟨g,aa,none⟩) 1 kc]] w _;obtain⟨o,ho⟩:=eX (Obj.cells #[.int .i64 k,.string ⟨wd.toArray⟩,.slice (some ⟨g,aa,none⟩) 1 kc] 25);have aA:=zA ho;have HC:Hid (∀wr,Below (w.alloc o).heap.size (w.alloc o) wr->wr.cell? ⟨w.heap.size,0,none⟩=some (.int .i64 k)/\wr.cell? ⟨w.heap.size,1,none⟩=some (.string ⟨wd.toArray⟩)/\wr.cell? ⟨w.heap.size,2,none⟩=some (.slice (some ⟨g,aa,none⟩) 1 kc)):=zA (fun wr hb=>by
  have h:=jav hb;rw[aA.out]at h;simp[World.cell?,h])
 have al:Hid (Below (w.alloc o).heap.size (w.alloc o) (w.alloc (.cells #[.int .i64 k,.string ⟨wd.toArray⟩,.slice (some ⟨g,aa,none⟩) 1 kc] 25))):=zA (by rw[aA.out];exact zF _ _);clear ho;obtain⟨c0,c1,c2⟩:=HC.out _ al.out;obtain⟨r0,r1,r2⟩:=aJ.out _ (jaa al.out);go_enter Tryz.func36,Tryz.ntmps36;go_wp2_with fail;refine(C1.out _ (jaa al.out)).mono ?_;rintro e w3 ⟨v3,rfl,aD,az⟩;have ap:=zA aD;have ad:=zA (al.out.trans (az.mono al.out.size));clear aD az c0 c1 c2 q0 q1 q2 r0 r1 r2;obtain⟨c0,c1,c2⟩:=HC.out _ ad.out;rcases aH.out with e4|e5|e6
 . subst e4;clear a1 b1 a2 b2 a3 b3;go_wp2_with fail;refine(rOften_any ap.out hlv).mono ?_;rintro e w4 ⟨v4,rfl,ag,an⟩;have au:=zA ag;have af:=zA (ad.out.trans (an.mono ad.out.size));clear ag an c0 c1 c2;obtain⟨c0,c1,c2⟩:=HC.out _ af.out;go_wp2_with fail;refine(rSameM_any n _ hlv).mono ?_;rintro e w5 ⟨v5,rfl,am,ae⟩;have aw:=zA am;have ao:=zA (au.out.below ae);have ah:=zA (af.out.trans (ae.mono af.out.size));clear am ae;go_wp2_with fail;refine(rEither_any ao.out aw.out hlv).mono ?_;rintro e w6 ⟨v6,rfl,ai,aj⟩;have ay:=zA ai;have aq:=zA (ah.out.trans (aj.mono ah.out.size));clear ai aj;have ak:Hid (R=jaW (jep n X) jc2):=zA (by rw[HR.out];simp[endM]);go_wp2;go_ret;exact⟨_,rfl,by rw[ak.out];exact ay.out,jaa aq.out⟩
 . subst e5;clear a1 b1 a2 b2 a3 b3;go_wp2_with fail;refine(rOften_any ap.out hlv).mono ?_;rintro e w4 ⟨v4,rfl,ag,an⟩;have au:=zA ag;have af:=zA (ad.out.trans (an.mono ad.out.size));clear ag an c0 c1 c2;obtain⟨c0,c1,c2⟩:=HC.out _ af.out;have ak:Hid (R=jep n X):=zA (by rw[HR.out];simp[endM]);go_wp2;go_ret;exact⟨_,rfl,by rw[ak.out];exact au.out,jaa af.out⟩
 . subst e6;clear a1 b1 a2 b2 a3 b3;go_wp2_with fail;refine(rSameM_any n _ hlv).mono ?_;rintro e w5 ⟨v5,rfl,am,ae⟩;have aw:=zA am;have ao:=zA (ap.out.below ae);have ah:=zA (ad.out.trans (ae.mono ad.out.size));clear am ae;go_wp2_with fail;refine(rEither_any ao.out aw.out hlv).mono ?_;rintro e w6 ⟨v6,rfl,ai,aj⟩;have ay:=zA ai;have aq:=zA (ah.out.trans (aj.mono ah.out.size));clear ai aj;have ak:Hid (R=jaW X jc2):=zA (by rw[HR.out];simp[endM]);go_wp2;go_ret;exact⟨_,rfl,by rw[ak.out];exact ay.out,jaa aq.out⟩
theorem rLead_any{fs:List Fa}{V:List Wd}(hV:V=jac fs)(hlf:fs.length<=100000)(hlv:V.length<=100000):∀(t:Vt) (d:Nat),jaf d t.pt=true->LeadC fs V t:=by
 apply Vt.ind;intro k wd v l ih d ad;cases d with
 |zero=>simp[jaf]at ad
 |succ d=>
  rw[Vt.pt_mk,jaf,Bool.and_eq_true,Bool.and_eq_true,yF,decide_eq_true_eq,zH]at ad;obtain⟨⟨ae,h24⟩,hk⟩:=ad;have aa:∀x∈l,LeadC fs V x:=fun x hx=>ih x hx d (hk x.pt (zW hx))
  have ac:∀k:Int,k=4\/k=5\/k=6->l.length=1->LeadC fs V ⟨k,wd,v,l⟩:=by
   intro k ab hn;obtain⟨x,rfl⟩:=List.length_eq_one_iff.1 hn;exact rLead_one hlv ab (aa x (by simp))
  rcases formed_casesM ae with⟨rfl,_,_⟩|⟨rfl,_⟩|⟨rfl,_⟩|⟨rfl,hn⟩|⟨rfl,hn⟩|⟨rfl,hn⟩
  . exact rLead_word hV hlf hlv
  . exact rLead_seq hlv aa
  . exact rLead_alt hlv aa
  . exact ac 4 (.inl rfl) hn
  . exact ac 5 (.inr (.inl rfl)) hn
  . exact ac 6 (.inr (.inr rfl)) hn
end Go.Proofs.YtkbgmcmcpbegjaaGreatDoor
