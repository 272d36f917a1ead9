/- GOn, GEach, GGraph, NTab. -/
import Derived.Test.YtkbgmcmcpbegjaaGreatDoorZR10
import Derived.Test.YtkbgmcmcpbegjaaGreatDoorZR11
import Derived.Shelf.Spec.TrailingZeros
import Derived.Deep.LoopGhost
import Derived.WalkMore
import Derived.Shelf.GgClosure.Gives
import Derived.Lib.LaidTab
import Derived.MakeChecks
set_option maxRecDepth 100000
set_option maxHeartbeats 8000000
namespace Go.Proofs.YtkbgmcmcpbegjaaGreatDoor
open Go.RowKit
def TabG(w:World):Prop:=TabAt 0 Lib.deBruijn32tab w
theorem TabG.fr{S:Nat->Prop}{w w':World}(h:TabG w)(hs:S 0)(hf:Fr S w w'):TabG w':=fun j hj=>by
 have:=h j hj;simpa only[World.cell?,hf.block 0 hs]using this
theorem TabG.below{B:Nat}{w w':World}(h:TabG w)(hs:0<B)(hf:Below B w w'):TabG w':=fun j hj=>by
 have:=h j hj;simpa only[World.cell?,hf.block 0 hs]using this
theorem tz_core(x k idx:Nat)(w:World)(hx0:((x:Int)==0)=false)(key:bits BinOp.and IntKind.u32 (x:Int) (-(x:Int)%4294967296)*125613361%4294967296/134217728=(idx:Int))(hi:idx<32)(hk:k<32)(hcell:w.cell? ⟨0,idx,none⟩=some (.int .u8 k)):
 Calls Tryz.prog 92 #[.int .u32 x] w fun e w'=>e=.returned (.int .i64 k)/\w'=w:=by
 go_enter Tryz.func92,Tryz.ntmps92;go_wp2_with (simp only[key]);go_ret;exact⟨rfl,rfl⟩
theorem tz_any{x:Nat}(hx:x<4294967296)(hx0:x≠0){w:World}(hT:TabG w):
 Calls Tryz.prog 92 #[.int .u32 x] w fun e w'=>e=.returned (.int .i64 (Lib.ctz 32 x:Nat))/\w'=w:=by
 obtain⟨ac,hk⟩:=Lib.lowest_bit 32 x hx0 hx;obtain⟨hi,ab⟩:=Lib.deBruijn32_at _ hk;have aa:=hT _ hi;rw[ab]at aa;exact tz_core x _ _ w (by simp;omega) (tz32_key x _ hx hx0 ac) hi hk aa
theorem ctz_bits{x:Nat}(hx0:x≠0)(hx:x<33554432):Lib.ctz 32 x<25/\x.testBit (Lib.ctz 32 x)=true/\(∀j,(x &&& (x-1)).testBit j=(x.testBit j&&decide (j≠Lib.ctz 32 x)))/\x &&& (x-1)<x:=by
 obtain⟨m,hm,hk⟩:=Lib.ctzFrom_spec 32 x (by omega) (by omega);have e:Lib.ctz 32 x=Lib.ctzFrom 32 x:=by simp[Lib.ctz,hx0]
 rw[e];obtain⟨k,ae⟩:=eX (Lib.ctzFrom 32 x);rw[<- ae]at hm hk ⊢;have ac:∀i,(2*m+1).testBit i=if i=0 then true else (2*m).testBit i:=fun i=>by
  cases i with
  |zero=>simp
  |succ i=>
   rw[if_neg (by omega),Nat.testBit_succ,Nat.testBit_succ];congr 1;omega
 have hpos:=Nat.two_pow_pos k;have h1:x-1=2^k*(2*m)+(2^k-1):=by
  rw[hm,Nat.mul_add,yC];omega
 have ad:∀j,x.testBit j=(decide (j>=k)&&(2*m+1).testBit (j-k)):=fun j=>by rw[hm,Nat.testBit_two_pow_mul]
 have af:∀j,(x-1).testBit j=if j<k then (2^k-1).testBit j else (2*m).testBit (j-k):=fun j=>by
  rw[h1,Nat.testBit_two_pow_mul_add _ (by omega)]
 have ab:x.testBit k=true:=by rw[ad];simp
 have aa:∀j,(x &&& (x-1)).testBit j=(x.testBit j&&decide (j≠k)):=fun j=>by
  rw[Nat.testBit_and,af,ad];by_cases hj:j<k
  . rw[if_pos hj];have:decide (j>=k)=false:=decide_eq_false (by omega);rw[this];rfl
  . rw[if_neg hj,zU (show j>=k by omega),Bool.true_and,ac];by_cases ej:j=k
    . subst ej;simp
    . rw[if_neg (by omega),zU ej,Bool.and_self,Bool.and_true]
 refine⟨?_,ab,aa,?_⟩
 . apply Decidable.byContradiction;intro hge;rw[Nat.testBit_lt_two_pow (zQ hx (by
    have:2^25<=2^k:=Nat.pow_le_pow_right (by omega) (by omega);simpa using this))]at ab
   cases ab
 . have h2:x &&& (x-1)<=x:=Nat.and_le_left;have h3:x &&& (x-1)≠x:=fun e2=>by
    have:=aa k;rw[e2,ab]at this;simp at this
   omega
def MayS(d:Sd)(F r M:Nat):Prop:=∀j,M.testBit j=true↔∃i,i<25/\F.testBit i=true/\r.testBit i=false/\(d.beh i).testBit j=true
theorem MayS.step{d:Sd}{F r M:Nat}(h:MayS d F r M)(hr:r<33554432)(hr0:r≠0)(hs:∀i,r.testBit i=true->F.testBit i=true):MayS d F (r &&& (r-1)) (M ||| d.beh (Lib.ctz 32 r))/\∀i,(r &&& (r-1)).testBit i=true->F.testBit i=true:=by
 obtain⟨hk,hb,aa,_⟩:=ctz_bits hr0 hr;constructor
 . intro j;rw[Nat.testBit_or,Bool.or_eq_true,h j];constructor
   . rintro (⟨i,hi,h1,h2,h3⟩|h1)
     . exact⟨i,hi,h1,by rw[aa,h2];rfl,h3⟩
     . exact⟨_,hk,hs _ hb,by rw[aa];simp,h1⟩
   . rintro⟨i,hi,h1,h2,h3⟩;by_cases e:i=Lib.ctz 32 r
     . rw[e]at h3;exact .inr h3
     . rw[aa,zU e,Bool.and_true]at h2;exact .inl ⟨i,hi,h1,h2,h3⟩
 . intro i hi;rw[aa,Bool.and_eq_true]at hi;exact hs i hi.1
theorem MayS.done{d:Sd}{F M:Nat}(h:MayS d F 0 M):M=behS d 25 F:=by
 apply Nat.eq_of_testBit_eq;intro j;have h1:=h j;have h2:=jd1 d F j 25;simp only[Nat.zero_testBit,true_and]at h1;cases hm:M.testBit j with
 |true=>exact((h2.2 (h1.1 hm))).symm
 |false=>
  cases hb:(behS d 25 F).testBit j with
  |false=>rfl
  |true=>
   rw[h1.2 (h2.1 hb)]at hm;cases hm
theorem MayS.lt{d:Sd}(hd:d.Ok){F r M:Nat}(h:MayS d F r M):M<16777216:=by
 apply Nat.lt_pow_two_of_testBit (n:=24);intro j hj;cases hb:M.testBit j with
 |false=>rfl
 |true=>
  obtain⟨i,hi,_,_,h3⟩:=(h j).1 hb;have:=jkJ (hd.beh i hi) h3;omega
theorem fold_step{d:Sd}(hd:d.Ok){st:List Nat}{s:Ss}{l:List Nat}{u:Nat}(h:Run d st s exN)(ht:s.todo=l++[u])(i:Nat):Run d st (((d.out u).take i).foldl (fun s' t=>s'.come t.1 (behS d 25 (s.fresh.getD u 0) &&& t.2)) (s.pop l u)) (exU u (s.fresh.getD u 0) i)/\mu (((d.out u).take i).foldl (fun s' t=>s'.come t.1 (behS d 25 (s.fresh.getD u 0) &&& t.2)) (s.pop l u))<mu s:=by
 induction i with
 |zero=>exact⟨h.pop ht,jl9 ht⟩
 |succ i ih=>
  cases hg:(d.out u)[i]? with
  |none=>
   have hlen:(d.out u).length<=i:=List.getElem?_eq_none_iff.1 hg;rw[zJ (by omega)]at ih ⊢;exact⟨ih.1.ex (fun v p j hj hx=>by obtain⟨rfl,h1,h2⟩:=hx;omega),ih.2⟩
  |some t=>
   rw[zS,hg,yQ,List.foldl_append,yN,List.foldl_nil];obtain⟨h1,h2⟩:=ih;obtain⟨h3,h4⟩:=h1.step hd (fun p hp=>h.snd u p (h.sub u p hp)) (jb5 h.fb u) hg;exact⟨h3,Nat.lt_of_le_of_lt h4 h2⟩
theorem Run.goOn{d:Sd}(hd:d.Ok){st:List Nat}{s:Ss}{l:List Nat}{u:Nat}(h:Run d st s exN)(ht:s.todo=l++[u]):Run d st (s.goOn d l u) exN/\mu (s.goOn d l u)<mu s:=by
 have:=fold_step hd h ht (d.out u).length;rw[List.take_length]at this;exact⟨this.1.ex (fun v p j hj hx=>by obtain⟨rfl,h1,h2⟩:=hx;omega),this.2⟩
theorem SrS.row{S:Nat->Prop}{w:World}{sb:Nat}{d:Sd}{s:Ss}{m:Sp}(h:SrS S w sb d s m){u:Nat}(hu:u<d.n):∃g off r N c,m.stv=.slice (some ⟨g,off,none⟩) N c/\N=d.n/\w.cell? ⟨g,off+u,none⟩=some r/\SlS csSt 2 S w r (d.out u)/\S g:=by
 have hl:m.rs.length=d.n:=by rw[<- h.ok.len,<- h.rsd,zH]
 obtain⟨r,hr⟩:∃r,m.rs[u]?=some r:=⟨_,zB (by omega)⟩
 obtain⟨ao,ad,e⟩:=h.steps.slice;have ab:=h.steps;rw[e]at ab;obtain⟨g,off,e1,hs,_,hc⟩:=ab.get hr;have ac:=hc 0 _ rfl;rw[yC,yA]at ac;have aa:d.out u=r.2:=by
  unfold Sd.out;rw[<- h.rsd,List.getD,zI,hr];rfl
 refine⟨g,off,r.1,_,ad,by rw[e,e1],hl,ac,?_,h.kS g hs⟩;rw[aa];exact(h.rows r (zC hr)).sub (fun b hb _=>h.kS b hb)
theorem goOn_any{S:Nat->Prop}{w:World}{sb:Nat}{d:Sd}{st:List Nat}{s:Ss}{m:Sp}{l:List Nat}{u:Nat}(h:SrS S w sb d ⟨s.came,s.fresh,s.seen,l⟩ m)(hS:Low S w)(hT:TabG w)(h0:S 0)(hr:Run d st s exN)(ht:s.todo=l++[u])(hn:d.n<=10000)(hol:(d.out u).length<=1000000):
 Calls Tryz.prog 61 #[.pointer (some ⟨sb,0,none⟩),.int .i64 (u:Int)] w (jlP S w sb d (s.goOn d l u)):=by
 have hu:u<d.n:=hr.tlt u (by rw[ht];simp);have H:=zA h;have HS:=zA hS;have HT:=zA hT;have H0:=zA h0;have HR:=zA hr;have aZ:=zA ht;have aE:=zA hn;obtain⟨a4,ak,a9,ap,a0,aY,a5,aV⟩:=h.cells;obtain⟨F,hF⟩:=eX (s.fresh.getD u 0);have a7:F<33554432:=by rw[hF];exact jb5 hr.fb u
 have k1:=h.fresh.cell (i:=u) (by dsimp only;rw[hr.fl];exact hu);dsimp only at k1;rw[<- hF]at k1;obtain⟨k1,k2⟩:=k1;have HF:=zA hF;have huI:(u:Int)<(d.n:Int):=by omega
 obtain⟨rg,ag,rv,N,rc,e1,e2,e3,e4,e5⟩:=h.row hu;subst e2;rw[e1]at ak;have ai:=zA e4;have aQ:=zA e5;have av:=zA e3;obtain⟨ra,ax,e6⟩:=e4.slice;subst e6;obtain⟨no,aB⟩:=eX ((d.out u).length);have aD:=zA aB;rw[<- aB]at ai av hol;clear h hS hT h0 hr ht hF a4 a9 a0 aY a5 aV e1 e3 e4 e5 aB;go_enter Tryz.func61,Tryz.ntmps61;go_wp2_with fail;go_loopw [4,5] (fun mv rv wr=>∃(M r:Nat),mv=.int .u32 (M:Int)/\rv=.int .u32 (r:Int)/\r<33554432/\MayS d F r M/\(∀i,r.testBit i=true->F.testBit i=true)/\Below w.heap.size w wr/\wr.heap=w.heap) (fun _ rv _=>(intOf rv).toNat)
 case atStart=>exact⟨0,F,rfl,rfl,a7,(show MayS d F F 0 from fun j=>by
  rw[Nat.zero_testBit];simp only[Bool.false_eq_true,false_iff];rintro⟨i,_,h1,h2,_⟩;rw[h1]at h2;cases h2),fun _ h=>h,zF _ _,rfl⟩
 case round=>
  obtain⟨M,r,rfl,rfl,aI,aj,ah,aN,ad⟩:=hrel;obtain⟨wx,aX⟩:=eX wr;subst aX;have ae:=zA aj;have ay:=zA ah;have an:=zA aN;have HH:=zA ad;clear aj ah aN ad;have hML:M<16777216:=ae.out.lt H.out.ok;by_cases hr0:r=0
  . have HM:Hid (M=behS d 25 F):=zA (by have:=ae.out;rw[hr0]at this;exact this.done);have aK:(r:Int)=0:=by omega
    rw[aK];clear aK hr0;have au:wx.cell? ⟨sb,26,none⟩=some (.slice (some ⟨rg,ag,none⟩) d.n rc):=by simpa only[World.cell?,HH.out]using ak
    have ao:wx.cell? ⟨sb,28,none⟩=some (.slice (some ⟨m.fb,0,none⟩) d.n d.n):=by simpa only[World.cell?,HH.out]using ap
    have ba:wx.cell? ⟨m.fb,u,none⟩=some (.int .u32 (F:Int)):=by simpa only[World.cell?,HH.out]using k1
    have a3:wx.frozen? ⟨m.fb,u,none⟩=false:=by simpa only[World.frozen?,HH.out]using k2
    have ar:wx.cell? ⟨rg,ag+u,none⟩=some (.slice ra no ax):=by simpa only[World.cell?,HH.out]using av.out
    have hrgne:¬rg=m.fb:=fun e=>H.out.fno (by rw[<- e];exact aQ.out)
    have hsbne:¬sb=m.fb:=H.out.sne.2.2.2.2.2.2.2;have a6:Hid (SrS S (wx.setCell ⟨m.fb,u,none⟩ (.int .u32 0)) sb d (s.pop l u) m):=zA ((H.out.below an.out).setFresh u 0);have aR:Hid (Fr S w (wx.setCell ⟨m.fb,u,none⟩ (.int .u32 0))):=zA ((jaK HS.out an.out).setCell H.out.fno _);have hdn:=aE.out;clear av ak ap k1 k2;go_wp2_with fail;go_loopw [44] (fun c wr=>∃(i:Nat) (m':Sp),i<=no/\c=.int .i64 i/\SrS S wr sb d (((d.out u).take i).foldl (fun s' t=>s'.come t.1 (behS d 25 (s.fresh.getD u 0) &&& t.2)) (s.pop l u)) m'/\Fr S w wr) (fun c _=>no-(intOf c).toNat)
    case atStart=>exact⟨0,m,zO _,rfl,a6.out,aR.out⟩
    case round=>
     obtain⟨i,m',hi,rfl,aG,aL⟩:=hrel;obtain⟨wy,aT⟩:=eX wr;subst aT;have aM:=zA aG;have am:=zA aL;clear aG aL au ao ba a3 ar;by_cases aw:i<no
     . have aq:(i:Int)<(no:Int):=by omega
       obtain⟨t,ac⟩:∃t,(d.out u)[i]?=some t:=⟨_,zB (by rw[<- aD.out];exact aw)⟩
       obtain⟨g,off,aU,hsg,hgl,aa⟩:=(ai.out.fr am.out).get ac;subst aU;have q0:=aa 0 _ rfl;have q1:=aa 1 _ rfl;obtain⟨t0,t1⟩:=t;dsimp only at q0 q1;rw[yA]at q0;have az:t0<d.n/\t1<16777216:=by
        have:∃l∈d.steps,(t0,t1)∈l:=by
         unfold Sd.out at ac;rw[List.getD]at ac;cases hg:d.steps[u]? with
         |none=>rw[hg]at ac;simp at ac
         |some l=>rw[hg]at ac;exact⟨l,zC hg,zC ac⟩
        obtain⟨l,hl,hm⟩:=this;exact H.out.ok.step l hl _ hm
       have b1:bits .and .u32 (M:Int) (t1:Int)=((M &&& t1:Nat):Int):=u32_and_nat M t1 (by omega) (by omega);obtain⟨A,hA⟩:=eX (M &&& t1);have a8:A<33554432:=by rw[hA];exact Nat.lt_of_le_of_lt Nat.and_le_left (by omega)
       rw[<- hA]at b1;have HX:Hid (((d.out u).take (i+1)).foldl (fun s' t=>s'.come t.1 (behS d 25 (s.fresh.getD u 0) &&& t.2)) (s.pop l u)=(((d.out u).take i).foldl (fun s' t=>s'.come t.1 (behS d 25 (s.fresh.getD u 0) &&& t.2)) (s.pop l u)).come t0 A):=zA (by
        rw[zS,ac,yQ,List.foldl_append,yN,List.foldl_nil,hA,HM.out,<- HF.out])
       obtain⟨o,ho⟩:=eX (Obj.cells #[.int .i64 (t0:Int),.int .u32 (t1:Int)] 121 (0,0));have al:Below wy.heap.size wy (wy.alloc o):=(zF _ _).alloc (zD _) _;have C:=zA (jic (aM.out.below al) ((HS.out.fr am.out).below al) ((fold_step H.out.ok HR.out aZ.out i).1.fit aE.out) az.1 a8);have a1:=zA al;subst ho;clear ac aa hA al;go_wp2_with fail;refine C.out.mono ?_;rintro e w1 ⟨rfl,⟨m2,aP⟩,aJ⟩;have aA:=zA aP;have aW:=zA ((am.out.next HS.out a1.out).trans aJ);clear aP aJ;go_wp2;go_roundw
       case rel=>exact⟨i+1,m2,by omega,by go_num,by rw[HX.out];exact aA.out,aW.out⟩
       case measure=>simp[intOf];omega
     . have aq:¬(i:Int)<(no:Int):=by omega
       have HX:Hid (((d.out u).take i).foldl (fun s' t=>s'.come t.1 (behS d 25 (s.fresh.getD u 0) &&& t.2)) (s.pop l u)=s.goOn d l u):=zA (by rw[Ss.goOn,zJ (by rw[<- aD.out];omega)]);go_wp2;go_end0;exact⟨rfl,⟨m',by rw[<- HX.out];exact aM.out⟩,am.out⟩
  . have hrI:((r:Int)!=0)=true:=by simp;omega
    have hr0I:¬(r:Int)=0:=by omega
    obtain⟨af,ab⟩:=ae.out.step aI hr0 ay.out;obtain⟨hk,_,_,aw⟩:=ctz_bits hr0 aI;have C:=zA (fun wr (hw:wr.heap=wx.heap)=>tz_any (x:=r) (w:=wr) (by omega) hr0 (fun j hj=>by
     have:=HT.out j hj;simpa only[World.cell?,hw,HH.out]using this))
    obtain⟨k,aF⟩:=eX (Lib.ctz 32 r);rw[<- aF]at C af hk;have q0:=(H.out.below an.out).beh hk;have a2:=H.out.ok.beh k hk;obtain⟨B,aO⟩:=eX (d.beh k);rw[<- aO]at q0 af a2;have b1:bits .or .u32 (M:Int) (B:Int)=((M ||| B:Nat):Int):=u32_or_nat M B (by omega) (by omega);have b2:bits .and .u32 (r:Int) ((r:Int)-1)=((r &&& (r-1):Nat):Int):=by
     have e:((r:Int)-1)=((r-1:Nat):Int):=by omega
     rw[e];exact u32_and_nat r (r-1) (by omega) (by omega)
    obtain⟨M2,aC⟩:=eX (M ||| B);obtain⟨r2,aH⟩:=eX (r &&& (r-1));rw[<- aC]at b1 af;rw[<- aH]at b2 af ab aw;have aS:=zA af;have aA:=zA ab;have hkI:(k:Int)<25:=by omega
    have hw1:((r:Int)-1)%4294967296=(r:Int)-1:=by omega
    have KQ:Hid (∀u:World,u.heap=wx.heap->u.cell? ⟨sb,k,none⟩=some (.int .u32 (B:Int))):=zA (fun u hu=>by simpa only[World.cell?,hu]using q0);clear af ab aF aO aC aH q0 ak ap k1 k2;go_wp2_with fail;go_region_held3 (fun u=>u.cell? ⟨sb,k,none⟩=some (.int .u32 (B:Int)))
     (first|exact KQ.out _ rfl)
     (first|(go_at_call 92;refine(C.out wx.drew rfl).mono ?_;rintro e w3 ⟨rfl,rfl⟩))
    all_goals (
     go_wp2;go_roundw
     case rel=>exact⟨M2,r2,rfl,rfl,by omega,aS.out,aA.out,an.out.drew,HH.out⟩
     case measure=>simp[intOf];omega)
structure LstS (S:Nat->Prop) (w:World) (v:Value) (L:List (Value×List Nat)):Prop where
 row:SlS jaN 1 S w v L
 ats:∀r∈L,NatS S w r.1 r.2
theorem LstS.fr{S:Nat->Prop}{w w':World}{v:Value}{L:List (Value×List Nat)}(h:LstS S w v L)(hf:Fr S w w'):LstS S w' v L:=
 ⟨h.row.fr hf,fun r hr=>(h.ats r hr).fr hf⟩
theorem LstS.sub{S T:Nat->Prop}{w:World}{v:Value}{L:List (Value×List Nat)}(h:LstS S w v L)(hs:∀b,S b->b<w.heap.size->T b):LstS T w v L:=
 ⟨h.row.sub hs,fun r hr=>(h.ats r hr).sub hs⟩
theorem LstS.below{S:Nat->Prop}{w w':World}{v:Value}{L:List (Value×List Nat)}(h:LstS S w v L)(hb:Below w.heap.size w w'):LstS S w' v L:=
 ⟨h.row.below hb,fun r hr=>(h.ats r hr).below hb⟩
def FoundC(fn:Nat)(lb:Array Value)(sb:Nat)(d:Sd)(L:List (Value×List Nat))(Inv:Nat->(Nat->Prop)->World->Prop):Prop:=
 ∀(i:Nat) (r:Value×List Nat) (S:Nat->Prop) (w:World) (s:Ss) (m:Sp),L[i]?=some r->Low S w->SrS S w sb d s m->Rest d s->(∀v p,(s.came.getD v 0).testBit p=true↔d.Rch r.2 v p)->Inv i S w->
  Calls Tryz.prog fn (#[.int .i64 (i:Int)]++lb) w fun e w'=>e=.returned (.tuple #[])/\∃T,(∀k,S k->T k)/\Low T w'/\SrS T w' sb d s m/\Inv (i+1) T w'
def EachE(S:Nat->Prop)(sb:Nat)(d:Sd)(n:Nat)(Inv:Nat->(Nat->Prop)->World->Prop)(e:Ending)(w':World):Prop:=
 e=.returned (.tuple #[])/\∃(T:Nat->Prop) (s:Ss) (m:Sp),(∀k,S k->T k)/\Low T w'/\SrS T w' sb d s m/\Rest d s/\Inv n T w'
theorem fold_bits{d:Sd}(hd:d.Ok){st:List Nat}{s:Ss}{l:List Nat}{u:Nat}(h:Run d st s exN)(ht:s.todo=l++[u]){v p:Nat}(hv:(s.came.getD v 0).testBit p=true)(i:Nat):((((d.out u).take i).foldl (fun s' t=>s'.come t.1 (behS d 25 (s.fresh.getD u 0) &&& t.2)) (s.pop l u)).came.getD v 0).testBit p=true:=by
 induction i with
 |zero=>exact hv
 |succ i ih=>
  cases hg:(d.out u)[i]? with
  |none=>
   have hlen:(d.out u).length<=i:=List.getElem?_eq_none_iff.1 hg;rw[zJ (by omega)]at ih ⊢;exact ih
  |some t=>
   rw[zS,hg,yQ,List.foldl_append,yN,List.foldl_nil];have h1:=(fold_step hd h ht i).1;have aa:∃l∈d.steps,t∈l:=by
    unfold Sd.out at hg;rw[List.getD]at hg;cases hg2:d.steps[u]? with
    |none=>rw[hg2]at hg;simp at hg
    |some l=>rw[hg2]at hg;exact⟨l,zC hg2,zC hg⟩
   obtain⟨l2,ab,hm⟩:=aa;obtain⟨h2,h3⟩:=hd.step l2 ab t hm;rw[jdd _ h1.cl h1.cb h2 (Nat.lt_of_le_of_lt Nat.and_le_right (by omega))];exact .inl ih
theorem goOn_bits{d:Sd}(hd:d.Ok){st:List Nat}{s:Ss}{l:List Nat}{u:Nat}(h:Run d st s exN)(ht:s.todo=l++[u])(hb:∀v∈st,(s.came.getD v 0).testBit 24=true):∀v∈st,((s.goOn d l u).came.getD v 0).testBit 24=true:=fun v hv=>by
 have:=fold_bits hd h ht (hb v hv) (d.out u).length;rw[List.take_length]at this;exact this
theorem each_any{S:Nat->Prop}{w:World}{sb:Nat}{d:Sd}{s:Ss}{m:Sp}{v:Value}{L:List (Value×List Nat)}{fn:Nat}{lb:Array Value}{Inv:Nat->(Nat->Prop)->World->Prop}
 (eg:∀args w,(callFunc fn args).run Tryz.prog w=.ok (.enter fn args) w)
 (h:SrS S w sb d s m) (hS:Low S w) (hr:Rest d s) (hn:d.n<=10000) (hol:∀u,(d.out u).length<=1000000)
 (hLl:L.length<=1000000) (hv:∀r∈L,(∀u∈r.2,u<d.n)/\r.2.length<=10000)
 (hI:∀i T w w',Inv i T w->Fr T w w'->Inv i T w') (hT:∀i T w,Inv i T w->LstS T w v L/\TabG w/\T 0)
 (hF:FoundC fn lb sb d L Inv) (h0:Inv 0 S w):
 Calls Tryz.prog 31 #[.pointer (some ⟨sb,0,none⟩),v,.func (.func fn) #[] lb] w (EachE S sb d L.length Inv):=by
 have hL:=(hT 0 S w h0).1;obtain⟨ao,cap,rfl⟩:=hL.row.slice;have H:=zA h;have HS:=zA hS;have HR:=zA hr;have ax:=zA hn;have a2:=zA hol;have HV:=zA hv;have HI:=zA hI;have HT:=zA hT;have HF:=zA hF;have H0:=zA h0;obtain⟨n,ar⟩:=eX L.length;rw[<- ar]at hLl ⊢;have HN:=zA ar;clear h hS hr hn hol hL hv hI hT hF h0 ar;go_enter Tryz.func31,Tryz.ntmps31;go_wp2_with fail;go_step3;go_wp2_with fail;go_step3;go_wp2_with fail;go_loopg [12] n (fun gg c wr=>∃(i:Nat) (T:Nat->Prop) (s':Ss) (m':Sp),i<=n/\n-i<=gg/\c=.int .i64 i/\Hid (∀k,S k->T k)/\Hid (Low T wr)/\Hid (SrS T wr sb d s' m')/\Hid (Rest d s')/\Hid (Inv i T wr))
 case atStart=>exact⟨0,S,s,m,zO _,Nat.sub_le _ _,rfl,zA (fun _ h=>h),HS,H,HR,H0⟩
 case round=>
  obtain⟨i,T,s',m',hi,hgg,rfl,aC,aa,aL,az,ab⟩:=hrel;obtain⟨wx,aU⟩:=eX wr;subst aU;have aD:=zA (HT.out i T wx ab.out).1;by_cases hlt:i<n
  . have av:(i:Int)<(n:Int):=by omega
    obtain⟨r,aq⟩:∃r,L[i]?=some r:=⟨_,zB (by rw[<- HN.out];exact hlt)⟩
    obtain⟨g,off,aS,_,_,ac⟩:=aD.out.row.get aq;subst aS;have q0:=ac 0 _ rfl;rw[yC,yA]at q0;have al:=zC aq;have aV:=zA aq;have C:=zA (jiU aL.out aa.out az.out ax.out (aD.out.ats r al) (HV.out r al).1 (HV.out r al).2);have HB:=zA (jgF az.out (HV.out r al).1 r.2.length);rw[List.take_length]at HB;obtain⟨rv,rl⟩:=r;dsimp only at q0 C HB;clear aq ac al;go_wp2_with fail;refine C.out.mono ?_;rintro e w1 ⟨rfl,⟨m1,aF⟩,aK⟩;have aH:=zA aF;have aO:=zA aK;clear aF aK q0;obtain⟨wb,aP⟩:=eX w1;subst aP;go_wp2_with fail;obtain⟨sB,aA⟩:=eX (s'.begin rl);have aE:Hid (Run d rl sB exN/\∀v∈rl,(sB.came.getD v 0).testBit 24=true):=zA (by rw[aA];exact HB.out);rw[<- aA]at aH;clear aA HB;obtain⟨N,hN⟩:=eX (mu sB);have aQ:=zA hN;clear hN;go_loopg [8] N (fun gg _ wr=>∃(s2:Ss) (m2:Sp),Hid (mu s2<=gg)/\Hid (Run d rl s2 exN)/\Hid (∀v∈rl,(s2.came.getD v 0).testBit 24=true)/\Hid (SrS T wr sb d s2 m2)/\Hid (Fr T wx wr))
    case atStart=>exact⟨sB,m1,zA (by rw[aQ.out];exact zD _),zA aE.out.1,zA aE.out.2,aH,aO⟩
    case round=>
     obtain⟨s2,m2,a1,ae,aI,am,af⟩:=hrel;obtain⟨wy,aR⟩:=eX wr;subst aR;cases ht:s2.todo with
     |nil=>
      have CT:=zA (jj5 am.out ht);have aj:=zA (ae.out.rest ht);have aW:=zA (fun v p=>ae.out.done aI.out ht v p);have ad:=HF.out i (rv,rl) T wy s2 m2 aV.out (aa.out.fr af.out) am.out aj.out aW.out (HI.out i T wx wy ab.out af.out);have ah:=zA ad;clear ht ad;go_wp2_with fail;refine CT.out.mono ?_;rintro e w2 ⟨rfl,hw⟩;subst hw;go_wp2_with (go_at_fn fn;refine ah.out.mono ?_;rintro e w3 ⟨rfl,T2,ag,an,aw,ak⟩);go_roundg (n-(i+1))
      case measure=>omega
      case rel=>exact⟨i+1,T2,s2,m2,by omega,zD _,by go_num,zA (fun k hk=>ag k (aC.out k hk)),zA an,zA aw,aj,zA ak⟩
     |cons a t=>
      obtain⟨l,u,au⟩:∃l u,s2.todo=l++[u]:=by
       rw[ht];exact⟨(a::t).dropLast,(a::t).getLast (by simp),(List.dropLast_concat_getLast (by simp)).symm⟩
      have CT:=zA (jj6 am.out (aa.out.fr af.out) au (ae.out.fit ax.out).tl);have ay:=zA au;clear ht au;go_wp2_with fail;refine CT.out.mono ?_;rintro e w2 ⟨rfl,⟨m3,aM⟩,ap⟩;obtain⟨_,ai,aN⟩:=HT.out i T w2 (HI.out i T wx w2 ab.out (af.out.trans ap));have CG:=zA (goOn_any aM ((aa.out.fr af.out).fr ap) ai aN ae.out ay.out ax.out (a2.out u));have aZ:=zA (af.out.trans ap);have aJ:=zA (ae.out.goOn am.out.ok ay.out);have aX:Hid (∀v∈rl,((s2.goOn d l u).came.getD v 0).testBit 24=true):=zA (goOn_bits am.out.ok ae.out ay.out aI.out);clear aM ap ai aN;go_wp2_with fail;refine CG.out.mono ?_;rintro e w4 ⟨rfl,⟨m4,aB⟩,aG⟩;have aY:=zA aB;have a0:=zA (aZ.out.trans aG);clear aB aG;go_wp2;go_roundg (mu (s2.goOn d l u))
      case measure=>have h1:=aJ.out.2;have h2:=a1.out;omega
      case rel=>exact⟨s2.goOn d l u,m4,zA (zD _),zA aJ.out.1,aX,aY,a0⟩
  . have av:¬(i:Int)<(n:Int):=by omega
    have aT:i=n:=by omega
    subst aT;go_wp2;go_end0;exact⟨rfl,T,s',m',aC.out,aa.out,aL.out,az.out,ab.out⟩
end Go.Proofs.YtkbgmcmcpbegjaaGreatDoor
namespace Go.Proofs.YtkbgmcmcpbegjaaGreatDoor
open Go.RowKit Go.Shelf
theorem map_keyG{w w':World}{k:TypeId}{R:Value->Option (DataW Unit×List MemPlace)}{b n:Nat}{D:DataW Unit}(h:w.ownsMap Tryz.prog k R b n D)(key:∀o,w.heap[b]?=some o->w'.heap[b]?=some o):w'.ownsMap Tryz.prog k R b n D:=by
 obtain⟨es,aa,h1,h2⟩:=h;exact⟨es,aa,key _ h1,h2⟩
theorem own_ne_mapG{w:World}{B n b m:Nat}{e k:TypeId}{size:Nat}{v:Value}{xs:List Value}{R:Value->Option (DataW Unit×List MemPlace)}{D:DataW Unit}(h:w.ownsRow B e size v n xs)(hb:w.ownsMap Tryz.prog k R b m D):v.ownBlock≠some b:=by
 obtain⟨es,clock,hb,_⟩:=hb;intro hv;rcases h.2 with⟨rfl,_⟩|⟨g,cap,cur,rfl,_,e3,_⟩
 . simp[Value.ownBlock]at hv
 . have:g=b:=by simpa[Value.ownBlock]using hv
   subst this;rw[hb]at e3;cases e3
theorem blk_ne_mapG{w:World}{b c m:Nat}{k t:TypeId}{cs:Array Value}{fz:Nat×Nat}{R:Value->Option (DataW Unit×List MemPlace)}{D:DataW Unit}(h:w.heap[c]?=some (.cells cs t fz))(hb:w.ownsMap Tryz.prog k R b m D):b≠c:=by
 obtain⟨es,clock,hb,_⟩:=hb;intro hv;subst hv;rw[hb]at h;cases h
theorem blk_grownG{w w':World}{b:Nat}{o:Obj}{row:Option Nat}(h:w.heap[b]?=some o)(hg:w.grownBy w' row)(hne:row≠some b):w'.heap[b]?=some o:=
 (hg.block b (lt_of_block h) (fun e=>hne e.symm)).trans h
theorem owns_grownG{w w':World}{B n:Nat}{e:TypeId}{size:Nat}{v:Value}{xs:List Value}{row:Option Nat}(h:w.ownsRow B e size v n xs)(hg:w.grownBy w' row)(hne:∀g,row=some g->v.ownBlock≠some g):w'.ownsRow B e size v n xs:=
 jae h (fun g _ hg2 ho=>(hg.block g (lt_of_block ho) (fun e=>hne g e.symm hg2)).trans ho)
theorem lawSG:Maps.Keyed Tryz.prog 9:=Maps.string_keyed Tryz.underlying9
theorem zeroIG(w:World):(zeroValue 3).run Tryz.prog w=.ok (.int .i64 0) w:=by kernel_rfl
theorem keySG(s:List UInt8)(hs:s.length<=maxLen):keyOf Tryz.prog 9 (.string ⟨s.toArray⟩)=some (.string s):=by
 have:=WideMaps.keyOf_string_mk (P:=Tryz.prog) (k:=9) Tryz.underlying9 (s:=⟨s.toArray⟩) (by rw[jbG];exact hs);simpa using this
theorem cells3G{w:World}{b:Nat}{c0 c1 c2:Value}{t:TypeId}(h:w.heap[b]?=some (.cells #[c0,c1,c2] t (0,0))):
 (w.cell? ⟨b,0,none⟩=some c0/\w.cell? ⟨b,1,none⟩=some c1/\w.cell? ⟨b,2,none⟩=some c2)/\
 (w.frozen? ⟨b,0,none⟩=false/\w.frozen? ⟨b,1,none⟩=false/\w.frozen? ⟨b,2,none⟩=false):=by
 simp[World.cell?,World.frozen?,h]
theorem set3_0{w:World}{b:Nat}{c0 c1 c2 v:Value}{t:TypeId}(h:w.heap[b]?=some (.cells #[c0,c1,c2] t (0,0))):(w.setCell ⟨b,0,none⟩ v).heap[b]?=some (.cells #[v,c1,c2] t (0,0)):=by
 simp[World.setCell,Array.getElem?_modify,h]
theorem set3_2{w:World}{b:Nat}{c0 c1 c2 v:Value}{t:TypeId}(h:w.heap[b]?=some (.cells #[c0,c1,c2] t (0,0))):(w.setCell ⟨b,2,none⟩ v).heap[b]?=some (.cells #[c0,c1,v] t (0,0)):=by
 simp[World.setCell,Array.getElem?_modify,h]
theorem infoSG:(Tryz.prog.info? 9).map (fun i=>(i.zero,i.size,i.bytes))=some (some (.string ⟨#[]⟩),1,16):=by kernel_rfl
theorem infoEG:(Tryz.prog.info? 109).map (fun i=>(i.zero,i.size,i.bytes))=some (some (.agg #[.int .i64 0,.string ⟨#[]⟩,.int .i64 0]),3,32):=by kernel_rfl
abbrev Eg:=Nat×Wd×Nat
abbrev csE(e:Eg):List Value:=[.int .i64 (e.1:Int),.string ⟨e.2.1.toArray⟩,.int .i64 (e.2.2:Int)]
theorem csE_len(x:Eg):(csE x).length=3:=rfl
structure GrB (S:Nat->Prop) (w:World) (gb mb:Nat) (nv ev:Value) (D:DataW Unit) (c:Nat) (N:List Wd) (E:List Eg):Prop where
 blk:w.heap[gb]?=some (.cells #[nv,.map (some mb),ev] 75 (0,0))
 ow:w.ownsRow 0 9 1 nv N.length (N.flatMap csT)
 oe:w.ownsRow 0 109 3 ev E.length (E.flatMap csE)
 om:w.ownsMap Tryz.prog 9 (plainElem Tryz.prog 3) mb c D
 out:¬S gb
 outw:∀g,nv.ownBlock=some g->¬S g
 oute:∀g,ev.ownBlock=some g->¬S g
 outm:¬S mb
 keys:∀s,Maps.has D (.string s)=decide (s∈N)
section
variable {S:Nat->Prop} {w:World} {gb mb c:Nat} {nv ev:Value} {D:DataW Unit} {N:List Wd} {E:List Eg}
theorem GrB.keepOut{w':World}(h:GrB S w gb mb nv ev D c N E)(key:∀k (o:Obj),¬S k->w.heap[k]?=some o->w'.heap[k]?=some o):GrB S w' gb mb nv ev D c N E:=
 { h with blk:=key gb _ h.out h.blk,ow:=jae h.ow (fun g o hg ho=>key g o (h.outw g hg) ho),oe:=jae h.oe (fun g o hg ho=>key g o (h.oute g hg) ho),om:=map_keyG h.om (fun o ho=>key mb o h.outm ho) }
theorem GrB.below{w':World}(h:GrB S w gb mb nv ev D c N E)(hb:Below w.heap.size w w'):GrB S w' gb mb nv ev D c N E:=
 h.keepOut (fun k _ _ ho=>(hb.block k (lt_of_block ho)).trans ho)
theorem GrB.turned{w':World}(h:GrB S w gb mb nv ev D c N E)(hg:w.grownBy w' (some mb)):
 w'.heap[gb]?=some (.cells #[nv,.map (some mb),ev] 75 (0,0))/\w'.ownsRow 0 9 1 nv N.length (N.flatMap csT)/\w'.ownsRow 0 109 3 ev E.length (E.flatMap csE):=by
 refine⟨blk_grownG h.blk hg (fun e=>blk_ne_mapG h.blk h.om (Option.some.inj e)),owns_grownG h.ow hg (fun g e=>?_),owns_grownG h.oe hg (fun g e=>?_)⟩
 . rw[<- e];exact own_ne_mapG h.ow h.om
 . rw[<- e];exact own_ne_mapG h.oe h.om
theorem GrB.setNames{w':World}{v:Value}{N':List Wd}{D':DataW Unit}{c':Nat}(hblk:w.heap[gb]?=some (.cells #[nv,.map (some mb),ev] 75 (0,0)))(how:w.ownsRow 0 9 1 nv N.length (N.flatMap csT))(hoe:w.ownsRow 0 109 3 ev E.length (E.flatMap csE))(hom:w.ownsMap Tryz.prog 9 (plainElem Tryz.prog 3) mb c' D')
 (hS:Low S w) (h1:¬S gb) (h2:∀g,nv.ownBlock=some g->¬S g) (h3:∀g,ev.ownBlock=some g->¬S g) (h4:¬S mb)
 (hk:∀k,k<w.heap.size->nv.ownBlock≠some k->w'.heap[k]?=w.heap[k]?) (hv:w'.ownsRow 0 9 1 v N'.length (N'.flatMap csT)) (hg:∀g,v.ownBlock=some g->nv.ownBlock=some g\/w.heap.size<=g) (hkeys:∀s,Maps.has D' (.string s)=decide (s∈N')):
 GrB S (w'.setCell ⟨gb,0,none⟩ v) gb mb v ev D' c' N' E:=by
 have aa:w'.heap[gb]?=some (.cells #[nv,.map (some mb),ev] 75 (0,0)):=(hk gb (lt_of_block hblk) (jan how hblk (by decide))).trans hblk;have ho:∀k,k≠gb->(w'.setCell ⟨gb,0,none⟩ v).heap[k]?=w'.heap[k]?:=fun k hk=>zM _ _ _ _ hk
 refine⟨set3_0 aa,jae hv (fun g o hg2 ho2=>(ho g (fun e=>?_)).trans ho2),jae hoe (fun g o hg2 ho2=>(ho g (fun e=>?_)).trans ((hk g (lt_of_block ho2) (fun e=>?_)).trans ho2)),map_keyG hom (fun o ho2=>(ho mb (blk_ne_mapG hblk hom)).trans ((hk mb (lt_of_block ho2) (own_ne_mapG how hom)).trans ho2)),h1,fun g hg2 hs=>?_,h3,h4,hkeys⟩
 . exact jan hv aa (by decide) (by rw[hg2,e])
 . exact jan hoe hblk (by decide) (by rw[hg2,e])
 . rcases how.2 with⟨e1,_⟩|⟨b,cap,cur,e1,_,e3,_⟩
   . rw[e1]at e;simp[Value.ownBlock]at e
   . have:b=g:=by rw[e1]at e;simpa[Value.ownBlock]using e
     subst this;exact jan hoe e3 (by decide) hg2
 . rcases hg g hg2 with h5|h5
   . exact h2 g h5 hs
   . have:=hS g hs;omega
end
def nameL(N:List Wd)(s:Wd):List Wd:=if s∈N then N else N++[s]
theorem keys_put{D:DataW Unit}{N:List Wd}{s:Wd}{d:DataW Unit}(hm:Maps.IsMap D)(h:∀s,Maps.has D (.string s)=decide (s∈N)):∀t,Maps.has (D.put (.string s) d) (.string t)=decide (t∈N++[s]):=fun t=>by
 by_cases e:t=s
 . subst e;rw[Maps.has_put_same hm (show WideAt.IsKeyLit (.string t)from trivial)];simp
 . rw[Maps.has_put_other (by simpa using e),h t];simp[e]
theorem keys_same{D:DataW Unit}{N:List Wd}{s:Wd}{d:DataW Unit}(hm:Maps.IsMap D)(h:∀s,Maps.has D (.string s)=decide (s∈N))(hs:s∈N):∀t,Maps.has (D.put (.string s) d) (.string t)=decide (t∈N):=fun t=>by
 rw[keys_put hm h];by_cases e:t=s
 . subst e;simp[hs]
 . simp[e]
def NameE(S:Nat->Prop)(w:World)(gb mb c:Nat)(ev:Value)(N':List Wd)(E:List Eg)(e:Ending)(w':World):Prop:=
 e=.returned (.tuple #[])/\(∃nv' D' c',c'<=c+1/\GrB S w' gb mb nv' ev D' c' N' E)/\Fr S w w'
theorem name_any{S:Nat->Prop}{w:World}{gb mb c:Nat}{nv ev:Value}{D:DataW Unit}{N:List Wd}{E:List Eg}(h:GrB S w gb mb nv ev D c N E)(hS:Low S w)(s:Wd)(hs:s.length<=140737488351232)(hl:N.length<=1000000)(hc:c<=1000000):
 Calls Tryz.prog 55 #[.pointer (some ⟨gb,0,none⟩),.string ⟨s.toArray⟩] w (NameE S w gb mb c ev (nameL N s) E):=by
 have H:=zA h;have HS:=zA hS;have HK:=zA (keySG s (by unfold maxLen;omega));have hh:=h.keys s;obtain⟨⟨g0,g1,g2⟩,_⟩:=cells3G h.blk;obtain⟨R,hR⟩:=eX (nameL N s);rw[<- hR];have HR:=zA hR;clear h hS hR;by_cases hm:s∈N
 . have ai:Maps.has D (.string s)=true:=by rw[hh];exact zU hm
   have HX:Hid (R=N):=zA (by rw[HR.out,nameL,if_pos hm]);have HM:=zA ai;clear hh hm ai;go_enter Tryz.func55,Tryz.ntmps55;go_wp2_with (at_lookup;refine wpList_lookup_own_ok_int _ rfl _ _ 72 rfl 9 3 .i64 lawSG Tryz.underlying72 Tryz.underlying3 (zeroIG _) mb _ D rfl H.out.om _ _ rfl HK.out ?_;intro cc av ap;rw[HM.out];clear av ap);go_end0;exact⟨rfl,⟨nv,D,c,by omega,by rw[HX.out];exact H.out⟩,Fr.refl _ _⟩
 . have ai:Maps.has D (.string s)=false:=by rw[hh];exact decide_eq_false hm
   have HX:Hid (R=N++[s]):=zA (by rw[HR.out,nameL,if_neg hm]);have HM:=zA ai;obtain⟨i0,aB,aF,aH,aE⟩:=jal infoSG;obtain⟨ao,aq,al⟩:=jab H.out.ow;obtain⟨nn,ak⟩:=eX N.length;rw[<- ak]at al hl;have an:=zA ak;have ag:=zA al;clear hh hm ai ak al HR;go_enter Tryz.func55,Tryz.ntmps55;go_wp2_with (at_lookup;refine wpList_lookup_own_ok_int _ rfl _ _ 72 rfl 9 3 .i64 lawSG Tryz.underlying72 Tryz.underlying3 (zeroIG _) mb _ D rfl H.out.om _ _ rfl HK.out ?_;intro cc av ap;rw[HM.out];clear av ap);refine(jc9 _ _ (by rw[jbG];omega)).mono ?_;rintro e w2 ⟨rfl,am⟩;have H2:=zA (H.out.below am);have F2:=zA (jaK HS.out am);clear am g0 g1 g2;obtain⟨⟨g0,g1,g2⟩,_⟩:=cells3G H2.out.blk;go_wp2_with (at_mapUpdate;refine wpList_mapUpdate_own _ rfl _ _ _ 72 rfl 9 3 lawSG Tryz.underlying72 _ mb _ D rfl H2.out.om ?m1 _ _ _ rfl rfl HK.out _ [] (plainElem_int Tryz.underlying3 ?m2) ?_)
   case m1=>unfold maxLen;omega
   case m2=>decide
   intro w3 ae ac;obtain⟨au,aj,az⟩:=H2.out.turned ac;have F3:=zA (F2.out.grown HS.out ac (fun g e=>by rw[<- Option.some.inj e];exact H2.out.outm));have aC:=zA ae;have ay:=zA au;have aG:=zA az;have ax:Hid (w3.ownsRow 0 9 1 (.slice ao nn aq) nn (N.flatMap csT)):=zA (by rw[<- ag.out,an.out];exact aj);clear g0 g1 g2 ae ac az aj;obtain⟨⟨g0,g1,g2⟩,_⟩:=cells3G au;rw[ag.out]at g0;clear au;go_wp2_with (at_builtin;refine wpList_append_lies _ rfl _ _ _ rfl 0 9 i0 _ 1 16 Tryz.underlying34 aB aF aH aE rfl (by decide) (.slice ao nn aq) _ _ (by rfl) (ax.out.alloc _) ⟨w3.heap.size,0,none⟩ 1 1 [.string ⟨s.toArray⟩] (by rfl) (by rfl) ?d1 ?d2 (by decide) ?d3 ?d4 (zO _) (w3.heap.size+1) (by simp) ?_)
   case d1=>exact World.news_of_block (cs:=#[.string ⟨s.toArray⟩]) (t:=9) (fr:=(0,0)) (heap_alloc_new w3 _)
   case d2=>simp[Value.oneCell']
   case d3=>unfold maxLen;omega
   case d4=>omega
   intro gg ad w5 af aa ah aw;have ab:=jbb aa;have aD:w3.heap.size<=w5.heap.size:=by have:=aa.size;simp at this;omega
   have ar:Hid (GrB S (w5.setCell ⟨gb,0,none⟩ (.slice (some ⟨gg,0,none⟩) (nn+1) ad)) gb mb (.slice (some ⟨gg,0,none⟩) (nn+1) ad) ev (D.put (.string s) (.lit (.int .i64 0))) (c+1) (N++[s]) E):=zA (by
    have hv:w5.ownsRow 0 9 1 (.slice (some ⟨gg,0,none⟩) (nn+1) ad) (N++[s]).length ((N++[s]).flatMap csT):=by
     rw[zG,<- an.out,zP];exact af
    have aj:w3.ownsRow 0 9 1 nv N.length (N.flatMap csT):=by rw[ag.out,<- an.out];exact ax.out
    exact GrB.setNames ay.out aj aG.out aC.out (HS.out.fr F3.out) H2.out.out H2.out.outw H2.out.oute H2.out.outm (fun k hk hne=>ab k hk (by rw[<- ag.out];exact hne)) hv (fun g hg=>by
     have e1:gg=g:=by simpa[Value.ownBlock]using hg
     subst e1;rcases ah with e2|e2
     . left;rw[ag.out];exact e2
     . right;omega) (keys_put H2.out.om.isMap H2.out.keys))
   have F5:Hid (Fr S w (w5.setCell ⟨gb,0,none⟩ (.slice (some ⟨gg,0,none⟩) (nn+1) ad))):=zA (Fr.setCell (Fr.trans F3.out ⟨aa.os,aa.tape,aa.output,aD,fun k hk=>ab k ((HS.out.fr F3.out) k hk) (fun e=>H2.out.outw k (by rw[ag.out];exact e) hk)⟩) H2.out.out _);have aA:w5.heap[gb]?=some (.cells #[.slice ao nn aq,.map (some mb),ev] 75 (0,0)):=by
    have:=ay.out;rw[ag.out]at this;exact(ab gb (lt_of_block this) (jan ax.out this (by decide))).trans this
   clear g0 g1 g2;obtain⟨⟨g0,g1,g2⟩,⟨f0,f1,f2⟩⟩:=cells3G aA;clear af aa ah aw ab aA;go_wp2;go_end0;exact⟨rfl,⟨_,_,c+1,zD _,by rw[HX.out];exact ar.out⟩,F5.out⟩
theorem tabG_of_laid{W:World}(h:laidMetH Tryz.prog [("math/bits.deBruijn32tab",Rows.laid_math_bits_deBruijn32tab)] W):TabG W:=by
 rw[MakeChecks.laidMetH_plain _ _ _ (by kernel_rfl)]at h;have hg:Tryz.prog.globalNamed "math/bits.deBruijn32tab" =some 0:=by kernel_rfl
 have ht:(Tryz.prog.globals[0]?).map (·.type)=some 176:=by kernel_rfl
 have h2:Lib.TabIs Tryz.prog W "math/bits.deBruijn32tab" .u8 (Lib.deBruijn32tab.map fun (n:Nat)=>(n:Int)):=Lib.tabIs_of_head (n:=32) (e:=5) hg ht (by kernel_rfl) (by kernel_rfl) (by kernel_rfl) (by kernel_rfl) (rest:=[]) h;intro j hj;have h3:=h2.cell hg j (by simpa using hj);rw[h3];congr 2;have aa:j<Lib.deBruijn32tab.length:=hj;simp only[List.getD,zI];rw[zB aa];rfl
end Go.Proofs.YtkbgmcmcpbegjaaGreatDoor
