/- GTake, GOn, GEach, BFol, NTab. -/
import Derived.Test.YtdalcipmpelifaaGreatDoorMG7
import Derived.Shelf.Spec.TrailingZeros
import Derived.Deep.LoopGhost
import Derived.WalkMore
import Derived.Shelf.GgClosure.Gives
import Derived.Laws.ResultCell
import Derived.Deep.WholeRow
import Derived.Lib.LaidTab
import Derived.MakeChecks
set_option maxRecDepth 100000
namespace Go.Proofs.YtdalcipmpelifaaGreatDoor
open Go.RowKit
theorem owns_takeG{w:World}{B n m:Nat}{e:TypeId}{ao:Option Addr}{cap:Nat}{xs:List Value}(h:w.ownsRow B e 1 (.slice ao n cap) n xs)(hm:m<=n):w.ownsRow B e 1 (.slice ao m cap) m (xs.take m):=by
 have hl:=h.1;refine⟨by rw[yL];omega,?_⟩;rcases h.2 with⟨e1,e2⟩|⟨g,cap',cur,e1,e2,e3,e4,e5,e6,e7⟩
 . simp only[Value.slice.injEq]at e1;obtain⟨rfl,rfl,rfl⟩:=e1;left;have:m=0:=by omega
   subst this;exact⟨rfl,rfl⟩
 . simp only[Value.slice.injEq]at e1;obtain⟨rfl,_,rfl⟩:=e1;refine .inr ⟨g,cap,cur,rfl,e2,e3,by omega,e5,e6,?_⟩;rw[<- e7,List.take_take];congr 1;omega
theorem flatI_len(l:List Nat):(l.flatMap csI).length=l.length:=by
 have:=flat_len csI_len l;omega
theorem flatI_take(l:List Nat)(k:Nat):(l.flatMap csI).take k=(l.take k).flatMap csI:=by
 induction l generalizing k with
 |nil=>simp
 |cons a l ih=>
  cases k with
  |zero=>simp
  |succ k=>simp[ih k]
theorem own_cap{w:World}{B n:Nat}{e:TypeId}{ao:Option Addr}{cap:Nat}{xs:List Value}(h:w.ownsRow B e 1 (.slice ao n cap) n xs):n<=cap:=by
 rcases h.2 with⟨e1,e2⟩|⟨g,cap',cur,e1,e2,e3,e4,_⟩
 . injection e1;omega
 . injection e1 with _ _ e1;omega
theorem own_nat{w:World}{B:Nat}{v:Value}{l:List Nat}(h:w.ownsRow B 3 1 v l.length (l.flatMap csI)):NatS (fun g=>v.ownBlock=some g) w v l:=own_sl csI_len h rfl
theorem getI{w:World}{g o:Nat}{i:Nat}(h:∀(c:Nat) u,(csI i)[c]?=some u->w.cell? ⟨g,o+c,none⟩=some u):w.cell? ⟨g,o,none⟩=some (.int .i64 (i:Int)):=h 0 _ rfl
set_option maxHeartbeats 1000000 in
theorem take_none{S:Nat->Prop}{w:World}{sb:Nat}{d:Sd}{s:Ss}{m:Sp}(h:SrS S w sb d s m)(ht:s.todo=[]):
 Calls Tryz.prog 42 #[.pointer (some ⟨sb,0,none⟩)] w fun e w'=>e=.returned (.tuple #[.int .i64 0,.bool false])/\w'=w:=by
 obtain⟨g25,g26,g27,g28,g29,g30,f29,f30⟩:=h.cells;obtain⟨ta,tc,hv⟩:=own_slice h.todo;rw[ht]at hv;rw[hv]at g30;clear h hv;go_enter Tryz.func42,Tryz.ntmps42;go_wp2;go_ret2;exact⟨rfl,rfl⟩
set_option maxHeartbeats 2000000 in
theorem take_some{S:Nat->Prop}{w:World}{sb:Nat}{d:Sd}{s:Ss}{m:Sp}(h:SrS S w sb d s m)(hS:Low S w){l:List Nat}{u:Nat}(ht:s.todo=l++[u])(hl:s.todo.length<=1000000000000):
 Calls Tryz.prog 42 #[.pointer (some ⟨sb,0,none⟩)] w fun e w'=>e=.returned (.tuple #[.int .i64 (u:Int),.bool true])/\(∃m',SrS S w' sb d ⟨s.came,s.fresh,s.seen,l⟩ m')/\Fr S w w':=by
 obtain⟨g25,g26,g27,g28,g29,g30,f29,f30⟩:=h.cells;have H:=zA h;have HT:=zA ht;have HS:=zA hS;obtain⟨ta,tc,hv⟩:=own_slice h.todo;obtain⟨k,hk⟩:∃k,k=l.length:=⟨_,rfl⟩
 have hk1:s.todo.length=k+1:=by rw[ht,hk];simp
 rw[hk1]at hv hl;have HO:Hid (w.ownsRow 0 3 1 (.slice ta (k+1) tc) (k+1) (s.todo.flatMap csI)):=zA (by have:=h.todo;rw[hk1,hv]at this;exact this);have hcap:=own_cap HO.out;have HV:=zA hv;have HO2:Hid (w.ownsRow 0 3 1 (.slice ta k tc) l.length (l.flatMap csI)):=zA (by
  have:=owns_takeG HO.out (show k<=k+1 by omega);rw[flatI_take,HT.out,List.take_left' hk.symm,hk]at this;rw[hk];exact this)
 obtain⟨g,off,hta,_,hgl,hc⟩:∃g off,ta=some ⟨g,off,none⟩/\True/\g<w.heap.size/\w.cell? ⟨g,off+k,none⟩=some (.int .i64 (u:Int)):=by
  have h1:=own_nat h.todo;rw[hv]at h1;obtain⟨g,off,e1,_,e3,e4⟩:=h1.get (j:=k) (x:=u) (by rw[ht,hk];simp);have e5:=getI e4;rw[yK]at e5;exact⟨g,off,e1,trivial,e3,e5⟩
 subst hta;rw[hv]at g30;have HSR:Hid (SrS S (w.setCell ⟨sb,30,none⟩ (.slice (some ⟨g,off,none⟩) k tc)) sb d ⟨s.came,s.fresh,s.seen,l⟩ ⟨m.cb,m.fb,m.sv,.slice (some ⟨g,off,none⟩) k tc,m.stv,m.rs⟩):=zA (h.setTodo hS (zD _) (fun _ _ _=>rfl) HO2.out (fun g hg=>.inl (by rw[hv];exact hg)));have HF:Hid (Fr S w (w.setCell ⟨sb,30,none⟩ (.slice (some ⟨g,off,none⟩) k tc))):=zA ((Fr.refl _ _).setCell h.no _);have hkI:¬((k:Int)<0):=by omega
 have e1:((k:Int)+1-1)=(k:Int):=by omega
 have hkk:(k:Int)<=(tc:Int):=by omega
 clear h hS ht hv hk hk1 g25 g26 g27 g28 g29 f29;go_enter Tryz.func42,Tryz.ntmps42;go_wp2;go_ret2;exact⟨rfl,⟨_,HSR.out⟩,HF.out⟩
set_option maxHeartbeats 2000000 in
theorem endsAt_any{S:Nat->Prop}{w:World}{sb:Nat}{d:Sd}{s:Ss}{m:Sp}(h:SrS S w sb d s m)(hcl:s.came.length=d.n)(hcb:∀x∈s.came,x<33554432){v:Nat}(hv:v<d.n):
 Calls Tryz.prog 44 #[.pointer (some ⟨sb,0,none⟩),.int .i64 (v:Int)] w fun e w'=>e=.returned (.bool (decide (s.came.getD v 0 &&& d.last≠0)))/\w'=w.drew:=by
 obtain⟨g25,g26,g27,g28,g29,g30,f29,f30⟩:=h.cells;have k1:=(h.came.cell (i:=v) (by rw[hcl];exact hv)).1;have hc:=getD_lt hcb v;have hl:=h.ok.last;obtain⟨c,hce⟩:∃c,c=s.came.getD v 0:=⟨_,rfl⟩
 rw[<- hce]at k1 hc ⊢;have b1:bits .and .u32 (c:Int) (d.last:Int)=((c &&& d.last:Nat):Int):=u32_and_nat c d.last (by omega) (by omega);obtain⟨x,hx⟩:∃x,x=c &&& d.last:=⟨_,rfl⟩
 rw[<- hx]at b1 ⊢;have hvI:(v:Int)<(d.n:Int):=by omega
 clear h hce hx hcl hcb g26 g28 g29 g30 f29 f30;by_cases h0:x=0
 . subst h0;go_enter Tryz.func44,Tryz.ntmps44;go_wp2_with fail;go_region;go_wp2;go_ret;exact⟨by simp,rfl⟩
 . have hx0:((x:Int)!=0)=true:=by simp;omega
   have hx1:decide (x≠0)=true:=yC h0;rw[hx1];go_enter Tryz.func44,Tryz.ntmps44;go_wp2_with fail;go_region;go_wp2;go_ret;exact⟨by simp,rfl⟩
set_option maxHeartbeats 400000 in
theorem onlyM_any(p:Nat)(w:World)(hp:p<25):
 Calls Tryz.prog 40 #[.int .i64 (p:Int)] w fun e w'=>e=.returned (.int .u32 ((2^p:Nat):Int))/\w'=w:=by
 have hq:(2:Int)^p%4294967296=(2:Int)^p:=by
  have h1:2^p<2^25:=Nat.pow_lt_pow_right (by omega) hp;have h2:((2:Int)^p)=((2^p:Nat):Int):=by rw[Int.natCast_pow];rfl
  rw[h2];generalize 2^p=q at h1 ⊢;omega
 have HQ:=zA hq;clear hq;go_enter Tryz.func40,Tryz.ntmps40;go_wp2;go_ret;exact⟨by simp[HQ.out],rfl⟩
def Ss.begin(s:Ss)(st:List Nat):Ss:=st.foldl (fun s v=>s.come v 16777216) ⟨clearL s.came s.seen,s.fresh,[],[]⟩
theorem begin_run{d:Sd}{s:Ss}(h:Rest d s){st:List Nat}(hst:∀v∈st,v<d.n)(i:Nat):Run d st ((st.take i).foldl (fun s v=>s.come v 16777216) ⟨clearL s.came s.seen,s.fresh,[],[]⟩) exN/\∀v∈st.take i,((((st.take i).foldl (fun s v=>s.come v 16777216) ⟨clearL s.came s.seen,s.fresh,[],[]⟩:Ss)).came.getD v 0).testBit 24=true:=by
 induction i with
 |zero=>exact⟨h.clear st,by simp⟩
 |succ i ih=>
  cases hg:st[i]? with
  |none=>
   have hlen:st.length<=i:=List.getElem?_eq_none_iff.1 hg;rw[zK (by omega)]at ih ⊢;exact ih
  |some v=>
   have hv:=zC hg;rw[zT,hg,yR,List.foldl_append,yN,List.foldl_nil];obtain⟨h1,h2⟩:=ih;refine⟨h1.start hv (hst v hv),fun u hu=>?_⟩;rw[come_bits _ h1.cl h1.cb (hst v hv) (by omega)];rcases zN.1 hu with hu|hu
   . exact .inl (h2 u hu)
   . exact .inr ⟨zJ.1 hu,bit24⟩
theorem clearL_take{l c:List Nat}{i v:Nat}(h:l[i]?=some v):clearL c (l.take (i+1))=(clearL c (l.take i)).set v 0:=by
 unfold clearL;rw[zT,h];simp[List.foldl_append]
set_option maxHeartbeats 8000000 in
theorem begin_anyM{S:Nat->Prop}{w:World}{sb:Nat}{d:Sd}{s:Ss}{m:Sp}{v:Value}{st:List Nat}(h:SrS S w sb d s m)(hS:Low S w)(hr:Rest d s)(hn:d.n<=10000)(hv:NatS S w v st)(hst:∀v∈st,v<d.n)(hsl:st.length<=10000):
 Calls Tryz.prog 41 #[.pointer (some ⟨sb,0,none⟩),v] w (ComeE S w sb d (s.begin st)):=by
 obtain⟨ao,cap,rfl⟩:=hv.slice;have HV:=zA hv;obtain⟨n,hnn⟩:∃n,n=st.length:=⟨_,rfl⟩
 rw[<- hnn]at HV hsl ⊢;have HN:=zA hnn;obtain⟨R,hR⟩:∃R,R=s.begin st:=⟨_,rfl⟩
 rw[<- hR];have HR:=zA hR;have HS:=zA hS;have HRE:=zA hr;have H:=zA h;have HST:=zA hst;have HDN:=zA hn;obtain⟨sa,sc,hsv⟩:=own_slice h.seen;obtain⟨ns,hns⟩:∃n,n=s.seen.length:=⟨_,rfl⟩
 rw[<- hns]at hsv;have HNS:=zA hns;have HSV:=zA hsv;have hsb:ns<=1000000000000:=by have:=hr.sz;rw[<- hns]at this;omega
 have C24:=zA (fun wr=>onlyM_any 24 wr (by omega));have g29:=h.cells.2.2.2.2.1;rw[hsv]at g29;clear hv hnn hR hS hr h hns hsv hst hn;go_enter Tryz.func41,Tryz.ntmps41;go_wp2_with fail;go_loopw [13] (fun c wr=>∃i:Nat,i<=ns/\c=.int .i64 i/\SrS S wr sb d ⟨clearL s.came (s.seen.take i),s.fresh,s.seen,s.todo⟩ m/\Fr S w wr) (fun c _=>ns-(intOf c).toNat)
 case atStart=>exact⟨0,zS _,rfl,H.out,Fr.refl _ _⟩
 case round=>
  obtain⟨i,hi,rfl,hsr,hfr⟩:=hrel;obtain⟨wx,hwx⟩:∃wx,wx=wr:=⟨_,rfl⟩
  subst hwx;have HSR:=zA hsr;have HFR:=zA hfr;clear hsr hfr;by_cases hlt:i<ns
  . have hltI:(i:Int)<(ns:Int):=by omega
    obtain⟨u,hu⟩:∃u,s.seen[i]?=some u:=⟨_,zB (by rw[<- HNS.out];exact hlt)⟩
    have hud:u<d.n:=HRE.out.slt u (zC hu);obtain⟨g,off,hsa,q0⟩:∃g off,sa=some ⟨g,off,none⟩/\wx.cell? ⟨g,off+i,none⟩=some (.int .i64 (u:Int)):=by
     have h1:=own_nat HSR.out.seen;dsimp only at h1;rw[HSV.out]at h1;obtain⟨g,off,e1,_,_,e4⟩:=h1.get hu;have e5:=getI e4;rw[yK]at e5;exact⟨g,off,e1,e5⟩
    subst hsa;have g27:=HSR.out.cells.2.2.1;have k1:=HSR.out.came.cell (i:=u) (by dsimp only;rw[clearL_len,HRE.out.cl];exact hud);obtain⟨k1,k2⟩:=k1;have hudI:(u:Int)<(d.n:Int):=by omega
    have hdn:=HDN.out;have HS2:Hid (SrS S (wx.setCell ⟨m.cb,u,none⟩ (.int .u32 0)) sb d ⟨clearL s.came (s.seen.take (i+1)),s.fresh,s.seen,s.todo⟩ m):=zA (by
     rw[clearL_take hu];exact HSR.out.setCame u 0)
    have HF2:=zA (HFR.out.setCell (i:=u) H.out.cno (.int .u32 0));clear hu;go_wp2;go_roundw
    case rel=>exact⟨i+1,by omega,by go_num,HS2.out,HF2.out⟩
    case measure=>simp[intOf];omega
  . have hltI:¬(i:Int)<(ns:Int):=by omega
    have HSR2:Hid (SrS S wx sb d ⟨clearL s.came s.seen,s.fresh,s.seen,s.todo⟩ m):=zA (by
     have:=HSR.out;rw[zK (by rw[<- HNS.out];omega)]at this;exact this)
    clear HSR;have g29x:=HSR2.out.cells.2.2.2.2.1;have f29x:=HSR2.out.cells.2.2.2.2.2.2.1;rw[HSV.out]at g29x;have HSZ:Hid (SrS S (wx.setCell ⟨sb,29,none⟩ (.slice sa 0 sc)) sb d ⟨clearL s.came s.seen,s.fresh,[],[]⟩ ⟨m.cb,m.fb,.slice sa 0 sc,m.tv,m.stv,m.rs⟩):=zA (by
     have h1:=HSR2.out.seen;dsimp only at h1;rw[<- HNS.out,HSV.out]at h1;have h2:=HSR2.out.setSeen (l:=[]) (v:=.slice sa 0 sc) (HS.out.fr HFR.out) (zD _) (fun _ _ _=>rfl) (by simpa using owns_takeG h1 (zS _)) (fun g hg=>.inl (by rw[HSV.out];cases sa<;>exact hg));dsimp only at h2;rw[HRE.out.td]at h2;exact h2)
    have HFZ:=zA (HFR.out.setCell (i:=29) H.out.no (.slice sa 0 sc));have hscI:(0:Int)<=(sc:Int):=by omega
    go_wp2_with fail;go_loopw [34] (fun c wr=>∃(i:Nat) (m':Sp),i<=n/\c=.int .i64 i/\SrS S wr sb d ((st.take i).foldl (fun s v=>s.come v 16777216) ⟨clearL s.came s.seen,s.fresh,[],[]⟩) m'/\Fr S w wr) (fun c _=>n-(intOf c).toNat)
    case atStart=>exact⟨0,_,zS _,rfl,HSZ.out,HFZ.out⟩
    case round=>
     obtain⟨j,m',hj,rfl,hsr,hfr⟩:=hrel;obtain⟨wy,hwy⟩:∃wy,wy=wr:=⟨_,rfl⟩
     subst hwy;have HSR:=zA hsr;have HFY:=zA hfr;clear hsr hfr;by_cases hlt2:j<n
     . have hltI2:(j:Int)<(n:Int):=by omega
       obtain⟨u,hu⟩:∃u,st[j]?=some u:=⟨_,zB (by rw[<- HN.out];exact hlt2)⟩
       obtain⟨g,off,hao,_,_,hcell⟩:=(HV.out.fr HFY.out).get hu;subst hao;have q0:=getI hcell;rw[yK]at q0;have HX:Hid ((st.take (j+1)).foldl (fun s v=>s.come v 16777216) ⟨clearL s.came s.seen,s.fresh,[],[]⟩=((st.take j).foldl (fun s v=>s.come v 16777216) (⟨clearL s.came s.seen,s.fresh,[],[]⟩:Ss)).come u 16777216):=zA (by
        rw[zT,hu,yR,List.foldl_append,yN,List.foldl_nil])
       have C:=zA (come_any HSR.out (HS.out.fr HFY.out) ((begin_run HRE.out HST.out j).1.fit HDN.out) (HST.out u (zC hu)) (show 16777216<33554432 by omega));clear hu hcell;go_wp2_with fail;refine(C24.out _).mono ?_;rintro e w1 ⟨rfl,rfl⟩;go_wp2_with fail;refine C.out.mono ?_;rintro e w1 ⟨rfl,⟨m2,hs2⟩,hf2⟩;have HS2:=zA hs2;have HF2:=zA (HFY.out.trans hf2);clear hs2 hf2;go_wp2;go_roundw
       case rel=>exact⟨j+1,m2,by omega,by go_num,by rw[HX.out];exact HS2.out,HF2.out⟩
       case measure=>simp[intOf];omega
     . have hltI2:¬(j:Int)<(n:Int):=by omega
       have HX:Hid ((st.take j).foldl (fun s v=>s.come v 16777216) ⟨clearL s.came s.seen,s.fresh,[],[]⟩=R):=zA (by rw[HR.out,Ss.begin,zK (by rw[<- HN.out];omega)]);go_wp2;go_end0;exact⟨rfl,⟨m',by rw[<- HX.out];exact HSR.out⟩,HFY.out⟩
def TabG(w:World):Prop:=TabAt 0 Lib.deBruijn32tab w
theorem TabG.fr{S:Nat->Prop}{w w':World}(h:TabG w)(hs:S 0)(hf:Fr S w w'):TabG w':=fun j hj=>by
 have:=h j hj;simpa only[World.cell?,hf.block 0 hs]using this
theorem TabG.below{B:Nat}{w w':World}(h:TabG w)(hs:0<B)(hf:Below B w w'):TabG w':=fun j hj=>by
 have:=h j hj;simpa only[World.cell?,hf.block 0 hs]using this
set_option maxHeartbeats 1000000 in
theorem tz_core(x k idx:Nat)(w:World)(hx0:((x:Int)==0)=false)(key:bits BinOp.and IntKind.u32 (x:Int) (-(x:Int)%4294967296)*125613361%4294967296/134217728=(idx:Int))(hi:idx<32)(hk:k<32)(hcell:w.cell? ⟨0,idx,none⟩=some (.int .u8 k)):
 Calls Tryz.prog 66 #[.int .u32 x] w fun e w'=>e=.returned (.int .i64 k)/\w'=w:=by
 go_enter Tryz.func66,Tryz.ntmps66;go_wp2_with (simp only[key]);go_ret;exact⟨rfl,rfl⟩
theorem tz_any{x:Nat}(hx:x<4294967296)(hx0:x≠0){w:World}(hT:TabG w):
 Calls Tryz.prog 66 #[.int .u32 x] w fun e w'=>e=.returned (.int .i64 (Lib.ctz 32 x:Nat))/\w'=w:=by
 obtain⟨hlow,hk⟩:=Lib.lowest_bit 32 x hx0 hx;obtain⟨hi,htab⟩:=Lib.deBruijn32_at _ hk;have hcell:=hT _ hi;rw[htab]at hcell;exact tz_core x _ _ w (by simp;omega) (tz32_key x _ hx hx0 hlow) hi hk hcell
theorem ctz_bits{x:Nat}(hx0:x≠0)(hx:x<33554432):Lib.ctz 32 x<25/\x.testBit (Lib.ctz 32 x)=true/\(∀j,(x &&& (x-1)).testBit j=(x.testBit j&&decide (j≠Lib.ctz 32 x)))/\x &&& (x-1)<x:=by
 obtain⟨m,hm,hk⟩:=Lib.ctzFrom_spec 32 x (by omega) (by omega);have e:Lib.ctz 32 x=Lib.ctzFrom 32 x:=by simp[Lib.ctz,hx0]
 rw[e];obtain⟨k,hke⟩:∃k,k=Lib.ctzFrom 32 x:=⟨_,rfl⟩
 rw[<- hke]at hm hk ⊢;have hodd:∀i,(2*m+1).testBit i=if i=0 then true else (2*m).testBit i:=fun i=>by
  cases i with
  |zero=>simp
  |succ i=>
   rw[if_neg (by omega),Nat.testBit_succ,Nat.testBit_succ];congr 1;omega
 have hpos:=Nat.two_pow_pos k;have h1:x-1=2^k*(2*m)+(2^k-1):=by
  rw[hm,Nat.mul_add,yK];omega
 have hb1:∀j,x.testBit j=(decide (j>=k)&&(2*m+1).testBit (j-k)):=fun j=>by rw[hm,Nat.testBit_two_pow_mul]
 have hb2:∀j,(x-1).testBit j=if j<k then (2^k-1).testBit j else (2*m).testBit (j-k):=fun j=>by
  rw[h1,Nat.testBit_two_pow_mul_add _ (by omega)]
 have hk1:x.testBit k=true:=by rw[hb1];simp
 have hall:∀j,(x &&& (x-1)).testBit j=(x.testBit j&&decide (j≠k)):=fun j=>by
  rw[Nat.testBit_and,hb2,hb1];by_cases hj:j<k
  . rw[if_pos hj];have:decide (j>=k)=false:=decide_eq_false (by omega);rw[this];rfl
  . rw[if_neg hj,yC (show j>=k by omega),Bool.true_and,hodd];by_cases ej:j=k
    . subst ej;simp
    . rw[if_neg (by omega),yC ej,Bool.and_self,Bool.and_true]
 refine⟨?_,hk1,hall,?_⟩
 . apply Decidable.byContradiction;intro hge;rw[Nat.testBit_lt_two_pow (zO hx (by
    have:2^25<=2^k:=Nat.pow_le_pow_right (by omega) (by omega);simpa using this))]at hk1
   cases hk1
 . have h2:x &&& (x-1)<=x:=Nat.and_le_left;have h3:x &&& (x-1)≠x:=fun e2=>by
    have:=hall k;rw[e2,hk1]at this;simp at this
   omega
def MayS(d:Sd)(F r M:Nat):Prop:=∀j,M.testBit j=true↔∃i,i<25/\F.testBit i=true/\r.testBit i=false/\(d.beh i).testBit j=true
theorem MayS.step{d:Sd}{F r M:Nat}(h:MayS d F r M)(hr:r<33554432)(hr0:r≠0)(hs:∀i,r.testBit i=true->F.testBit i=true):MayS d F (r &&& (r-1)) (M ||| d.beh (Lib.ctz 32 r))/\∀i,(r &&& (r-1)).testBit i=true->F.testBit i=true:=by
 obtain⟨hk,hb,hall,_⟩:=ctz_bits hr0 hr;constructor
 . intro j;rw[Nat.testBit_or,Bool.or_eq_true,h j];constructor
   . rintro (⟨i,hi,h1,h2,h3⟩|h1)
     . exact⟨i,hi,h1,by rw[hall,h2];rfl,h3⟩
     . exact⟨_,hk,hs _ hb,by rw[hall];simp,h1⟩
   . rintro⟨i,hi,h1,h2,h3⟩;by_cases e:i=Lib.ctz 32 r
     . rw[e]at h3;exact .inr h3
     . rw[hall,yC e,Bool.and_true]at h2;exact .inl ⟨i,hi,h1,h2,h3⟩
 . intro i hi;rw[hall,Bool.and_eq_true]at hi;exact hs i hi.1
theorem MayS.done{d:Sd}{F M:Nat}(h:MayS d F 0 M):M=behS d 25 F:=by
 apply Nat.eq_of_testBit_eq;intro j;have h1:=h j;have h2:=behS_bit d F j 25;simp only[Nat.zero_testBit,true_and]at h1;cases hm:M.testBit j with
 |true=>exact((h2.2 (h1.1 hm))).symm
 |false=>
  cases hb:(behS d 25 F).testBit j with
  |false=>rfl
  |true=>
   rw[h1.2 (h2.1 hb)]at hm;cases hm
theorem MayS.lt{d:Sd}(hd:d.Ok){F r M:Nat}(h:MayS d F r M):M<16777216:=by
 apply Nat.lt_pow_two_of_testBit (n:=24);intro j hj;cases hb:M.testBit j with
 |false=>rfl
 |true=>
  obtain⟨i,hi,_,_,h3⟩:=(h j).1 hb;have:=bit_lt24 (hd.beh i hi) h3;omega
theorem fold_step{d:Sd}(hd:d.Ok){st:List Nat}{s:Ss}{l:List Nat}{u:Nat}(h:Run d st s exN)(ht:s.todo=l++[u])(i:Nat):Run d st (((d.out u).take i).foldl (fun s' t=>s'.come t.1 (behS d 25 (s.fresh.getD u 0) &&& t.2)) (s.pop l u)) (exU u (s.fresh.getD u 0) i)/\mu (((d.out u).take i).foldl (fun s' t=>s'.come t.1 (behS d 25 (s.fresh.getD u 0) &&& t.2)) (s.pop l u))<mu s:=by
 induction i with
 |zero=>exact⟨h.pop ht,mu_pop ht⟩
 |succ i ih=>
  cases hg:(d.out u)[i]? with
  |none=>
   have hlen:(d.out u).length<=i:=List.getElem?_eq_none_iff.1 hg;rw[zK (by omega)]at ih ⊢;exact⟨ih.1.ex (fun v p j hj hx=>by obtain⟨rfl,h1,h2⟩:=hx;omega),ih.2⟩
  |some t=>
   rw[zT,hg,yR,List.foldl_append,yN,List.foldl_nil];obtain⟨h1,h2⟩:=ih;obtain⟨h3,h4⟩:=h1.step hd (fun p hp=>h.snd u p (h.sub u p hp)) (getD_lt h.fb u) hg;exact⟨h3,Nat.lt_of_le_of_lt h4 h2⟩
theorem Run.goOn{d:Sd}(hd:d.Ok){st:List Nat}{s:Ss}{l:List Nat}{u:Nat}(h:Run d st s exN)(ht:s.todo=l++[u]):Run d st (s.goOn d l u) exN/\mu (s.goOn d l u)<mu s:=by
 have:=fold_step hd h ht (d.out u).length;rw[List.take_length]at this;exact⟨this.1.ex (fun v p j hj hx=>by obtain⟨rfl,h1,h2⟩:=hx;omega),this.2⟩
theorem SrS.row{S:Nat->Prop}{w:World}{sb:Nat}{d:Sd}{s:Ss}{m:Sp}(h:SrS S w sb d s m){u:Nat}(hu:u<d.n):∃g off r N c,m.stv=.slice (some ⟨g,off,none⟩) N c/\N=d.n/\w.cell? ⟨g,off+u,none⟩=some r/\SlS csSt 2 S w r (d.out u)/\S g:=by
 have hl:m.rs.length=d.n:=by rw[<- h.ok.len,<- h.rsd,zH]
 obtain⟨r,hr⟩:∃r,m.rs[u]?=some r:=⟨_,zB (by omega)⟩
 obtain⟨ao,cap,e⟩:=h.steps.slice;have hst:=h.steps;rw[e]at hst;obtain⟨g,off,e1,hs,_,hc⟩:=hst.get hr;have hc0:=hc 0 _ rfl;rw[yK,yF]at hc0;have hout:d.out u=r.2:=by
  unfold Sd.out;rw[<- h.rsd,List.getD,zI,hr];rfl
 refine⟨g,off,r.1,_,cap,by rw[e,e1],hl,hc0,?_,h.kS g hs⟩;rw[hout];exact(h.rows r (zC hr)).sub (fun b hb _=>h.kS b hb)
set_option maxHeartbeats 8000000 in
theorem goOn_any{S:Nat->Prop}{w:World}{sb:Nat}{d:Sd}{st:List Nat}{s:Ss}{m:Sp}{l:List Nat}{u:Nat}(h:SrS S w sb d ⟨s.came,s.fresh,s.seen,l⟩ m)(hS:Low S w)(hT:TabG w)(h0:S 0)(hr:Run d st s exN)(ht:s.todo=l++[u])(hn:d.n<=10000)(hol:(d.out u).length<=1000000):
 Calls Tryz.prog 43 #[.pointer (some ⟨sb,0,none⟩),.int .i64 (u:Int)] w (ComeE S w sb d (s.goOn d l u)):=by
 have hu:u<d.n:=hr.tlt u (by rw[ht];simp);have H:=zA h;have HS:=zA hS;have HT:=zA hT;have H0:=zA h0;have HR:=zA hr;have HTD:=zA ht;have HDN:=zA hn;obtain⟨g25,g26,g27,g28,g29,g30,f29,f30⟩:=h.cells;obtain⟨F,hF⟩:∃F,F=s.fresh.getD u 0:=⟨_,rfl⟩
 have hFl:F<33554432:=by rw[hF];exact getD_lt hr.fb u
 have k1:=h.fresh.cell (i:=u) (by dsimp only;rw[hr.fl];exact hu);dsimp only at k1;rw[<- hF]at k1;obtain⟨k1,k2⟩:=k1;have HF:=zA hF;have huI:(u:Int)<(d.n:Int):=by omega
 obtain⟨rg,roff,rv,N,rc,e1,e2,e3,e4,e5⟩:=h.row hu;subst e2;rw[e1]at g26;have HROW:=zA e4;have HSG:=zA e5;have HRL:=zA e3;obtain⟨ra,rcap,e6⟩:=e4.slice;subst e6;obtain⟨no,hno⟩:∃n,n=(d.out u).length:=⟨_,rfl⟩
 have HNO:=zA hno;rw[<- hno]at HROW HRL hol;clear h hS hT h0 hr ht hF g25 g27 g29 g30 f29 f30 e1 e3 e4 e5 hno;go_enter Tryz.func43,Tryz.ntmps43;go_wp2_with fail;go_loopw [4,5] (fun mv rv wr=>∃(M r:Nat),mv=.int .u32 (M:Int)/\rv=.int .u32 (r:Int)/\r<33554432/\MayS d F r M/\(∀i,r.testBit i=true->F.testBit i=true)/\Below w.heap.size w wr/\wr.heap=w.heap) (fun _ rv _=>(intOf rv).toNat)
 case atStart=>exact⟨0,F,rfl,rfl,hFl,(show MayS d F F 0 from fun j=>by
  rw[Nat.zero_testBit];simp only[Bool.false_eq_true,false_iff];rintro⟨i,_,h1,h2,_⟩;rw[h1]at h2;cases h2),fun _ h=>h,zF _ _,rfl⟩
 case round=>
  obtain⟨M,r,rfl,rfl,hrl,hmay,hsub,hbw,hheap⟩:=hrel;obtain⟨wx,hwx⟩:∃wx,wx=wr:=⟨_,rfl⟩
  subst hwx;have HMAY:=zA hmay;have HSUB:=zA hsub;have HBW:=zA hbw;have HH:=zA hheap;clear hmay hsub hbw hheap;have hML:M<16777216:=HMAY.out.lt H.out.ok;by_cases hr0:r=0
  . have HM:Hid (M=behS d 25 F):=zA (by have:=HMAY.out;rw[hr0]at this;exact this.done);have hrz:(r:Int)=0:=by omega
    rw[hrz];clear hrz hr0;have g26x:wx.cell? ⟨sb,26,none⟩=some (.slice (some ⟨rg,roff,none⟩) d.n rc):=by simpa only[World.cell?,HH.out]using g26
    have g28x:wx.cell? ⟨sb,28,none⟩=some (.slice (some ⟨m.fb,0,none⟩) d.n d.n):=by simpa only[World.cell?,HH.out]using g28
    have k1x:wx.cell? ⟨m.fb,u,none⟩=some (.int .u32 (F:Int)):=by simpa only[World.cell?,HH.out]using k1
    have k2x:wx.frozen? ⟨m.fb,u,none⟩=false:=by simpa only[World.frozen?,HH.out]using k2
    have hrl2:wx.cell? ⟨rg,roff+u,none⟩=some (.slice ra no rcap):=by simpa only[World.cell?,HH.out]using HRL.out
    have hrgne:¬rg=m.fb:=fun e=>H.out.fno (by rw[<- e];exact HSG.out)
    have hsbne:¬sb=m.fb:=H.out.sne.2.2.2.2.2.2.2;have HSP:Hid (SrS S (wx.setCell ⟨m.fb,u,none⟩ (.int .u32 0)) sb d (s.pop l u) m):=zA ((H.out.below HBW.out).setFresh u 0);have HFP:Hid (Fr S w (wx.setCell ⟨m.fb,u,none⟩ (.int .u32 0))):=zA ((fr_below HS.out HBW.out).setCell H.out.fno _);have hdn:=HDN.out;clear HRL g26 g28 k1 k2;go_wp2_with fail;go_loopw [44] (fun c wr=>∃(i:Nat) (m':Sp),i<=no/\c=.int .i64 i/\SrS S wr sb d (((d.out u).take i).foldl (fun s' t=>s'.come t.1 (behS d 25 (s.fresh.getD u 0) &&& t.2)) (s.pop l u)) m'/\Fr S w wr) (fun c _=>no-(intOf c).toNat)
    case atStart=>exact⟨0,m,zS _,rfl,HSP.out,HFP.out⟩
    case round=>
     obtain⟨i,m',hi,rfl,hsr,hfr⟩:=hrel;obtain⟨wy,hwy⟩:∃wy,wy=wr:=⟨_,rfl⟩
     subst hwy;have HSR:=zA hsr;have HFR:=zA hfr;clear hsr hfr g26x g28x k1x k2x hrl2;by_cases hlt:i<no
     . have hltI:(i:Int)<(no:Int):=by omega
       obtain⟨t,hti⟩:∃t,(d.out u)[i]?=some t:=⟨_,zB (by rw[<- HNO.out];exact hlt)⟩
       obtain⟨g,off,hao,hsg,hgl,hcell⟩:=(HROW.out.fr HFR.out).get hti;subst hao;have q0:=hcell 0 _ rfl;have q1:=hcell 1 _ rfl;obtain⟨t0,t1⟩:=t;dsimp only at q0 q1;rw[yF]at q0;have hmem:t0<d.n/\t1<16777216:=by
        have:∃l∈d.steps,(t0,t1)∈l:=by
         unfold Sd.out at hti;rw[List.getD]at hti;cases hg:d.steps[u]? with
         |none=>rw[hg]at hti;simp at hti
         |some l=>rw[hg]at hti;exact⟨l,zC hg,zC hti⟩
        obtain⟨l,hl,hm⟩:=this;exact H.out.ok.step l hl _ hm
       have b1:bits .and .u32 (M:Int) (t1:Int)=((M &&& t1:Nat):Int):=u32_and_nat M t1 (by omega) (by omega);obtain⟨A,hA⟩:∃A,A=M &&& t1:=⟨_,rfl⟩
       have hAl:A<33554432:=by rw[hA];exact Nat.lt_of_le_of_lt Nat.and_le_left (by omega)
       rw[<- hA]at b1;have HX:Hid (((d.out u).take (i+1)).foldl (fun s' t=>s'.come t.1 (behS d 25 (s.fresh.getD u 0) &&& t.2)) (s.pop l u)=(((d.out u).take i).foldl (fun s' t=>s'.come t.1 (behS d 25 (s.fresh.getD u 0) &&& t.2)) (s.pop l u)).come t0 A):=zA (by
        rw[zT,hti,yR,List.foldl_append,yN,List.foldl_nil,hA,HM.out,<- HF.out])
       obtain⟨o,ho⟩:∃o,o=Obj.cells #[.int .i64 (t0:Int),.int .u32 (t1:Int)] 105 (0,0):=⟨_,rfl⟩
       have hb1:Below wy.heap.size wy (wy.alloc o):=(zF _ _).alloc (zD _) _;have C:=zA (come_any (HSR.out.below hb1) ((HS.out.fr HFR.out).below hb1) ((fold_step H.out.ok HR.out HTD.out i).1.fit HDN.out) hmem.1 hAl);have HB1:=zA hb1;subst ho;clear hti hcell hA hb1;go_wp2_with fail;refine C.out.mono ?_;rintro e w1 ⟨rfl,⟨m2,hs2⟩,hf2⟩;have HS2:=zA hs2;have HF2:=zA ((HFR.out.next HS.out HB1.out).trans hf2);clear hs2 hf2;go_wp2;go_roundw
       case rel=>exact⟨i+1,m2,by omega,by go_num,by rw[HX.out];exact HS2.out,HF2.out⟩
       case measure=>simp[intOf];omega
     . have hltI:¬(i:Int)<(no:Int):=by omega
       have HX:Hid (((d.out u).take i).foldl (fun s' t=>s'.come t.1 (behS d 25 (s.fresh.getD u 0) &&& t.2)) (s.pop l u)=s.goOn d l u):=zA (by rw[Ss.goOn,zK (by rw[<- HNO.out];omega)]);go_wp2;go_end0;exact⟨rfl,⟨m',by rw[<- HX.out];exact HSR.out⟩,HFR.out⟩
  . have hrI:((r:Int)!=0)=true:=by simp;omega
    have hr0I:¬(r:Int)=0:=by omega
    obtain⟨hst,hsub2⟩:=HMAY.out.step hrl hr0 HSUB.out;obtain⟨hk,_,_,hlt⟩:=ctz_bits hr0 hrl;have C:=zA (fun wr (hw:wr.heap=wx.heap)=>tz_any (x:=r) (w:=wr) (by omega) hr0 (fun j hj=>by
     have:=HT.out j hj;simpa only[World.cell?,hw,HH.out]using this))
    obtain⟨k,hke⟩:∃k,k=Lib.ctz 32 r:=⟨_,rfl⟩
    rw[<- hke]at C hst hk;have q0:=(H.out.below HBW.out).beh hk;have hbl:=H.out.ok.beh k hk;obtain⟨B,hBe⟩:∃B,B=d.beh k:=⟨_,rfl⟩
    rw[<- hBe]at q0 hst hbl;have b1:bits .or .u32 (M:Int) (B:Int)=((M ||| B:Nat):Int):=u32_or_nat M B (by omega) (by omega);have b2:bits .and .u32 (r:Int) ((r:Int)-1)=((r &&& (r-1):Nat):Int):=by
     have e:((r:Int)-1)=((r-1:Nat):Int):=by omega
     rw[e];exact u32_and_nat r (r-1) (by omega) (by omega)
    obtain⟨M2,hM2⟩:∃x,x=M ||| B:=⟨_,rfl⟩
    obtain⟨r2,hr2⟩:∃x,x=r &&& (r-1):=⟨_,rfl⟩
    rw[<- hM2]at b1 hst;rw[<- hr2]at b2 hst hsub2 hlt;have HST:=zA hst;have HS2:=zA hsub2;have hkI:(k:Int)<25:=by omega
    have hw1:((r:Int)-1)%4294967296=(r:Int)-1:=by omega
    have KQ:Hid (∀u:World,u.heap=wx.heap->u.cell? ⟨sb,k,none⟩=some (.int .u32 (B:Int))):=zA (fun u hu=>by simpa only[World.cell?,hu]using q0);clear hst hsub2 hke hBe hM2 hr2 q0 g26 g28 k1 k2;go_wp2_with fail;go_region_held3 (fun u=>u.cell? ⟨sb,k,none⟩=some (.int .u32 (B:Int)))
     (first|exact KQ.out _ rfl)
     (first|(go_at_call 66;refine(C.out wx.drew rfl).mono ?_;rintro e w3 ⟨rfl,rfl⟩))
    all_goals (
     go_wp2;go_roundw
     case rel=>exact⟨M2,r2,rfl,rfl,by omega,HST.out,HS2.out,HBW.out.drew,HH.out⟩
     case measure=>simp[intOf];omega)
structure LstS (S:Nat->Prop) (w:World) (v:Value) (L:List (Value×List Nat)):Prop where
 row:SlS csRow 1 S w v L
 ats:∀r∈L,NatS S w r.1 r.2
theorem LstS.fr{S:Nat->Prop}{w w':World}{v:Value}{L:List (Value×List Nat)}(h:LstS S w v L)(hf:Fr S w w'):LstS S w' v L:=
 ⟨h.row.fr hf,fun r hr=>(h.ats r hr).fr hf⟩
theorem LstS.sub{S T:Nat->Prop}{w:World}{v:Value}{L:List (Value×List Nat)}(h:LstS S w v L)(hs:∀b,S b->b<w.heap.size->T b):LstS T w v L:=
 ⟨h.row.sub hs,fun r hr=>(h.ats r hr).sub hs⟩
theorem LstS.below{S:Nat->Prop}{w w':World}{v:Value}{L:List (Value×List Nat)}(h:LstS S w v L)(hb:Below w.heap.size w w'):LstS S w' v L:=
 ⟨h.row.below hb,fun r hr=>(h.ats r hr).below hb⟩
def FoundC(fn:Nat)(lb:Array Value)(sb:Nat)(d:Sd)(L:List (Value×List Nat))(Inv:Nat->(Nat->Prop)->World->Prop):Prop:=
 ∀(i:Nat) (r:Value×List Nat) (S:Nat->Prop) (w:World) (s:Ss) (m:Sp),L[i]?=some r->Low S w->SrS S w sb d s m->Rest d s->(∀v p,(s.came.getD v 0).testBit p=true↔d.Rch r.2 v p)->Inv i S w->
  Calls Tryz.prog fn (#[.int .i64 (i:Int)]++lb) w fun e w'=>e=.returned (.tuple #[])/\∃T,(∀k,S k->T k)/\Low T w'/\SrS T w' sb d s m/\Inv (i+1) T w'
def EachE(S:Nat->Prop)(sb:Nat)(d:Sd)(n:Nat)(Inv:Nat->(Nat->Prop)->World->Prop)(e:Ending)(w':World):Prop:=
 e=.returned (.tuple #[])/\∃(T:Nat->Prop) (s:Ss) (m:Sp),(∀k,S k->T k)/\Low T w'/\SrS T w' sb d s m/\Rest d s/\Inv n T w'
theorem fold_bits{d:Sd}(hd:d.Ok){st:List Nat}{s:Ss}{l:List Nat}{u:Nat}(h:Run d st s exN)(ht:s.todo=l++[u]){v p:Nat}(hv:(s.came.getD v 0).testBit p=true)(i:Nat):((((d.out u).take i).foldl (fun s' t=>s'.come t.1 (behS d 25 (s.fresh.getD u 0) &&& t.2)) (s.pop l u)).came.getD v 0).testBit p=true:=by
 induction i with
 |zero=>exact hv
 |succ i ih=>
  cases hg:(d.out u)[i]? with
  |none=>
   have hlen:(d.out u).length<=i:=List.getElem?_eq_none_iff.1 hg;rw[zK (by omega)]at ih ⊢;exact ih
  |some t=>
   rw[zT,hg,yR,List.foldl_append,yN,List.foldl_nil];have h1:=(fold_step hd h ht i).1;have hmem:∃l∈d.steps,t∈l:=by
    unfold Sd.out at hg;rw[List.getD]at hg;cases hg2:d.steps[u]? with
    |none=>rw[hg2]at hg;simp at hg
    |some l=>rw[hg2]at hg;exact⟨l,zC hg2,zC hg⟩
   obtain⟨l2,hl2,hm⟩:=hmem;obtain⟨h2,h3⟩:=hd.step l2 hl2 t hm;rw[come_bits _ h1.cl h1.cb h2 (Nat.lt_of_le_of_lt Nat.and_le_right (by omega))];exact .inl ih
theorem goOn_bits{d:Sd}(hd:d.Ok){st:List Nat}{s:Ss}{l:List Nat}{u:Nat}(h:Run d st s exN)(ht:s.todo=l++[u])(hb:∀v∈st,(s.came.getD v 0).testBit 24=true):∀v∈st,((s.goOn d l u).came.getD v 0).testBit 24=true:=fun v hv=>by
 have:=fold_bits hd h ht (hb v hv) (d.out u).length;rw[List.take_length]at this;exact this
set_option maxHeartbeats 8000000 in
theorem each_any{S:Nat->Prop}{w:World}{sb:Nat}{d:Sd}{s:Ss}{m:Sp}{v:Value}{L:List (Value×List Nat)}{fn:Nat}{lb:Array Value}{Inv:Nat->(Nat->Prop)->World->Prop}
 (eg:∀args w,(callFunc fn args).run Tryz.prog w=.ok (.enter fn args) w)
 (h:SrS S w sb d s m) (hS:Low S w) (hr:Rest d s) (hn:d.n<=10000) (hol:∀u,(d.out u).length<=1000000)
 (hLl:L.length<=1000000) (hv:∀r∈L,(∀u∈r.2,u<d.n)/\r.2.length<=10000)
 (hI:∀i T w w',Inv i T w->Fr T w w'->Inv i T w') (hT:∀i T w,Inv i T w->LstS T w v L/\TabG w/\T 0)
 (hF:FoundC fn lb sb d L Inv) (h0:Inv 0 S w):
 Calls Tryz.prog 21 #[.pointer (some ⟨sb,0,none⟩),v,.func (.func fn) #[] lb] w (EachE S sb d L.length Inv):=by
 have hL:=(hT 0 S w h0).1;obtain⟨ao,cap,rfl⟩:=hL.row.slice;have H:=zA h;have HS:=zA hS;have HR:=zA hr;have HDN:=zA hn;have HOL:=zA hol;have HV:=zA hv;have HI:=zA hI;have HT:=zA hT;have HF:=zA hF;have H0:=zA h0;obtain⟨n,hnn⟩:∃n,n=L.length:=⟨_,rfl⟩
 rw[<- hnn]at hLl ⊢;have HN:=zA hnn;clear h hS hr hn hol hL hv hI hT hF h0 hnn;go_enter Tryz.func21,Tryz.ntmps21;go_wp2_with fail;go_step3;go_wp2_with fail;go_step3;go_wp2_with fail;go_loopg [12] n (fun gg c wr=>∃(i:Nat) (T:Nat->Prop) (s':Ss) (m':Sp),i<=n/\n-i<=gg/\c=.int .i64 i/\Hid (∀k,S k->T k)/\Hid (Low T wr)/\Hid (SrS T wr sb d s' m')/\Hid (Rest d s')/\Hid (Inv i T wr))
 case atStart=>exact⟨0,S,s,m,zS _,Nat.sub_le _ _,rfl,zA (fun _ h=>h),HS,H,HR,H0⟩
 case round=>
  obtain⟨i,T,s',m',hi,hgg,rfl,HST,HLOW,HSR,HRE,HINV⟩:=hrel;obtain⟨wx,hwx⟩:∃wx,wx=wr:=⟨_,rfl⟩
  subst hwx;have HLX:=zA (HT.out i T wx HINV.out).1;by_cases hlt:i<n
  . have hltI:(i:Int)<(n:Int):=by omega
    obtain⟨r,hri⟩:∃r,L[i]?=some r:=⟨_,zB (by rw[<- HN.out];exact hlt)⟩
    obtain⟨g,off,hao,_,_,hcell⟩:=HLX.out.row.get hri;subst hao;have q0:=hcell 0 _ rfl;rw[yK,yF]at q0;have hrm:=zC hri;have HRI:=zA hri;have C:=zA (begin_anyM HSR.out HLOW.out HRE.out HDN.out (HLX.out.ats r hrm) (HV.out r hrm).1 (HV.out r hrm).2);have HB:=zA (begin_run HRE.out (HV.out r hrm).1 r.2.length);rw[List.take_length]at HB;obtain⟨rv,rl⟩:=r;dsimp only at q0 C HB;clear hri hcell hrm;go_wp2_with fail;refine C.out.mono ?_;rintro e w1 ⟨rfl,⟨m1,hs1⟩,hf1⟩;have HS1:=zA hs1;have HF1:=zA hf1;clear hs1 hf1 q0;obtain⟨wb,hwb⟩:∃wb,wb=w1:=⟨_,rfl⟩
    subst hwb;go_wp2_with fail;obtain⟨sB,hsB⟩:∃s,s=s'.begin rl:=⟨_,rfl⟩
    have HBR:Hid (Run d rl sB exN/\∀v∈rl,(sB.came.getD v 0).testBit 24=true):=zA (by rw[hsB];exact HB.out);rw[<- hsB]at HS1;clear hsB HB;obtain⟨N,hN⟩:∃N,N=mu sB:=⟨_,rfl⟩
    have HMU:=zA hN;clear hN;go_loopg [8] N (fun gg _ wr=>∃(s2:Ss) (m2:Sp),Hid (mu s2<=gg)/\Hid (Run d rl s2 exN)/\Hid (∀v∈rl,(s2.came.getD v 0).testBit 24=true)/\Hid (SrS T wr sb d s2 m2)/\Hid (Fr T wx wr))
    case atStart=>exact⟨sB,m1,zA (by rw[HMU.out];exact zD _),zA HBR.out.1,zA HBR.out.2,HS1,HF1⟩
    case round=>
     obtain⟨s2,m2,HM2,HR2,HG2,HS2,HF2⟩:=hrel;obtain⟨wy,hwy⟩:∃wy,wy=wr:=⟨_,rfl⟩
     subst hwy;cases ht:s2.todo with
     |nil=>
      have CT:=zA (take_none HS2.out ht);have HRE2:=zA (HR2.out.rest ht);have HDO:=zA (fun v p=>HR2.out.done HG2.out ht v p);have hcall:=HF.out i (rv,rl) T wy s2 m2 HRI.out (HLOW.out.fr HF2.out) HS2.out HRE2.out HDO.out (HI.out i T wx wy HINV.out HF2.out);have HCALL:=zA hcall;clear ht hcall;go_wp2_with fail;refine CT.out.mono ?_;rintro e w2 ⟨rfl,hw⟩;subst hw;go_wp2_with (go_at_fn fn;refine HCALL.out.mono ?_;rintro e w3 ⟨rfl,T2,hsub2,hlow2,hsr2,hinv2⟩);go_roundg (n-(i+1))
      case measure=>omega
      case rel=>exact⟨i+1,T2,s2,m2,by omega,zD _,by go_num,zA (fun k hk=>hsub2 k (HST.out k hk)),zA hlow2,zA hsr2,HRE2,zA hinv2⟩
     |cons a t=>
      obtain⟨l,u,hlu⟩:∃l u,s2.todo=l++[u]:=by
       rw[ht];exact⟨(a::t).dropLast,(a::t).getLast (by simp),(List.dropLast_concat_getLast (by simp)).symm⟩
      have CT:=zA (take_some HS2.out (HLOW.out.fr HF2.out) hlu (HR2.out.fit HDN.out).tl);have HLU:=zA hlu;clear ht hlu;go_wp2_with fail;refine CT.out.mono ?_;rintro e w2 ⟨rfl,⟨m3,hs3⟩,hf3⟩;obtain⟨_,htab,ht0⟩:=HT.out i T w2 (HI.out i T wx w2 HINV.out (HF2.out.trans hf3));have CG:=zA (goOn_any hs3 ((HLOW.out.fr HF2.out).fr hf3) htab ht0 HR2.out HLU.out HDN.out (HOL.out u));have HF3:=zA (HF2.out.trans hf3);have HGO:=zA (HR2.out.goOn HS2.out.ok HLU.out);have HBG:Hid (∀v∈rl,((s2.goOn d l u).came.getD v 0).testBit 24=true):=zA (goOn_bits HS2.out.ok HR2.out HLU.out HG2.out);clear hs3 hf3 htab ht0;go_wp2_with fail;refine CG.out.mono ?_;rintro e w4 ⟨rfl,⟨m4,hs4⟩,hf4⟩;have HS4:=zA hs4;have HF4:=zA (HF3.out.trans hf4);clear hs4 hf4;go_wp2;go_roundg (mu (s2.goOn d l u))
      case measure=>have h1:=HGO.out.2;have h2:=HM2.out;omega
      case rel=>exact⟨s2.goOn d l u,m4,zA (zD _),zA HGO.out.1,HBG,HS4,HF4⟩
  . have hltI:¬(i:Int)<(n:Int):=by omega
    have hin:i=n:=by omega
    subst hin;go_wp2;go_end0;exact⟨rfl,T,s',m',HST.out,HLOW.out,HSR.out,HRE.out,HINV.out⟩
theorem FolAt.keep{w w':World}{b o:Nat}{F:Nat->Nat}(h:FolAt w b o F)(hb:w'.heap[b]?=w.heap[b]?):FolAt w' b o F:=fun j hj=>by
 have:=h j hj;simpa only[World.cell?,World.frozen?,hb]using this
theorem FolAt.set{w:World}{b o:Nat}{F:Nat->Nat}(h:FolAt w b o F){i x:Nat}(hi:i<24):FolAt (w.setCell ⟨b,o+i,none⟩ (.int .u32 (x:Int))) b o (fun j=>if j=i then x else F j):=fun j hj=>by
 rw[World.frozen?_setCell];refine⟨?_,(h j hj).2⟩;by_cases e:j=i
 . subst e;rw[World.cell?_setCell_same _ _ _ (h j hj).1];simp
 . rw[World.cell?_setCell_other _ _ _ _ (fun h=>e (by injection h with h1 h2;omega)),(h j hj).1];simp[e]
theorem FolAt.congr{w:World}{b o:Nat}{F G:Nat->Nat}(h:FolAt w b o F)(hg:∀j,j<24->F j=G j):FolAt w b o G:=fun j hj=>by rw[(h j hj).1,hg j hj];exact⟨rfl,(h j hj).2⟩
end Go.Proofs.YtdalcipmpelifaaGreatDoor
namespace Go.Proofs.YtdalcipmpelifaaGreatDoor
open Go.RowKit Go.Shelf
theorem tabG_of_laid{W:World}(h:laidMetH Tryz.prog [("math/bits.deBruijn32tab",Rows.laid_math_bits_deBruijn32tab)] W):TabG W:=by
 rw[MakeChecks.laidMetH_plain _ _ _ (by kernel_rfl)]at h;have hg:Tryz.prog.globalNamed "math/bits.deBruijn32tab" =some 0:=by kernel_rfl
 have ht:(Tryz.prog.globals[0]?).map (·.type)=some 156:=by kernel_rfl
 have h2:Lib.TabIs Tryz.prog W "math/bits.deBruijn32tab" .u8 (Lib.deBruijn32tab.map fun (n:Nat)=>(n:Int)):=Lib.tabIs_of_head (n:=32) (e:=5) hg ht (by kernel_rfl) (by kernel_rfl) (by kernel_rfl) (by kernel_rfl) (rest:=[]) h;intro j hj;have h3:=h2.cell hg j (by simpa using hj);rw[h3];congr 2;have hj':j<Lib.deBruijn32tab.length:=hj;simp only[List.getD,zI];rw[zB hj'];rfl
end Go.Proofs.YtdalcipmpelifaaGreatDoor
