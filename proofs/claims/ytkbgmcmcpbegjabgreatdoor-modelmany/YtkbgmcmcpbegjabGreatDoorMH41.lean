/- XRows2, XTerm, XSlot1. -/
import Derived.Test.YtkbgmcmcpbegjabGreatDoorMH40
import Derived.Test.YtkbgmcmcpbegjabGreatDoorMH34
import Derived.DeepKeys4
set_option maxRecDepth 100000
namespace Go.Proofs.YtkbgmcmcpbegjabGreatDoor
open Go.RowKit Go.Shelf
structure JW (F:Nat->Prop) (w:World) (jb:Nat) (J:Jv) (ds:List Sy) (n m:Nat) (lks:List Lm) (ls:List Lk) (us:List Nat) (l:List Sx) (frs:List (Value×List Nat)) (c:Ch) (rks:List Lm) (rs:List Lk):Prop where
 jz:Jz F w jb J ds n m lks ls us l
 fsl:SlS csRow 1 F w J.cv frs
 fat:∀r∈frs,NatC F w r.1 r.2
 fbd:∀r∈frs,(∀u∈r.2,u<n)/\r.2.length<=10000
 frc:frs.map (·.2)=c
 fcl:c.length=m
 m0:0<m
 fv0:J.fv=.slice none 0 0
 rsl:SlS csL 4 F w J.rv rks
 rlen:rs.length=rks.length
 rat:∀(i:Nat) R r,rks[i]?=some R->rs[i]?=some r->r.fr=R.1/\R.1<m/\∃q,SeaOk ds n q R.2.2.1 r.R
 rll:rks.length<=1000
 une:us≠[]
 ult:∀u∈us,u<m
def RowE(w:World)(jb:Nat)(l:List Sx)(R:List (List Nat))(e:Ending)(w':World):Prop:=
 ∃fv,e=.returned fv/\∃(X:Nat->Prop) (l':List Sx),FoS w' X fv (R.take 4097)/\(∀k,X k->w.heap.size<=k/\k<w'.heap.size)/\FFr w w' l l' (fun k=>k=jb)
set_option maxHeartbeats 16000000 in
theorem rowsJ_any{F:Nat->Prop}{w:World}{jb:Nat}{J:Jv}{ds:List Sy}{n m:Nat}{lks:List Lm}{ls:List Lk}{us:List Nat}{l:List Sx}{frs:List (Value×List Nat)}{c:Ch}{rks:List Lm}{rs:List Lk}(h:JW F w jb J ds n m lks ls us l frs c rks rs):
 Calls Tryz.prog 21 #[.pointer (some ⟨jb,0,none⟩)] w (RowE w jb l (rowsN ls rs m us c)):=by
 have h0:=h.jz;have hfl:frs.length=m:=by rw[<- h.fcl,<- h.frc,zH]
 have hmm:=h0.mm;have C0:=zA (cloneC_any h.fsl h.fat (fun e=>by rw[e]at hfl;have:=h.m0;simp at hfl;omega) (by omega));rw[hfl]at C0;obtain⟨j1,j2,j3,j4,j5,j6,j7⟩:=h0.cell;obtain⟨ra,rc,hrv⟩:=h.rsl.slice;obtain⟨nk,hnk⟩:∃q,q=rks.length:=⟨_,rfl⟩
 rw[<- hnk]at hrv;have hnkl:nk<=1000:=by rw[hnk];exact h.rll
 have HRV:=zA hrv;have HNK:=zA hnk;have HJW:=zA h;have HBEG:Hid (∀w1 g1 cap,w1.ownsRow w.heap.size 63 1 (.slice (some ⟨g1,0,none⟩) m cap) m (frs.flatMap csRow)->Below w.heap.size w w1->RSt F w l ds n m (.slice (some ⟨g1,0,none⟩) m cap) c w1):=zA (fun w1 g1 cap hown hb=>h0.begin h.frc h.fcl h.fat h.fbd hfl.symm hb hown);have HCE:Hid (∀W:World,Fr (fun k=>k<w.heap.size/\UL l k) w W->W.cell? ⟨jb,1,none⟩=some J.av/\W.cell? ⟨jb,4,none⟩=some (.slice ra nk rc)/\W.cell? ⟨jb,6,none⟩=some J.fv):=zA (fun W hW=>by
  have h1:=(hW.block jb ⟨h0.lt,h0.ju⟩).trans h0.blk;rw[<- hrv];simp[World.cell?,h1,Jv.cells])
 obtain⟨Q,hQ⟩:∃Q,Q=RowE w jb l (rowsN ls rs m us c):=⟨_,rfl⟩
 rw[<- hQ];have HQ:=zA hQ;clear h h0 hfl hmm hQ j1 j2 j3 j4 j6 j7 hrv hnk;go_enter Tryz.func21,Tryz.ntmps21;go_wp2_with fail;refine C0.out.mono ?_;rintro e w1 ⟨g1,cap,rfl,hown,hb⟩;have HR1:=zA (HBEG.out w1 g1 cap hown hb);clear hown hb C0 HBEG j5;obtain⟨k1,_,_⟩:=HCE.out w1 HR1.out.fr;have CN:=zA (HR1.out.narrow HJW.out.jz HJW.out.m0);go_wp2_with fail;refine CN.out.mono ?_;rintro e w2 ⟨rfl,hr2⟩;have HR2:=zA hr2;obtain⟨_,k2,_⟩:=HCE.out w2 hr2.fr;clear hr2 CN k1;go_wp2_with fail;obtain⟨wb,hwb⟩:∃W,W=w2:=⟨_,rfl⟩
 subst hwb;go_loopw [23] (fun kk wr=>∃j:Nat,j<=nk/\kk=.int .i64 j/\Hid (RSt F w l ds n m (.slice (some ⟨g1,0,none⟩) m cap) ((rs.take j).foldl ringC (narrowC ls c)) wr)) (fun kk _=>nk-(intOf kk).toNat)
 case atStart=>exact⟨0,zR _,rfl,by rw[List.take_zero];exact HR2⟩
 case round=>
  obtain⟨j,hj,rfl,HR⟩:=hrel;obtain⟨wx,hwx⟩:∃wx,wx=wr:=⟨_,rfl⟩
  subst hwx;by_cases hjl:j<nk
  . have hjI:(j:Int)<(nk:Int):=by omega
    obtain⟨⟨a,tox,tb,bb⟩,hL⟩:∃x,rks[j]?=some x:=⟨_,zB (by rw[<- HNK.out];exact hjl)⟩
    obtain⟨r,hr⟩:∃x,rs[j]?=some x:=⟨_,zB (by rw[HJW.out.rlen,<- HNK.out];exact hjl)⟩
    obtain⟨r1,r2,q,r3⟩:=HJW.out.rat j _ r hL hr;dsimp only at r1 r2 r3;have HTK:Hid ((rs.take (j+1)).foldl ringC (narrowC ls c)=ringC ((rs.take j).foldl ringC (narrowC ls c)) r):=zA (by rw[zU,hr,yR,List.foldl_append];rfl);have hrsl:=HJW.out.rsl;rw[HRV.out]at hrsl;have hFr:Fr F w wx:=HR.out.fr.sub (fun k hk=>⟨HJW.out.jz.low k hk,HJW.out.jz.un k hk⟩);obtain⟨kg,koff,hka,hkF,hkl,hcell⟩:=(hrsl.fr hFr).get hL;subst hka;have c0:=hcell 0 _ rfl;have c1:=hcell 1 _ rfl;have c2':=hcell 2 _ rfl;have c3:=hcell 3 _ rfl;dsimp only at c0 c1 c2' c3;rw[yJ]at c0;obtain⟨lb,hlb⟩:∃b,b=wx.heap.size:=⟨_,rfl⟩
    obtain⟨o,ho⟩:∃o,o=Obj.cells #[.int .i64 (a:Int),.int .i64 (tox:Int),.pointer (some ⟨tb,0,none⟩),.pointer (some ⟨bb,0,none⟩)] 96 (0,0):=⟨_,rfl⟩
    obtain⟨wz,hwz⟩:∃W,W=wx.alloc o:=⟨_,rfl⟩
    have hbz:Below wx.heap.size wx wz:=by rw[hwz];exact(zF _ _).alloc (zD _) _
    have hszz:wz.heap.size=wx.heap.size+1:=by rw[hwz];simp
    have hlbz:wz.heap[lb]?=some (.cells #[.int .i64 (a:Int),.int .i64 (tox:Int),.pointer (some ⟨tb,0,none⟩),.pointer (some ⟨bb,0,none⟩)] 96 (0,0)):=by rw[hwz,hlb,<- ho];exact heap_alloc_new _ _
    obtain⟨g,cap2,av,na,hv,hgw,⟨aa,ac,hav⟩,hcz,CR0⟩:=HR.out.ring HJW.out.jz (wz:=wz.drew) hbz.drew r2 r1 r3;injection hv with hv1 _ hv2;injection hv1 with hv1;injection hv1 with hv1 _;subst hv1 hv2 hav;have CR:=zA CR0;have KS:Hid (∀u,Below wz.heap.size wz u->u.cell? ⟨lb,0,none⟩=some (.int .i64 (a:Int))/\u.cell? ⟨lb,2,none⟩=some (.pointer (some ⟨tb,0,none⟩))):=zA (fun u hu=>by
     have h1:=(hu.block lb (by omega)).trans hlbz;exact⟨by simp[World.cell?,h1],by simp[World.cell?,h1]⟩)
    have HA0:Hid (Below wz.heap.size wz wz.drew):=zA (zF _ _).drew;have KN:Hid (∀w5:World,(∀k,wx.heap.size<=k->k<wz.drew.heap.size->w5.heap[k]?=wz.drew.heap[k]?)->(w5.cell? ⟨lb,0,none⟩=some (.int .i64 (a:Int))/\w5.cell? ⟨lb,2,none⟩=some (.pointer (some ⟨tb,0,none⟩)))/\∀z,(w5.setCell ⟨g1,a,none⟩ z).cell? ⟨lb,0,none⟩=some (.int .i64 (a:Int))/\(w5.setCell ⟨g1,a,none⟩ z).cell? ⟨lb,2,none⟩=some (.pointer (some ⟨tb,0,none⟩))):=zA (fun w5 hk5=>by
     have h1:w5.heap[lb]?=_:=(hk5 lb (by omega) (by show lb<wz.heap.size;omega)).trans hlbz;have h2:∀z,(w5.setCell ⟨g1,a,none⟩ z).heap[lb]?=_:=fun z=>(zL w5 ⟨g1,a,none⟩ z lb (by show lb≠g1;omega)).trans h1
     exact⟨⟨by simp[World.cell?,h1],by simp[World.cell?,h1]⟩,fun z=>⟨by simp[World.cell?,h2 z],by simp[World.cell?,h2 z]⟩⟩)
    have hcz2:wz.cell? ⟨g1,a,none⟩=some (.slice aa na ac):=hcz;have HWZ:Hid (wx.alloc (.cells #[.int .i64 (a:Int),.int .i64 (tox:Int),.pointer (some ⟨tb,0,none⟩),.pointer (some ⟨bb,0,none⟩)] 96)=wz):=zA (by rw[hwz,ho]);obtain⟨b0z,b2z⟩:=KS.out wz (zF _ _);have b1z:wz.cell? ⟨lb,1,none⟩=some (.int .i64 (tox:Int)):=by simp[World.cell?,hlbz]
    have b3z:wz.cell? ⟨lb,3,none⟩=some (.pointer (some ⟨bb,0,none⟩)):=by simp[World.cell?,hlbz]
    rw[hwz,hlb,ho]at b0z b1z b2z b3z;have haI:(a:Int)<(m:Int):=by omega
    have HLB:Hid (wx.heap.size=lb):=zA hlb.symm;clear hL hr r1 r3 hrsl hFr hcell CR0 hbz hszz hlbz hwz ho hlb hgw;go_wp2_with fail;rw[HWZ.out,HLB.out];clear b0z b1z b2z b3z c0 c1 c2' c3;refine wp_region_held_drew (S:=fun u=>u.cell? ⟨lb,0,none⟩=some (.int .i64 (a:Int))/\u.cell? ⟨lb,2,none⟩=some (.pointer (some ⟨tb,0,none⟩))) (by kernel_rfl) ?_ (fun hHeld=>?_)
    . exact KS.out _ HA0.out
    refine tkH (i:=0) (oi:=⟨some 27,.move (.tmp 3),88, "join.go:107",#[],none⟩) (v:=?_) rfl ?_ hHeld ?_;rotate_left 1
    . rintro W ⟨l1,l2⟩;go_simp;try with_reducible rfl
    simp only[Act.put,zIB,zSZ,zSS];refine tkH (i:=1) (oi:=⟨some 28,.fieldAddr 96 (.tmp 5) 0,0, "join.go:107",#[],none⟩) (v:=?_) rfl ?_ hHeld ?_;rotate_left 1
    . rintro W ⟨l1,l2⟩;go_simp;try with_reducible rfl
    simp only[Act.put,zIB,zSZ,zSS];refine tkH (i:=2) (oi:=⟨some 29,.load 3 (.tmp 28),3, "join.go:107",#[⟨1,.data⟩],none⟩) (v:=?_) rfl ?_ hHeld ?_;rotate_left 1
    . rintro W ⟨l1,l2⟩;go_simp;try with_reducible rfl
    simp only[Act.put,zIB,zSZ,zSS];refine tkH (i:=3) (oi:=⟨some 30,.fieldAddr 96 (.tmp 5) 2,0, "join.go:107",#[],none⟩) (v:=?_) rfl ?_ hHeld ?_;rotate_left 1
    . rintro W ⟨l1,l2⟩;go_simp;try with_reducible rfl
    simp only[Act.put,zIB,zSZ,zSS];refine tkH (i:=4) (oi:=⟨some 31,.load 72 (.tmp 30),72, "join.go:107",#[⟨3,.data⟩],none⟩) (v:=?_) rfl ?_ hHeld ?_;rotate_left 1
    . rintro W ⟨l1,l2⟩;go_simp;try with_reducible rfl
    simp only[Act.put,zIB,zSZ,zSS];refine tkH (i:=5) (oi:=⟨some 32,.move (.tmp 3),88, "join.go:107",#[],none⟩) (v:=?_) rfl ?_ hHeld ?_;rotate_left 1
    . rintro W ⟨l1,l2⟩;go_simp;try with_reducible rfl
    simp only[Act.put,zIB,zSZ,zSS];refine tkH (i:=6) (oi:=⟨some 33,.fieldAddr 96 (.tmp 5) 0,0, "join.go:107",#[],none⟩) (v:=?_) rfl ?_ hHeld ?_;rotate_left 1
    . rintro W ⟨l1,l2⟩;go_simp;try with_reducible rfl
    simp only[Act.put,zIB,zSZ,zSS];refine tkH (i:=7) (oi:=⟨some 34,.load 3 (.tmp 33),3, "join.go:107",#[⟨6,.data⟩],none⟩) (v:=?_) rfl ?_ hHeld ?_;rotate_left 1
    . rintro W ⟨l1,l2⟩;go_simp;try with_reducible rfl
    simp only[Act.put,zIB,zSZ,zSS];refine tkH (i:=8) (oi:=⟨some 35,.indexAddr 88 (.tmp 32) (.tmp 34),0, "join.go:107",#[⟨5,.data⟩,⟨7,.data⟩],none⟩) (v:=?_) rfl ?_ hHeld ?_;rotate_left 1
    . rintro W ⟨l1,l2⟩;go_simp;try with_reducible rfl
    simp only[Act.put,zIB,zSZ,zSS];refine wpAnyH_ready (rs:=[9]) (by kernel_rfl) (by simp) ?_;refine AllReadyH.cons (o:=⟨some 36,.load 63 (.tmp 35),63, "join.go:107",#[⟨8,.data⟩],none⟩) rfl (fun K hK=>?_) AllReadyH.nil;go_simp;refine hK.out _ _ (KS.out _ HA0.out) (fun hHeld=>?_);clear hK K;refine wpAnyH_ready (rs:=[10]) (by kernel_rfl) (by simp) ?_;refine AllReadyH.cons (o:=⟨some 37,.call { callee:=.value (.func 44),args:=#[.tmp 31,.tmp 36],argTypes:=#[72,63] },63, "join.go:107",#[⟨4,.data⟩,⟨9,.data⟩],none⟩) rfl (fun K hK=>?_) AllReadyH.nil;go_simp;refine CR.out.mono ?_;rintro e w5 ⟨lv,rfl,⟨la,nl,lc,hlv⟩,c5,f5,k5,h5⟩;subst hlv;have HR5:=zA h5;have HK5:=zA (KN.out w5 k5);clear h5 k5;refine hK.out _ _ HK5.out.1 (fun hHeld=>?_);clear hK K;refine tkH (i:=11) (oi:=⟨some 38,.indexAddr 88 (.tmp 27) (.tmp 29),0, "join.go:107",#[⟨0,.data⟩,⟨2,.data⟩,⟨0,.phase⟩,⟨1,.phase⟩,⟨2,.phase⟩,⟨3,.phase⟩,⟨4,.phase⟩,⟨5,.phase⟩,⟨6,.phase⟩,⟨7,.phase⟩,⟨8,.phase⟩,⟨9,.phase⟩,⟨10,.phase⟩],none⟩) (v:=?_) rfl ?_ hHeld ?_;rotate_left 1
    . rintro W ⟨l1,l2⟩;go_simp;try with_reducible rfl
    simp only[Act.put,zIB,zSZ,zSS];refine wpAnyH_ready (rs:=[12]) (by kernel_rfl) (by simp) ?_;refine AllReadyH.cons (o:=⟨none,.store 63 (.tmp 38) (.tmp 37),0, "join.go:107",#[⟨11,.data⟩,⟨10,.data⟩,⟨10,.chain⟩,⟨0,.phase⟩,⟨1,.phase⟩,⟨2,.phase⟩,⟨3,.phase⟩,⟨4,.phase⟩,⟨5,.phase⟩,⟨6,.phase⟩,⟨7,.phase⟩,⟨8,.phase⟩,⟨9,.phase⟩,⟨10,.phase⟩],none⟩) rfl (fun K hK=>?_) AllReadyH.nil;go_simp;refine hK.out _ _ (HK5.out.2 _) (fun hHeld=>?_);clear hK K c5 f5;refine wpAnyH_done (by kernel_rfl) ?_ _;go_wp2;go_roundw
    case rel=>exact⟨j+1,by omega,by go_num,zA (by rw[HTK.out];exact HR5.out)⟩
    case measure=>simp[intOf];omega
  . have hjI:¬(j:Int)<(nk:Int):=by omega
    have htk:rs.take j=rs:=zK (by rw[HJW.out.rlen,<- HNK.out];omega);rw[htk]at HR;obtain⟨k1,_,k6⟩:=HCE.out wx HR.out.fr;have CN:=zA (HR.out.narrow HJW.out.jz HJW.out.m0);clear htk;go_wp2_with fail;refine CN.out.mono ?_;rintro e w3 ⟨rfl,hr3⟩;obtain⟨l3,C3,hfi,hff⟩:=hr3.fill HJW.out.jz HJW.out.m0 HJW.out.fv0 (narrow_ac _ _);have CF:=zA (fillJ_any HJW.out.une HJW.out.ult us.length w3 J l3 (fun _=>False) C3 _ _ _ [] [] [] us rfl rfl (zD _) hfi);have HFF:=zA hff;clear hr3 CN k1 k6 hfi hff k2;go_wp2_with fail;refine CF.out.mono ?_;rintro e w4 ⟨he,ho4⟩;obtain⟨bb4,hb4⟩:∃b,e=.returned (.bool b):=⟨_,he⟩
    subst hb4;clear he;obtain⟨fv4,l4,X4,a1,a2,a3,a4,a5,a6⟩:=ho4.ex;have c6:=a1.cell.2.2.2.2.2.1;dsimp only[Jv.with]at c6;have HFIN:Hid (Q (.returned fv4) w4):=zA (by
     rw[HQ.out];refine⟨fv4,rfl,X4,l4,a3,fun k hk=>⟨?_,(a2 k hk).1⟩,(HFF.out.mono (fun _ h=>h.elim)).trans a6 (fun k hk=>?_)⟩
     . rcases a5 k hk with h1|h1
       . exact h1.elim
       . exact zQ HFF.out.size h1
     . rcases hk with hk|hk|hk
       . exact .inl hk
       . exact hk.elim
       . obtain⟨_,_,_,e⟩:=hk;cases e)
    obtain⟨rows4,_,hrow4,_⟩:=a3;obtain⟨fa,fc,hfe⟩:=own_slice hrow4;obtain⟨n4,hn4⟩:∃q,q=rows4.length:=⟨_,rfl⟩
    rw[<- hn4]at hfe;subst hfe;clear a1 a2 a4 a5 a6 ho4 CF hrow4 hn4;go_wp2;all_goals (first|(go_ret;exact HFIN.out)|exact HFIN.out)
abbrev encTm(t:Tm):Value:=.agg #[.bool t.1,.string ⟨t.2.toArray⟩]
def FineM(t:Tm):Prop:=t.2.length<=maxLen
def kM(t:Tm):Lit:=.string (keyBytes [.bool t.1,.string t.2])
theorem kM_key(t:Tm):WideAt.IsKeyLit (kM t):=trivial
theorem laidOutM:laidOutB Tryz.prog=true:=by kernel_rfl
theorem rowM:35<Tryz.prog.types.size:=of_decide_eq_true (by kernel_rfl)
theorem cellsM:Tryz.prog.cellsOf 35=2:=by kernel_rfl
theorem cellsSM:Tryz.prog.cellsOf 9=1:=by kernel_rfl
theorem cellsBM:Tryz.prog.cellsOf 4=1:=by kernel_rfl
theorem typesBM:Nat.ble 2 (Tryz.prog.types.size+1)=true:=by kernel_rfl
theorem typesNM:∃d,Tryz.prog.types.size+1=2+d:=⟨Tryz.prog.types.size+1-2,by have:=Nat.le_of_ble_eq_true typesBM;omega⟩
theorem ktM:Tryz.prog.keyTypeAt 2 35=true:=by kernel_rfl
theorem wideM:(match Tryz.prog.underlying 35 with|some (.array _ _)|some (.struct _)=>true|_=>false)=true:=by rw[Tryz.underlying35]
theorem lawM:Maps.Keyed Tryz.prog 35:=Maps.Keyed.of_law (deep_law_laid laidOutM (m:=2) (by omega) rowM ktM wideM)
theorem keyTypeM:Tryz.prog.keyType 35=true:=by kernel_rfl
theorem formedM(a b:Value):(Value.agg #[a,b]).formed Tryz.prog 35=true:=by simp[Value.formed,Tryz.underlying35,cellsM]
theorem litsSM(d:Nat)(v:Value):Tryz.prog.keyLits (d+1) 9 [v]=match v with| .string s=>if s.size<=maxLen then some [.string s.data.toList]else none|_=>none:=by
 unfold Program.keyLits;rw[Tryz.underlying9];cases v<;>rfl
theorem litsBM(d:Nat)(v:Value):Tryz.prog.keyLits (d+1) 4 [v]=match v with| .bool b=>some [.bool b]|_=>none:=by
 unfold Program.keyLits;rw[show Tryz.prog.underlying 4=some .bool by kernel_rfl];cases v<;>rfl
theorem litsM(d:Nat)(a b:Value):Tryz.prog.keyLits (2+d) 35 [a,b]=(do
 let x <- Tryz.prog.keyLits (1+d) 4 [a];let y <- Tryz.prog.keyLits (1+d) 9 [b]
 pure (x++y)):=by
 rw[show 2+d=(1+d)+1 by omega];conv=>lhs;unfold Program.keyLits
 rw[Tryz.underlying35];simp[cellsM,cellsSM,cellsBM];cases Tryz.prog.keyLits (1+d) 4 [a]<;>simp
 cases Tryz.prog.keyLits (1+d) 9 [b]<;>simp
theorem keyM{t:Tm}(h:FineM t):keyOf Tryz.prog 35 (encTm t)=some (kM t):=by
 unfold keyOf;rw[Tryz.underlying35];simp only[keyTypeM,formedM,Bool.and_self,if_true,Value.cells];obtain⟨d,hd⟩:=typesNM;rw[hd,litsM,show 1+d=d+1 by omega,litsSM,litsBM];have h:t.2.length<=maxLen:=h;simp[size_list,h,kM]
theorem kM_inj{a b:Tm}(ha:FineM a)(hb:FineM b)(h:kM a=kM b):a=b:=by
 have:=lawM.inj (keyM ha) (by rw[h];exact keyM hb);simp[encTm]at this;exact Prod.ext this.1 this.2
structure TellM (D:DataW Unit) (ts:List Tm):Prop where
 has:∀t,FineM t->Maps.has D (kM t)=decide (t∈ts)
 at_:∀(i:Nat) t,ts[i]?=some t->D.atKey (kM t) (.lit (.int .i64 0))=.lit (.int .i64 (i:Int))
 fine:∀t∈ts,FineM t
 nd:ts.Nodup
theorem tellM_nil:TellM (.map []) []:=⟨fun t _=>by simp[Maps.has],fun i t h=>by simp at h,fun t h=>by simp at h,List.nodup_nil⟩
def addT(ts:List Tm)(t:Tm):List Tm:=if t∈ts then ts else ts++[t]
theorem TellM.put{D:DataW Unit}{ts:List Tm}(hm:Maps.IsMap D)(h:TellM D ts){t:Tm}(hf:FineM t)(ht:t∉ts):TellM (D.put (kM t) (.lit (.int .i64 (ts.length:Int)))) (ts++[t]):=by
 refine⟨fun x hx=>?_,fun i x hx=>?_,fun x hx=>?_,?_⟩
 . by_cases e:x=t
   . subst e;rw[Maps.has_put_same hm (kM_key x)];simp
   . rw[Maps.has_put_other (fun h2=>e (kM_inj hx hf h2)),h.has x hx];simp[e]
 . by_cases hi:i<ts.length
   . rw[yE hi]at hx;have hxm:=zC hx;rw[Maps.atKey_put_other (fun h2=>ht (by rw[<- kM_inj (h.fine x hxm) hf h2];exact hxm))];exact h.at_ i x hx
   . have hil:=(zE.1 hx).1;rw[zG]at hil;simp only[List.length_singleton]at hil;have e:i=ts.length:=by omega
     rw[e,yM (zD _)]at hx;simp at hx;rw[<- hx,Maps.atKey_put_same hm (kM_key t),e]
 . rcases zM.1 hx with hx|hx
   . exact h.fine x hx
   . rw[zJ.1 hx];exact hf
 . rw[List.nodup_append];exact⟨h.nd,by simp,fun a ha b hb e=>ht (by rw[<- zJ.1 hb,<- e];exact ha)⟩
theorem idx_add{ts:List Tm}{t:Tm}(h:t∉ts):(ts++[t]).idxOf t=ts.length:=by
 rw[List.idxOf_append,if_neg h];simp
def XS(jb mp:Nat)(J:Jv)(k:Nat):Prop:=k=jb\/k=mp\/J.av.ownBlock=some k\/J.cv.ownBlock=some k
structure SL (B:Nat) (V:List Wd) (w:World) (jb mp:Nat) (J:Jv) (ts:List Tm) (frs:List (Value×List Nat)) (D:Nat->Prop):Prop where
 blk:w.heap[jb]?=some (.cells J.cells 90 (0,0))
 sv:J.sv=.map (some mp)
 jB:B<=jb
 mB:B<=mp
 map:∃cnt DM,w.ownsMap Tryz.prog 35 (plainElem Tryz.prog 3) mp cnt DM/\cnt<=ts.length/\TellM DM ts
 al:w.ownsRow B 3 1 J.av ts.length ((List.range ts.length).flatMap csI)
 fi:w.ownsRow B 63 1 J.cv frs.length (frs.flatMap csRow)
 frc:frs.map (·.2)=ts.map (firstT V)
 fat:∀r∈frs,NatC D w r.1 r.2
 dl:∀k,D k->B<=k/\k<w.heap.size
 dx:∀k,D k->¬XS jb mp J k
theorem SL.fl{B:Nat}{V:List Wd}{w:World}{jb mp:Nat}{J:Jv}{ts:List Tm}{frs:List (Value×List Nat)}{D:Nat->Prop}(h:SL B V w jb mp J ts frs D):frs.length=ts.length:=by
 have:=congrArg List.length h.frc;rw[zH,zH]at this;exact this
theorem SL.xlt{B:Nat}{V:List Wd}{w:World}{jb mp:Nat}{J:Jv}{ts:List Tm}{frs:List (Value×List Nat)}{D:Nat->Prop}(h:SL B V w jb mp J ts frs D){k:Nat}(hk:XS jb mp J k):B<=k/\k<w.heap.size:=by
 rcases hk with rfl|rfl|hk|hk
 . exact⟨h.jB,lt_of_block h.blk⟩
 . obtain⟨_,_,h1,_⟩:=h.map;exact⟨h.mB,h1.lt⟩
 . exact h.al.lt k hk
 . exact h.fi.lt k hk
theorem SL.keep{B:Nat}{V:List Wd}{w w':World}{jb mp:Nat}{J:Jv}{ts:List Tm}{frs:List (Value×List Nat)}{D:Nat->Prop}(h:SL B V w jb mp J ts frs D)(hz:w.heap.size<=w'.heap.size)(hk:∀k,XS jb mp J k\/D k->w'.heap[k]?=w.heap[k]?):SL B V w' jb mp J ts frs D:=by
 obtain⟨cnt,DM,h1,h2⟩:=h.map;exact⟨(hk jb (.inl (.inl rfl))).trans h.blk,h.sv,h.jB,h.mB,⟨cnt,DM,map_keyG h1 (fun _ ho=>(hk mp (.inl (.inr (.inl rfl)))).trans ho),h2⟩,owns_key h.al (fun g o hg ho=>(hk g (.inl (.inr (.inr (.inl hg))))).trans ho),owns_key h.fi (fun g o hg ho=>(hk g (.inl (.inr (.inr (.inr hg))))).trans ho),h.frc,fun r hr=>(h.fat r hr).keep hz (fun k hk2 _=>⟨hk2,hk k (.inr hk2)⟩),fun k hk2=>⟨(h.dl k hk2).1,zO (h.dl k hk2).2 hz⟩,h.dx⟩
def SloE(B:Nat)(V:List Wd)(w:World)(jb mp:Nat)(J:Jv)(ts:List Tm)(D:Nat->Prop)(t:Tm)(e:Ending)(w':World):Prop:=
 e=.returned (.int .i64 ((addT ts t).idxOf t:Nat))/\∃av cv frs' D',SL B V w' jb mp { J with av:=av,cv:=cv } (addT ts t) frs' D'/\(∀k,XS jb mp { J with av:=av,cv:=cv } k->XS jb mp J k\/w.heap.size<=k)/\(∀k,D' k->D k\/w.heap.size<=k)/\Fr (fun k=>k<w.heap.size/\¬XS jb mp J k) w w'
theorem rows_neX{w:World}{B1 B2 n1 n2 s1 s2:Nat}{e1 e2:TypeId}{v1 v2:Value}{xs1 xs2:List Value}(h1:w.ownsRow B1 e1 s1 v1 n1 xs1)(h2:w.ownsRow B2 e2 s2 v2 n2 xs2)(hne:e1≠e2){k:Nat}(hk:v1.ownBlock=some k):v2.ownBlock≠some k:=by
 rcases h1.2 with⟨e,_⟩|⟨g,cap,cur,e,_,hb,_⟩
 . rw[e]at hk;simp[Value.ownBlock]at hk
 . have hgk:g=k:=by rw[e]at hk;simpa[Value.ownBlock]using hk
   subst hgk;exact own_neG h2 hb (fun e2=>hne e2.symm)
theorem SL.done{B:Nat}{V:List Wd}{w:World}{jb mp:Nat}{J:Jv}{ts:List Tm}{frs:List (Value×List Nat)}{D:Nat->Prop}(h:SL B V w jb mp J ts frs D){t:Tm}(ht:t∉ts)(hf:FineM t)(hBw:B<=w.heap.size)
 {w2 w3 w5 w8 w9:World} {cnt:Nat} {DM:DataW Unit} {av5 cv9 lv:Value} (hb2:Below w.heap.size w w2) (hcnt:cnt<=ts.length) (hDM:Maps.IsMap DM) (hT:TellM DM ts) (hm3:w3.ownsMap Tryz.prog 35 (plainElem Tryz.prog 3) mp (cnt+1) (DM.put (kM t) (.lit (.int .i64 (ts.length:Int))))) (hg3:w2.grownBy w3 (some mp))
 (hr5:w5.ownsRow B 3 1 av5 (ts.length+1) ((List.range ts.length).flatMap csI++csI ts.length)) (hk5:∀k,k<w3.heap.size->J.av.ownBlock≠some k->w5.heap[k]?=w3.heap[k]?) (hz5:w3.heap.size<=w5.heap.size) (ho5:w5.os=w3.os) (ht5:w5.tape=w3.tape) (hu5:w5.output=w3.output) (ha5:∀g,av5.ownBlock=some g->J.av.ownBlock=some g\/w3.heap.size<=g)
 (hb8:Below w5.heap.size (w5.setCell ⟨jb,1,none⟩ av5) w8) (hL:NatC (fun k=>w5.heap.size<=k) w8 lv (firstT V t))
 (hr9:w9.ownsRow B 63 1 cv9 (frs.length+1) (frs.flatMap csRow++[lv])) (hk9:∀k,k<w8.heap.size->J.cv.ownBlock≠some k->w9.heap[k]?=w8.heap[k]?) (hz9:w8.heap.size<=w9.heap.size) (ho9:w9.os=w8.os) (ht9:w9.tape=w8.tape) (hu9:w9.output=w8.output) (ha9:∀g,cv9.ownBlock=some g->J.cv.ownBlock=some g\/w8.heap.size<=g):
 ∃frs' D',SL B V (w9.setCell ⟨jb,5,none⟩ cv9) jb mp { J with av:=av5,cv:=cv9 } (ts++[t]) frs' D'/\(∀k,XS jb mp { J with av:=av5,cv:=cv9 } k->XS jb mp J k\/w.heap.size<=k)/\(∀k,D' k->D k\/w.heap.size<=k)/\Fr (fun k=>k<w.heap.size/\¬XS jb mp J k) w (w9.setCell ⟨jb,5,none⟩ cv9):=by
 have hz2:=hb2.size;have hz3:=hg3.size;have hz6:(w5.setCell ⟨jb,1,none⟩ av5).heap.size=w5.heap.size:=by simp
 have hz8:w5.heap.size<=w8.heap.size:=by have:=hb8.size;omega
 have hzF:(w9.setCell ⟨jb,5,none⟩ cv9).heap.size=w9.heap.size:=by simp
 have hjl:=lt_of_block h.blk;obtain⟨_,_,hmw,_⟩:=h.map;have hmj:mp≠jb:=blk_ne_mapG h.blk hmw;have hml:=hmw.lt;have haj:J.av.ownBlock≠some jb:=own_neG h.al h.blk (by decide);have hcj:J.cv.ownBlock≠some jb:=own_neG h.fi h.blk (by decide);have ham:J.av.ownBlock≠some mp:=own_ne_mapG h.al hmw;have hcm:J.cv.ownBlock≠some mp:=own_ne_mapG h.fi hmw;have hac:∀k,J.av.ownBlock=some k->J.cv.ownBlock≠some k:=fun k hk=>rows_neX h.al h.fi (by decide) hk
 have hs1:∀k,k≠jb->(w5.setCell ⟨jb,1,none⟩ av5).heap[k]?=w5.heap[k]?:=fun k hk=>zL _ _ _ _ hk
 have hs9:∀k,k≠jb->(w9.setCell ⟨jb,5,none⟩ cv9).heap[k]?=w9.heap[k]?:=fun k hk=>zL _ _ _ _ hk
 have h58:∀k,k<w5.heap.size->k≠jb->w8.heap[k]?=w5.heap[k]?:=fun k hk hne=>(hb8.block k hk).trans (hs1 k hne)
 have h23:∀k,k<w2.heap.size->k≠mp->w3.heap[k]?=w2.heap[k]?:=fun k hk hne=>hg3.block k hk (fun e=>hne (by injection e))
 have hblk3:w3.heap[jb]?=some (.cells J.cells 90 (0,0)):=(h23 jb (by omega) (fun e=>hmj e.symm)).trans ((hb2.block jb hjl).trans h.blk);have hblk5:w5.heap[jb]?=some (.cells J.cells 90 (0,0)):=(hk5 jb (by omega) haj).trans hblk3;have hblk6:(w5.setCell ⟨jb,1,none⟩ av5).heap[jb]?=some (.cells ({ J with av:=av5 }:Jv).cells 90 (0,0)):=by
  simp[World.setCell,Array.getElem?_modify,hblk5,Jv.cells]
 have hblk9:w9.heap[jb]?=some (.cells ({ J with av:=av5 }:Jv).cells 90 (0,0)):=(hk9 jb (by omega) hcj).trans ((hb8.block jb (by omega)).trans hblk6);have hblkF:(w9.setCell ⟨jb,5,none⟩ cv9).heap[jb]?=some (.cells ({ J with av:=av5,cv:=cv9 }:Jv).cells 90 (0,0)):=by
  simp[World.setCell,Array.getElem?_modify,hblk9,Jv.cells]
 have hold:∀k,k<w.heap.size->¬XS jb mp J k->(w9.setCell ⟨jb,5,none⟩ cv9).heap[k]?=w.heap[k]?:=fun k hk hx=>by
  have n1:k≠jb:=fun e=>hx (.inl e)
  have n2:k≠mp:=fun e=>hx (.inr (.inl e))
  have n3:J.av.ownBlock≠some k:=fun e=>hx (.inr (.inr (.inl e)))
  have n4:J.cv.ownBlock≠some k:=fun e=>hx (.inr (.inr (.inr e)))
  exact(hs9 k n1).trans ((hk9 k (by omega) n4).trans ((h58 k (by omega) n1).trans ((hk5 k (by omega) n3).trans ((h23 k (by omega) n2).trans (hb2.block k hk)))))
 have ha5j:∀g,av5.ownBlock=some g->g≠jb/\g≠mp/\J.cv.ownBlock≠some g/\g<w5.heap.size:=fun g hg=>by
  have hl:=(hr5.lt g hg).2;rcases ha5 g hg with h1|h1
  . exact⟨fun e=>haj (e▸h1),fun e=>ham (e▸h1),hac g h1,hl⟩
  . refine⟨by omega,by omega,fun e=>?_,hl⟩;have:=(h.fi.lt g e).2;omega
 have hdv:∀k,D k->¬XS jb mp { J with av:=av5,cv:=cv9 } k:=fun k hk hx=>by
  have hkl:=(h.dl k hk).2;rcases hx with e|e|e|e
  . exact h.dx k hk (.inl e)
  . exact h.dx k hk (.inr (.inl e))
  . rcases ha5 k e with h1|h1
    . exact h.dx k hk (.inr (.inr (.inl h1)))
    . omega
  . rcases ha9 k e with h1|h1
    . exact h.dx k hk (.inr (.inr (.inr h1)))
    . omega
 refine⟨frs++[(lv,firstT V t)],fun k=>D k\/(w5.heap.size<=k/\k<w8.heap.size),⟨hblkF,h.sv,h.jB,h.mB,⟨cnt+1,_,map_keyG hm3 (fun o ho=>?_),by rw[zG];simp only[List.length_singleton];omega,hT.put hDM hf ht⟩,?_,?_,?_,fun r hr=>?_,fun k hk=>?_,fun k hk=>?_⟩,fun k hk=>?_,fun k hk=>?_,?_⟩
 . have hmp3:w5.heap[mp]?=w3.heap[mp]?:=hk5 mp (by omega) ham;exact(hs9 mp hmj).trans ((hk9 mp (by omega) hcm).trans ((h58 mp (by omega) hmj).trans (hmp3.trans ho)))
 . rw[zG,List.length_singleton,List.range_succ,zT];refine owns_key (show w5.ownsRow B 3 1 av5 (ts.length+1) _ from by simpa using hr5) (fun g o hg ho=>?_);obtain⟨a1,a2,a3,a4⟩:=ha5j g hg;exact(hs9 g a1).trans ((hk9 g (by omega) a3).trans ((h58 g a4 a1).trans ho))
 . rw[zG,zT];refine owns_key hr9 (fun g o hg ho=>(hs9 g (fun e=>?_)).trans ho);rcases ha9 g hg with h1|h1
   . exact hcj (e▸h1)
   . omega
 . rw[yL,yL,h.frc];rfl
 . rcases zM.1 hr with hr|hr
   . refine(h.fat r hr).keep (by omega) (fun k hk hl=>⟨.inl hk,hold k hl (h.dx k hk)⟩)
   . rw[zJ.1 hr];refine hL.keep (by omega) (fun k hk hl=>⟨.inr ⟨hk,hl⟩,(hs9 k (by omega)).trans (hk9 k hl (fun e=>?_))⟩);have:=(h.fi.lt k e).2;omega
 . rcases hk with hk|hk
   . have:=h.dl k hk;exact⟨this.1,by omega⟩
   . exact⟨by omega,by omega⟩
 . rcases hk with hk|hk
   . exact hdv k hk
   . intro hx;rcases hx with e|e|e|e
     . omega
     . omega
     . have:=(ha5j k e).2.2.2;omega
     . rcases ha9 k e with h1|h1
       . have:=(h.fi.lt k h1).2;omega
       . omega
 . rcases hk with e|e|e|e
   . exact .inl (.inl e)
   . exact .inl (.inr (.inl e))
   . rcases ha5 k e with h1|h1
     . exact .inl (.inr (.inr (.inl h1)))
     . exact .inr (by omega)
   . rcases ha9 k e with h1|h1
     . exact .inl (.inr (.inr (.inr h1)))
     . exact .inr (by omega)
 . exact hk.imp id (fun h1=>by omega)
 . refine⟨?_,?_,?_,by omega,fun k hk=>hold k hk.1 hk.2⟩
   . exact ho9.trans (hb8.os.trans (ho5.trans (hg3.os.trans hb2.os)))
   . exact ht9.trans (hb8.tape.trans (ht5.trans (hg3.tape.trans hb2.tape)))
   . exact hu9.trans (hb8.output.trans (hu5.trans (hg3.output.trans hb2.output)))
end Go.Proofs.YtkbgmcmcpbegjabGreatDoor
