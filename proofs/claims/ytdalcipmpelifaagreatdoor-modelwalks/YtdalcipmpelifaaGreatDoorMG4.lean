/- QPlaces, VAre, QRTree, AMath4, MFlat. -/
import Derived.Test.YtdalcipmpelifaaGreatDoorMG3
set_option maxRecDepth 100000
namespace Go.Proofs.YtdalcipmpelifaaGreatDoor
open Go.RowKit
theorem isEmpty_no{l:List UInt8}(h:l≠[]):l.isEmpty=false:=by cases l with
 |nil=>exact absurd rfl h
 |cons=>rfl
theorem kind_cases(k:Int):k=1\/k=2\/k=3\/k=4\/k=5\/k=6\/(k≠1/\k≠2/\k≠3/\k≠4/\k≠5/\k≠6):=by omega
theorem not_both{a b:Int}(h:a≠b):¬a=b/\(a==b)=false:=⟨h,beq_eq_false_iff_ne.2 h⟩
set_option maxHeartbeats 4000000 in
theorem isFormed_any{S:Nat->Prop}{w:World}{t:Vt}(h:VOk S w t):
 Calls Tryz.prog 131 #[encN t] w fun e w'=>e=.returned (.bool (formedP t.kind t.word t.kids.length))/\Below w.heap.size w w':=by
 obtain⟨h1,_,hle,_⟩:=h.parts;obtain⟨ao,cap,hv⟩:=h1.slice;obtain⟨k,wd,v,l⟩:=t;dsimp only at h1 hle hv ⊢;subst hv;have HI:=zA (isQ_any wd);obtain⟨m,hm⟩:∃m,m=isW wd:=⟨_,rfl⟩
 rw[<- hm]at HI;have HM:=zA hm;obtain⟨n,hn⟩:∃n,n=l.length:=⟨_,rfl⟩
 rw[<- hn]at hle ⊢;obtain⟨ans,hans⟩:∃a,a=formedP k wd n:=⟨_,rfl⟩
 rw[<- hans];have HA:=zA hans;have HB:Hid (∀a:Obj,Below w.heap.size w (w.alloc a)):=zA (fun a=>(zF _ _).alloc (zD _) _);clear h h1 hm hn hans;rcases kind_cases k with rfl|rfl|rfl|rfl|rfl|rfl|⟨k1,k2,k3,k4,k5,k6⟩
 . by_cases h0:n=0
   . subst h0;have HF:Hid (ans=m):=zA (by rw[HA.out,HM.out];simp[formedP]);go_enter Tryz.func131,Tryz.ntmps131;go_wp2_with fail;refine(HI.out _).mono ?_;rintro e w1 ⟨rfl,hw⟩;subst hw;go_wp2;go_ret;exact⟨by rw[HF.out];rfl,HB.out _⟩
   . obtain⟨e1,e2⟩:=not_both (a:=(n:Int)) (b:=0) (by omega);have HF:Hid (ans=false):=zA (by rw[HA.out];simp[formedP,h0]);clear h0;go_enter Tryz.func131,Tryz.ntmps131;go_wp2;go_ret;exact⟨by rw[HF.out];rfl,HB.out _⟩
 case inr.inr.inr.inr.inr.inr=>
  obtain⟨a1,b1⟩:=not_both k1;obtain⟨a2,b2⟩:=not_both k2;obtain⟨a3,b3⟩:=not_both k3;obtain⟨a4,b4⟩:=not_both k4;obtain⟨a5,b5⟩:=not_both k5;obtain⟨a6,b6⟩:=not_both k6;have HF:Hid (ans=false):=zA (by rw[HA.out];simp[formedP,a1,a2,a3,a4,a5,a6]);clear k1 k2 k3 k4 k5 k6;go_enter Tryz.func131,Tryz.ntmps131;go_wp2;go_ret;exact⟨by rw[HF.out];rfl,HB.out _⟩
 case inr.inl=>
  by_cases h2:2<=n
  . have e1:(2:Int)<=(n:Int):=by omega
    by_cases hw:wd=[]
    . subst hw;have HF:Hid (ans=true):=zA (by rw[HA.out];simp[formedP,h2]);go_enter Tryz.func131,Tryz.ntmps131;go_wp2;go_ret;exact⟨by rw[HF.out];rfl,HB.out _⟩
    . have e2:=isEmpty_no hw;have e3:(wd==[])=false:=by simpa using hw
      have HF:Hid (ans=false):=zA (by rw[HA.out];simp[formedP,hw]);go_enter Tryz.func131,Tryz.ntmps131;go_wp2;go_ret;exact⟨by rw[HF.out];rfl,HB.out _⟩
  . have e1:¬(2:Int)<=(n:Int):=by omega
    have HF:Hid (ans=false):=zA (by rw[HA.out];simp[formedP,h2]);clear h2;go_enter Tryz.func131,Tryz.ntmps131;go_wp2;go_ret;exact⟨by rw[HF.out];rfl,HB.out _⟩
 case inr.inr.inl=>
  by_cases h2:2<=n
  . have e1:(2:Int)<=(n:Int):=by omega
    by_cases hw:wd=[]
    . subst hw;have HF:Hid (ans=true):=zA (by rw[HA.out];simp[formedP,h2]);go_enter Tryz.func131,Tryz.ntmps131;go_wp2;go_ret;exact⟨by rw[HF.out];rfl,HB.out _⟩
    . have e2:=isEmpty_no hw;have e3:(wd==[])=false:=by simpa using hw
      have HF:Hid (ans=false):=zA (by rw[HA.out];simp[formedP,hw]);go_enter Tryz.func131,Tryz.ntmps131;go_wp2;go_ret;exact⟨by rw[HF.out];rfl,HB.out _⟩
  . have e1:¬(2:Int)<=(n:Int):=by omega
    have HF:Hid (ans=false):=zA (by rw[HA.out];simp[formedP,h2]);clear h2;go_enter Tryz.func131,Tryz.ntmps131;go_wp2;go_ret;exact⟨by rw[HF.out];rfl,HB.out _⟩
 all_goals (
  by_cases h2:n=1
  . subst h2;by_cases hw:wd=[]
    . subst hw;have HF:Hid (ans=true):=zA (by rw[HA.out];simp[formedP]);go_enter Tryz.func131,Tryz.ntmps131;go_wp2;go_ret;exact⟨by rw[HF.out];rfl,HB.out _⟩
    . have e2:=isEmpty_no hw;have e3:(wd==[])=false:=by simpa using hw
      have HF:Hid (ans=false):=zA (by rw[HA.out];simp[formedP,hw]);go_enter Tryz.func131,Tryz.ntmps131;go_wp2;go_ret;exact⟨by rw[HF.out];rfl,HB.out _⟩
  . obtain⟨e1,e2⟩:=not_both (a:=(n:Int)) (b:=1) (by omega);have HF:Hid (ans=false):=zA (by rw[HA.out];simp[formedP,h2]);clear h2;go_enter Tryz.func131,Tryz.ntmps131;go_wp2;go_ret;exact⟨by rw[HF.out];rfl,HB.out _⟩)
theorem sum_take{f:Pt->Nat}{l:List Vt}{i:Nat}{x:Vt}(h:l[i]?=some x):((l.map Vt.pt).take (i+1)).map f=((l.map Vt.pt).take i).map f++[f x.pt]:=by
 rw[zT,zI,h];simp
theorem sum_part{f:Pt->Nat}(l:List Pt)(i:Nat):((l.take i).map f).sum<=(l.map f).sum:=by
 induction l generalizing i with
 |nil=>simp
 |cons y l ih=>
  cases i with
  |zero=>simp
  |succ i=>
   have:=ih i;simp only[List.take_succ_cons,List.map_cons,List.sum_cons];omega
set_option maxHeartbeats 4000000 in
theorem places_any{S:Nat->Prop}:∀(t:Vt) (d:Nat) (dp:Int) (w:World),d<=12->dp+d=13->VOk S w t->
 Calls Tryz.prog 126 #[encN t,.int .i64 dp] w fun e w'=>e=.returned (.int .i64 (plP d t.pt:Int))/\Below w.heap.size w w':=by
 refine Vt.ind (fun k wd v l ih=>?_);intro d dp w hd12 hd hok;have HF1:=zA (fun u (hu:Below w.heap.size w u)=>isFormed_any (hok.below hu));obtain⟨h1,h2,h3,h4⟩:=vok_mk.1 hok;obtain⟨ao,cap,hv⟩:=h1.slice;subst hv;have H1:=zA h1;have H4:=zA h4;have IH:=zA ih;have HB:Hid (∀a:Obj,Below w.heap.size w (w.alloc a)):=zA (fun a=>(zF _ _).alloc (zD _) _);rw[Vt.pt_mk];dsimp only at HF1;obtain⟨n,hn⟩:∃n,n=l.length:=⟨_,rfl⟩
 rw[<- hn]at h3 H1 HF1 ⊢;have HN:=zA hn;clear h1 h4 ih hok hn;cases d with
 |zero=>
  obtain rfl:dp=13:=by omega
  clear hd hd12;go_enter Tryz.func126,Tryz.ntmps126;go_wp2;go_ret;exact⟨rfl,HB.out _⟩
 |succ d=>
  have hdI:¬(12:Int)<dp:=by omega
  have hdp1:1<=dp:=by omega
  have hdp2:dp<=12:=by omega
  have HD:=zA hd;have HD12:=zA hd12;clear hd hd12;obtain⟨ans,hans⟩:∃a,a=plP (d+1) ⟨k,wd,l.map Vt.pt⟩:=⟨_,rfl⟩
  rw[<- hans];have HA:=zA hans;obtain⟨m,hm⟩:∃m,m=formedP k wd n:=⟨_,rfl⟩
  rw[<- hm]at HF1;have HM:Hid (formedP k wd (l.map Vt.pt).length=m):=zA (by rw[zH,<- HN.out,hm]);clear hans hm;cases m with
  |false=>
   have HR:Hid (ans=25):=zA (by rw[HA.out,plP,HM.out];rfl);go_enter Tryz.func126,Tryz.ntmps126;go_wp2_with fail;refine(HF1.out _ (HB.out _)).mono ?_;rintro e w1 ⟨rfl,hb1⟩;go_wp2;go_ret;exact⟨by rw[HR.out];rfl,(HB.out _).trans (hb1.mono (by simp))⟩
  |true=>
   by_cases hk:k=1
   . subst hk;have HR:Hid (ans=1):=zA (by rw[HA.out,plP,HM.out];rfl);obtain⟨wb,hwb⟩:∃u,u=w.alloc (.cells #[.int .i64 1,.string ⟨wd.toArray⟩,.slice ao n cap] 25):=⟨_,rfl⟩
     have HC:Hid (∀w1:World,Below wb.heap.size wb w1->w1.cell? ⟨w.heap.size,0,none⟩=some (.int .i64 1)):=zA (fun w1 hb=>by
      have h:=hb.block w.heap.size (by rw[hwb];simp);rw[hwb,heap_alloc_new]at h;simp[World.cell?,h])
     have HB0:=zA (HB.out (.cells #[.int .i64 1,.string ⟨wd.toArray⟩,.slice ao n cap] 25));rw[<- hwb]at HB0;have HWB:=zA hwb;have HF2:=zA (HF1.out _ HB0.out);go_enter Tryz.func126,Tryz.ntmps126;go_wp2_with fail;rw[<- HWB.out];refine HF2.out.mono ?_;rintro e w1 ⟨rfl,hb1⟩;have c1:=HC.out w1 hb1;go_wp2;go_ret;exact⟨by rw[HR.out];rfl,HB0.out.trans (hb1.mono HB0.out.size)⟩
   . obtain⟨k1,k2⟩:=not_both hk;have HR:Hid (ans=min 25 ((l.map Vt.pt).map (plP d)).sum):=zA (by rw[HA.out,plP,HM.out];simp[hk]);obtain⟨wb,hwb⟩:∃u,u=w.alloc (.cells #[.int .i64 k,.string ⟨wd.toArray⟩,.slice ao n cap] 25):=⟨_,rfl⟩
     have HC:Hid (∀w1:World,Below wb.heap.size wb w1->w1.cell? ⟨w.heap.size,0,none⟩=some (.int .i64 k)/\w1.cell? ⟨w.heap.size,2,none⟩=some (.slice ao n cap)):=zA (fun w1 hb=>by
      have h:=hb.block w.heap.size (by rw[hwb];simp);rw[hwb,heap_alloc_new]at h;exact⟨by simp[World.cell?,h],by simp[World.cell?,h]⟩)
     have HB0:=zA (HB.out (.cells #[.int .i64 k,.string ⟨wd.toArray⟩,.slice ao n cap] 25));rw[<- hwb]at HB0;have HWB:=zA hwb;have HF2:=zA (HF1.out _ HB0.out);clear hk hwb;go_enter Tryz.func126,Tryz.ntmps126;go_wp2_with fail;rw[<- HWB.out];refine HF2.out.mono ?_;rintro e w1 ⟨rfl,hb1⟩;obtain⟨c1,c2⟩:=HC.out w1 hb1;have HB1:=zA (HB0.out.trans (hb1.mono HB0.out.size));clear hb1;go_wp2_with fail;go_loopw [5,21] (fun s c wr=>∃i z:Nat,i<=n/\c=.int .i64 i/\s=.int .i64 z/\z<=24/\z=(((l.map Vt.pt).take i).map (plP d)).sum/\Below w.heap.size w wr) (fun _ c _=>n-(intOf c).toNat)
     case atStart=>exact⟨0,0,zS _,rfl,rfl,by omega,by simp,HB1.out⟩
     case round=>
      obtain⟨i,z,hi,rfl,rfl,hz,hzs,hbq⟩:=hrel;have HZ:=zA hzs;have HBQ:=zA hbq;clear hzs hbq;by_cases hlt:i<n
      . have hltI:(i:Int)<(n:Int):=by omega
        obtain⟨x,hx⟩:∃x,l[i]?=some x:=⟨_,zB (by rw[<- HN.out];exact hlt)⟩
        obtain⟨g,off,rfl,_,_,hcell⟩:=(H1.out.below HBQ.out).get hx;obtain⟨q0,q1,q2⟩:=getN hcell;have hxm:=zC hx;have HX:=zA hx;have HC2:=zA (fun u (hu:Below w.heap.size w u)=>IH.out x hxm d (dp+1) u (by have:=HD12.out;omega) (by have:=HD.out;omega) ((H4.out x hxm).below hu));obtain⟨p,hp⟩:∃p,p=plP d x.pt:=⟨_,rfl⟩
        rw[<- hp]at HC2;have hp25:p<=25:=by rw[hp];exact plP_le _ _
        have HP:=zA hp;obtain⟨wx,hwx⟩:∃wx,wx=wr:=⟨_,rfl⟩
        subst hwx;have HBa:Hid (∀a:Obj,Below w.heap.size w (wx.alloc a)):=zA (fun a=>HBQ.out.alloc HBQ.out.size _);have HS2:Hid (z+p=(((l.map Vt.pt).take (i+1)).map (plP d)).sum):=zA (by rw[sum_take HX.out,List.sum_append,<- HZ.out,<- HP.out];simp);obtain⟨xa,xc,hxv⟩:=(H4.out x hxm).parts.1.slice;obtain⟨xn,hxn⟩:∃n,n=x.kids.length:=⟨_,rfl⟩
        rw[<- hxn]at hxv;obtain⟨xk,xw,xv,xl⟩:=x;dsimp only at q0 q1 q2 hxv;subst hxv;clear hxn hx hcell hp hxm;by_cases hbig:25<=z+p
        . have hbI:(25:Int)<=(z:Int)+(p:Int):=by omega
          have HE:Hid (ans=25):=zA (by
           rw[HR.out];have:=sum_part (f:=plP d) (l.map Vt.pt) (i+1);rw[<- HS2.out]at this;omega)
          clear hbig;go_wp2_with fail;refine(HC2.out _ (HBa.out _)).mono ?_;rintro e w2 ⟨rfl,hb2⟩;go_wp2;go_ret;exact⟨by rw[HE.out];rfl,(HBa.out _).trans (hb2.mono (by have:=HBQ.out.size;simp;omega))⟩
        . have hbI:¬(25:Int)<=(z:Int)+(p:Int):=by omega
          go_wp2_with fail;refine(HC2.out _ (HBa.out _)).mono ?_;rintro e w2 ⟨rfl,hb2⟩;have HB2:Hid (Below w.heap.size w w2):=zA ((HBa.out _).trans (hb2.mono (by have:=HBQ.out.size;simp;omega)));clear hb2;go_wp2;go_roundw
          case rel=>exact⟨i+1,z+p,by omega,by go_num,by go_num,by omega,HS2.out,HB2.out⟩
          case measure=>simp[intOf];omega
      . have hin:i=n:=by omega
        have hltI:¬(i:Int)<(n:Int):=by omega
        have HE:Hid (ans=z):=zA (by
         rw[HR.out];have:=HZ.out;rw[zK (by rw[zH,<- HN.out];omega)]at this;omega)
        clear hin;go_wp2;go_ret;exact⟨by rw[HE.out];rfl,HBQ.out⟩
set_option maxHeartbeats 1000000 in
theorem pathMayBe_any{S:Nat->Prop}{w:World}{t:Vt}(h:VOk S w t):
 Calls Tryz.prog 117 #[encN t] w fun e w'=>e=.returned (.bool (mayP t.pt))/\Below w.heap.size w w':=by
 have HC:=zA (fun u (hu:Below w.heap.size w u)=>places_any t 12 1 u (zD _) rfl (h.below hu));have HB:Hid (∀a:Obj,Below w.heap.size w (w.alloc a)):=zA (fun a=>(zF _ _).alloc (zD _) _);obtain⟨ao,cap,hv⟩:=h.parts.1.slice;obtain⟨ans,hans⟩:∃a,a=mayP t.pt:=⟨_,rfl⟩
 rw[<- hans];have HA:Hid (ans=decide (plP 12 t.pt<25)):=zA (by rw[hans,plP_may]);obtain⟨p,hp⟩:∃p,p=plP 12 t.pt:=⟨_,rfl⟩
 rw[<- hp]at HC HA;obtain⟨k,wd,v,l⟩:=t;dsimp only at hv HC;subst hv;clear hans h hp;by_cases hlt:p<25
 . have hI:(p:Int)<25:=by omega
   have HE:Hid (ans=true):=zA (by rw[HA.out];simpa using hlt);go_enter Tryz.func117,Tryz.ntmps117;go_wp2_with fail;refine(HC.out _ (HB.out _)).mono ?_;rintro e w2 ⟨rfl,hb2⟩;go_wp2;go_ret;exact⟨by rw[HE.out];rfl,(HB.out _).trans (hb2.mono (by simp))⟩
 . have hI:¬(p:Int)<25:=by omega
   have HE:Hid (ans=false):=zA (by rw[HA.out];simpa using hlt);go_enter Tryz.func117,Tryz.ntmps117;go_wp2_with fail;refine(HC.out _ (HB.out _)).mono ?_;rintro e w2 ⟨rfl,hb2⟩;go_wp2;go_ret;exact⟨by rw[HE.out];simp;omega,(HB.out _).trans (hb2.mono (by simp))⟩
set_option maxHeartbeats 4000000 in
theorem rIs_any(s:ByteArray)(w:World)(hs:s.size<=9223372036854775807):
 Calls Tryz.prog 28 #[.string s] w fun e w'=>e=.returned (.bool (isW s.data.toList))/\w'=w:=by
 have HL:=zA (data_len s);go_enter Tryz.func28,Tryz.ntmps28;go_wp2;go_loopw [3] (fun c wr=>∃i:Nat,i<=s.size/\c=.int .i64 i/\(s.data.toList.take i).all mayB=true/\wr=w) (fun c _=>s.size-(intOf c).toNat)
 case atStart=>exact⟨0,zS _,rfl,rfl,rfl⟩
 case round=>
  obtain⟨i,hi,rfl,hall,rfl⟩:=hrel;have HA:=zA hall;clear hall;by_cases hlt:i<s.size
  . have hltI:(i:Int)<(s.size:Int):=by omega
    obtain⟨x,hx⟩:∃x:UInt8,s[i]'hlt=x:=⟨_,rfl⟩
    have HX:=zA (by rw[data_at s i hlt,hx]:s.data.toList[i]?=some x);have hxb:=UInt8.toNat_lt x;obtain⟨n,hn⟩:∃n,x.toNat=n:=⟨_,rfl⟩
    have HN:Hid (∀m,mayN n=m->mayB x=m):=zA (fun m hm=>by rw[mayB,hn];exact hm);rw[hn]at hxb;rcases byte_cases n with h|h|h|h|h|h|h|h
    . have e1:¬(n:Int)=45:=by omega
      have e2:¬(n:Int)=58:=by omega
      have e3:((n:Int)!=45)=true:=by rw[bne_iff_ne];exact e1
      have e4:((n:Int)!=58)=true:=by rw[bne_iff_ne];exact e2
      have HM:=zA (HN.out _ (mayN_no (by omega)));go_wp2;go_ret;exact⟨by rw[all_not HX.out HM.out];rfl,rfl⟩
    . subst h;have HM:=zA (HN.out _ (mayN_yes (by omega)));go_wp2;go_roundw
      case rel=>exact⟨i+1,by omega,by go_num,all_take_succ HX.out HA.out HM.out,by trivial⟩
      case measure=>simp[intOf];omega
    . have e1:¬(n:Int)=45:=by omega
      have e2:¬(n:Int)=58:=by omega
      have e3:((n:Int)!=45)=true:=by rw[bne_iff_ne];exact e1
      have e4:((n:Int)!=58)=true:=by rw[bne_iff_ne];exact e2
      have HM:=zA (HN.out _ (mayN_no (by omega)));go_wp2;go_ret;exact⟨by rw[all_not HX.out HM.out];rfl,rfl⟩
    . have f1:¬ 57<(n:Int):=by omega
      have HM:=zA (HN.out _ (mayN_yes (by omega)));go_wp2;go_roundw
      case rel=>exact⟨i+1,by omega,by go_num,all_take_succ HX.out HA.out HM.out,by trivial⟩
      case measure=>simp[intOf];omega
    . subst h;have HM:=zA (HN.out _ (mayN_yes (by omega)));go_wp2;go_roundw
      case rel=>exact⟨i+1,by omega,by go_num,all_take_succ HX.out HA.out HM.out,by trivial⟩
      case measure=>simp[intOf];omega
    . have e1:¬(n:Int)=45:=by omega
      have e2:¬(n:Int)=58:=by omega
      have e3:((n:Int)!=45)=true:=by rw[bne_iff_ne];exact e1
      have e4:((n:Int)!=58)=true:=by rw[bne_iff_ne];exact e2
      have f1:57<(n:Int):=by omega
      have HM:=zA (HN.out _ (mayN_no (by omega)));go_wp2;go_ret;exact⟨by rw[all_not HX.out HM.out];rfl,rfl⟩
    . have f1:¬ 122<(n:Int):=by omega
      have HM:=zA (HN.out _ (mayN_yes (by omega)));go_wp2;go_roundw
      case rel=>exact⟨i+1,by omega,by go_num,all_take_succ HX.out HA.out HM.out,by trivial⟩
      case measure=>simp[intOf];omega
    . have e1:¬(n:Int)=45:=by omega
      have e2:¬(n:Int)=58:=by omega
      have e3:((n:Int)!=45)=true:=by rw[bne_iff_ne];exact e1
      have e4:((n:Int)!=58)=true:=by rw[bne_iff_ne];exact e2
      have f1:57<(n:Int):=by omega
      have f2:122<(n:Int):=by omega
      have HM:=zA (HN.out _ (mayN_no (by omega)));go_wp2;go_ret;exact⟨by rw[all_not HX.out HM.out];rfl,rfl⟩
  . obtain rfl:i=s.size:=by omega
    have hA:=HA.out;rw[zK (by rw[HL.out];exact zD _)]at hA;by_cases h1:1<=s.size
    . by_cases h2:s.size<=16
      . have h1I:1<=(s.size:Int):=by omega
        have h2I:(s.size:Int)<=16:=by omega
        have HW:Hid (isW s.data.toList=true):=zA (by simp only[isW,HL.out,hA];simp;omega);clear hA;go_wp2;go_ret;exact⟨by rw[HW.out];rfl,rfl⟩
      . have HW:Hid (isW s.data.toList=false):=zA (by simp[isW,HL.out];omega);have h1I:1<=(s.size:Int):=by omega
        have h2I:¬(s.size:Int)<=16:=by omega
        clear hA;go_wp2;go_ret;exact⟨by rw[HW.out];rfl,rfl⟩
    . have h1I:¬ 1<=(s.size:Int):=by omega
      have HW:Hid (isW s.data.toList=false):=zA (by simp[isW,HL.out];omega);clear hA;go_wp2;go_ret;exact⟨by rw[HW.out];rfl,rfl⟩
theorem leaves_kid{k:Int}{wd:List UInt8}{l:List Pt}{x:Pt}(h1:k≠1)(h:x∈l):leaves x<=leaves ⟨k,wd,l⟩:=by
 rw[leaves_mk,if_neg h1];exact sum_ge h
theorem foldl_max_ge:∀(l:List Nat) (m:Nat),m<=l.foldl max m
 |[],_=>zD _
 |x::l,m=>zQ (Nat.le_max_left m x) (foldl_max_ge l (max m x))
theorem foldl_max_mem:∀(l:List Nat) (m x:Nat),x∈l->x<=l.foldl max m
 |y::l,m,x,h=>by
  rw[yN];rcases zX.1 h with rfl|h
  . exact zQ (Nat.le_max_right m x) (foldl_max_ge l _)
  . exact foldl_max_mem l _ x h
theorem high_kid{k:Int}{wd:List UInt8}{l:List Pt}{x:Pt}(h:x∈l):high x+1<=high ⟨k,wd,l⟩:=by
 rw[high_mk];have:=foldl_max_mem (l.map high) 0 (high x) (zU h);omega
theorem max_take{l:List Vt}{i:Nat}{x:Vt}(h:l[i]?=some x):(((l.map Vt.pt).take (i+1)).map high).foldl max 0=max ((((l.map Vt.pt).take i).map high).foldl max 0) (high x.pt):=by
 rw[sum_take h,List.foldl_append];rfl
theorem all_shape{d:Nat}{l:List Vt}{i:Nat}{x:Vt}(h:l[i]?=some x)(ha:∀y∈l.take i,shapedP d y.pt=true)(hm:shapedP d x.pt=true):∀y∈l.take (i+1),shapedP d y.pt=true:=by
 intro y hy;rw[zT,h]at hy;rcases zN.1 hy with hy|hy
 . exact ha y hy
 . simp at hy;subst hy;exact hm
theorem isQR_any(s:List UInt8)(w:World)(h:s.length<=9223372036854775807):Calls Tryz.prog 28 #[.string ⟨s.toArray⟩] w fun e w'=>e=.returned (.bool (isW s))/\w'=w:=by
 have:=rIs_any ⟨s.toArray⟩ w (by rw[size_list];omega);simpa using this
set_option maxHeartbeats 4000000 in
theorem rPlaces_any{S:Nat->Prop}:∀(t:Vt) (w:World),leaves t.pt<=4611686018427387903->VOk S w t->
 Calls Tryz.prog 6 #[encN t] w fun e w'=>e=.returned (.int .i64 (leaves t.pt:Int))/\Below w.heap.size w w':=by
 refine Vt.ind (fun k wd v l ih=>?_);intro w hlv hok;obtain⟨h1,h2,h3,h4⟩:=vok_mk.1 hok;obtain⟨ao,cap,hv⟩:=h1.slice;subst hv;have H1:=zA h1;have H4:=zA h4;have IH:=zA ih;rw[Vt.pt_mk]at hlv ⊢;obtain⟨n,hn⟩:∃n,n=l.length:=⟨_,rfl⟩
 rw[<- hn]at h3 H1 ⊢;have HN:=zA hn;have HLV:=zA hlv;obtain⟨ans,hans⟩:∃a,a=leaves ⟨k,wd,l.map Vt.pt⟩:=⟨_,rfl⟩
 rw[<- hans]at hlv ⊢;have HA:=zA hans;clear h1 h4 ih hok hn hans;by_cases hk:k=1
 . subst hk;have HR:Hid (ans=1):=zA (by rw[HA.out,leaves_mk];rfl);have HB:Hid (∀a:Obj,Below w.heap.size w (w.alloc a)):=zA (fun a=>(zF _ _).alloc (zD _) _);go_enter Tryz.func6,Tryz.ntmps6;go_wp2;go_ret;exact⟨by rw[HR.out];rfl,HB.out _⟩
 . obtain⟨k1,k2⟩:=not_both hk;have HR:Hid (ans=((l.map Vt.pt).map leaves).sum):=zA (by rw[HA.out,leaves_mk,if_neg hk]);have HK:=zA hk;obtain⟨o,ho⟩:∃o,o=Obj.cells #[.int .i64 k,.string ⟨wd.toArray⟩,.slice ao n cap] 25:=⟨_,rfl⟩
   have HO:=zA ho;have HC:Hid (∀wr,Below (w.alloc o).heap.size (w.alloc o) wr->wr.cell? ⟨w.heap.size,2,none⟩=some (.slice ao n cap)):=zA (fun wr hb=>by
    have h:=box_keptQ hb;rw[HO.out]at h;simp[World.cell?,h])
   clear hk ho;go_enter Tryz.func6,Tryz.ntmps6;go_wp2_with fail;go_loopw [3,4] (fun s c wr=>∃i z:Nat,i<=n/\c=.int .i64 i/\s=.int .i64 z/\z<=4611686018427387903/\z=(((l.map Vt.pt).take i).map leaves).sum/\Below (w.alloc o).heap.size (w.alloc o) wr) (fun _ c _=>n-(intOf c).toNat)
   case atStart=>exact⟨0,0,zS _,rfl,rfl,by omega,by simp,by rw[HO.out];exact zF _ _⟩
   case round=>
    obtain⟨i,z,hi,rfl,rfl,hz,hzs,hbq⟩:=hrel;have HZ:=zA hzs;have HBQ:=zA hbq;have c2:=HC.out _ hbq;clear hzs hbq;by_cases hlt:i<n
    . have hltI:(i:Int)<(n:Int):=by omega
      obtain⟨x,hx⟩:∃x,l[i]?=some x:=⟨_,zB (by rw[<- HN.out];exact hlt)⟩
      obtain⟨g,off,rfl,_,_,hcell⟩:=(H1.out.below (below_boxQ HBQ.out)).get hx;obtain⟨q0,q1,q2⟩:=getN hcell;have hxm:=zC hx;have HX:=zA hx;have HC2:=zA (IH.out x hxm wr (zQ (leaves_kid HK.out (zU hxm)) HLV.out) ((H4.out x hxm).below (below_boxQ HBQ.out)));obtain⟨p,hp⟩:∃p,p=leaves x.pt:=⟨_,rfl⟩
      rw[<- hp]at HC2;have HP:=zA hp;have HS2:Hid (z+p=(((l.map Vt.pt).take (i+1)).map leaves).sum):=zA (by rw[sum_take HX.out,List.sum_append,<- HZ.out,<- HP.out];simp);have hzp:z+p<=4611686018427387903:=by
       have:=sum_part (f:=leaves) (l.map Vt.pt) (i+1);rw[<- HS2.out,<- HR.out]at this;omega
      obtain⟨xa,xc,hxv⟩:=(H4.out x hxm).parts.1.slice;obtain⟨xn,hxn⟩:∃n,n=x.kids.length:=⟨_,rfl⟩
      rw[<- hxn]at hxv;obtain⟨xk,xw,xv,xl⟩:=x;dsimp only at q0 q1 q2 hxv;subst hxv;clear hxn hx hcell hp hxm;go_wp2_with fail;refine HC2.out.mono ?_;rintro e w2 ⟨rfl,hb2⟩;have HB2:=zA (HBQ.out.trans (hb2.mono HBQ.out.size));clear hb2;go_wp2;go_roundw
      case rel=>exact⟨i+1,z+p,by omega,by go_num,by go_num,hzp,HS2.out,HB2.out⟩
      case measure=>simp[intOf];omega
    . have hin:i=n:=by omega
      have hltI:¬(i:Int)<(n:Int):=by omega
      have HE:Hid (ans=z):=zA (by
       rw[HR.out];have:=HZ.out;rw[zK (by rw[zH,<- HN.out];omega)]at this;exact this.symm)
      clear hin;go_wp2;go_ret;exact⟨by rw[HE.out];rfl,below_boxQ HBQ.out⟩
set_option maxHeartbeats 4000000 in
theorem rDeep_any{S:Nat->Prop}:∀(t:Vt) (w:World),high t.pt<=4611686018427387903->VOk S w t->
 Calls Tryz.prog 7 #[encN t] w fun e w'=>e=.returned (.int .i64 (high t.pt:Int))/\Below w.heap.size w w':=by
 refine Vt.ind (fun k wd v l ih=>?_);intro w hlv hok;obtain⟨h1,h2,h3,h4⟩:=vok_mk.1 hok;obtain⟨ao,cap,hv⟩:=h1.slice;subst hv;have H1:=zA h1;have H4:=zA h4;have IH:=zA ih;rw[Vt.pt_mk]at hlv ⊢;obtain⟨n,hn⟩:∃n,n=l.length:=⟨_,rfl⟩
 rw[<- hn]at h3 H1 ⊢;have HN:=zA hn;have HLV:=zA hlv;obtain⟨ans,hans⟩:∃a,a=high ⟨k,wd,l.map Vt.pt⟩:=⟨_,rfl⟩
 rw[<- hans]at hlv ⊢;have HR:Hid (ans=((l.map Vt.pt).map high).foldl max 0+1):=zA (by rw[hans,high_mk]);obtain⟨o,ho⟩:∃o,o=Obj.cells #[.int .i64 k,.string ⟨wd.toArray⟩,.slice ao n cap] 25:=⟨_,rfl⟩
 have HO:=zA ho;have HC:Hid (∀wr,Below (w.alloc o).heap.size (w.alloc o) wr->wr.cell? ⟨w.heap.size,2,none⟩=some (.slice ao n cap)):=zA (fun wr hb=>by
  have h:=box_keptQ hb;rw[HO.out]at h;simp[World.cell?,h])
 clear h1 h4 ih hok hn hans ho;go_enter Tryz.func7,Tryz.ntmps7;go_wp2_with fail;go_loopw [3,4] (fun s c wr=>∃i z:Nat,i<=n/\c=.int .i64 i/\s=.int .i64 z/\z<=4611686018427387903/\z=(((l.map Vt.pt).take i).map high).foldl max 0/\Below (w.alloc o).heap.size (w.alloc o) wr) (fun _ c _=>n-(intOf c).toNat)
 case atStart=>exact⟨0,0,zS _,rfl,rfl,by omega,by simp,by rw[HO.out];exact zF _ _⟩
 case round=>
  obtain⟨i,z,hi,rfl,rfl,hz,hzs,hbq⟩:=hrel;have HZ:=zA hzs;have HBQ:=zA hbq;have c2:=HC.out _ hbq;clear hzs hbq;by_cases hlt:i<n
  . have hltI:(i:Int)<(n:Int):=by omega
    obtain⟨x,hx⟩:∃x,l[i]?=some x:=⟨_,zB (by rw[<- HN.out];exact hlt)⟩
    obtain⟨g,off,rfl,_,_,hcell⟩:=(H1.out.below (below_boxQ HBQ.out)).get hx;obtain⟨q0,q1,q2⟩:=getN hcell;have hxm:=zC hx;have HX:=zA hx;have hkid:=high_kid (k:=k) (wd:=wd) (zU (f:=Vt.pt) hxm);have HC2:=zA (IH.out x hxm wr (by have:=HLV.out;omega) ((H4.out x hxm).below (below_boxQ HBQ.out)));obtain⟨p,hp⟩:∃p,p=high x.pt:=⟨_,rfl⟩
    rw[<- hp]at HC2 hkid;have HP:=zA hp;have hpb:p<=4611686018427387903:=by have:=HLV.out;omega
    have HS2:Hid (max z p=(((l.map Vt.pt).take (i+1)).map high).foldl max 0):=zA (by rw[max_take HX.out,<- HZ.out,<- HP.out]);obtain⟨xa,xc,hxv⟩:=(H4.out x hxm).parts.1.slice;obtain⟨xn,hxn⟩:∃n,n=x.kids.length:=⟨_,rfl⟩
    rw[<- hxn]at hxv;obtain⟨xk,xw,xv,xl⟩:=x;dsimp only at q0 q1 q2 hxv;subst hxv;clear hxn hx hcell hp hxm hkid;go_wp2_with fail;refine HC2.out.mono ?_;rintro e w2 ⟨rfl,hb2⟩;have HB2:=zA (HBQ.out.trans (hb2.mono HBQ.out.size));clear hb2;go_wp2;go_roundw
    case rel=>exact⟨i+1,max z p,by omega,by go_num,by go_num,by omega,HS2.out,HB2.out⟩
    case measure=>simp[intOf];omega
  . have hin:i=n:=by omega
    have hltI:¬(i:Int)<(n:Int):=by omega
    have HE:Hid (ans=z+1):=zA (by
     rw[HR.out];have:=HZ.out;rw[zK (by rw[zH,<- HN.out];omega)]at this;rw[<- this])
    clear hin;go_wp2;go_ret;exact⟨by rw[HE.out];rfl,below_boxQ HBQ.out⟩
set_option maxHeartbeats 4000000 in
theorem rCount_any{S:Nat->Prop}:∀(t:Vt) (d:Int) (w:World),VOk S w t->
 Calls Tryz.prog 27 #[encN t,.int .i64 d] w fun e w'=>(∃z:Int,e=.returned (.int .i64 z))/\Below w.heap.size w w':=by
 refine Vt.ind (fun k wd v l ih=>?_);intro d w hok;obtain⟨h1,h2,h3,h4⟩:=vok_mk.1 hok;obtain⟨ao,cap,hv⟩:=h1.slice;subst hv;have H1:=zA h1;have H4:=zA h4;have IH:=zA ih;obtain⟨n,hn⟩:∃n,n=l.length:=⟨_,rfl⟩
 rw[<- hn]at h3 H1 ⊢;have HN:=zA hn;obtain⟨o,ho⟩:∃o,o=Obj.cells #[.int .i64 k,.string ⟨wd.toArray⟩,.slice ao n cap] 25:=⟨_,rfl⟩
 have HO:=zA ho;have HC:Hid (∀wr,Below (w.alloc o).heap.size (w.alloc o) wr->wr.cell? ⟨w.heap.size,2,none⟩=some (.slice ao n cap)):=zA (fun wr hb=>by
  have h:=box_keptQ hb;rw[HO.out]at h;simp[World.cell?,h])
 clear h1 h4 ih hok hn ho;by_cases hd:d=0
 . subst hd;have HB:Hid (∀a:Obj,Below w.heap.size w (w.alloc a)):=zA (fun a=>(zF _ _).alloc (zD _) _);go_enter Tryz.func27,Tryz.ntmps27;go_wp2;go_ret;exact⟨⟨_,rfl⟩,HB.out _⟩
 . obtain⟨d1,d2⟩:=not_both hd;clear hd;go_enter Tryz.func27,Tryz.ntmps27;go_wp2_with fail;go_loopw [5,6] (fun s c wr=>∃(i:Nat) (z:Int),i<=n/\c=.int .i64 i/\s=.int .i64 z/\Below (w.alloc o).heap.size (w.alloc o) wr) (fun _ c _=>n-(intOf c).toNat)
   case atStart=>exact⟨0,1,zS _,rfl,rfl,by rw[HO.out];exact zF _ _⟩
   case round=>
    obtain⟨i,z,hi,rfl,rfl,hbq⟩:=hrel;have HBQ:=zA hbq;have c2:=HC.out _ hbq;clear hbq;by_cases hlt:i<n
    . have hltI:(i:Int)<(n:Int):=by omega
      by_cases hz:z<1000
      . obtain⟨x,hx⟩:∃x,l[i]?=some x:=⟨_,zB (by rw[<- HN.out];exact hlt)⟩
        obtain⟨g,off,rfl,_,_,hcell⟩:=(H1.out.below (below_boxQ HBQ.out)).get hx;obtain⟨q0,q1,q2⟩:=getN hcell;have hxm:=zC hx;have HC2:=zA (fun d=>IH.out x hxm d wr ((H4.out x hxm).below (below_boxQ HBQ.out)));obtain⟨xa,xc,hxv⟩:=(H4.out x hxm).parts.1.slice;obtain⟨xn,hxn⟩:∃n,n=x.kids.length:=⟨_,rfl⟩
        rw[<- hxn]at hxv;obtain⟨xk,xw,xv,xl⟩:=x;dsimp only at q0 q1 q2 hxv;subst hxv;clear hxn hx hcell hxm;go_wp2_with fail;refine(HC2.out _).mono ?_;rintro e w2 ⟨⟨zz,rfl⟩,hb2⟩;have HB2:=zA (HBQ.out.trans (hb2.mono HBQ.out.size));clear hb2;go_wp2;go_roundw
        case rel=>exact⟨i+1,_,by omega,by go_num,rfl,HB2.out⟩
        case measure=>simp[intOf];omega
      . go_wp2;go_ret;exact⟨⟨_,rfl⟩,below_boxQ HBQ.out⟩
    . have hltI:¬(i:Int)<(n:Int):=by omega
      go_wp2;go_ret;exact⟨⟨_,rfl⟩,below_boxQ HBQ.out⟩
def Lim(d:Nat)(p:Prt):Prop:=p.first.length<=p.words.length/\p.last.length<=p.words.length/\p.pairs.length<=d*(p.words.length*p.words.length)
theorem Lim.more{d:Nat}{p:Prt}(h:Lim d p):Lim (d+1) p:=⟨h.1,h.2.1,by have:=h.2.2;rw[Nat.succ_mul];omega⟩
theorem foldl_take{α β:Type}{f:β->α->β}{b:β}{L:List α}{i:Nat}{x:α}(hx:L[i]?=some x):(L.take (i+1)).foldl f b=f ((L.take i).foldl f b) x:=by
 rw[zT,hx,List.foldl_append];rfl
def FlatQ(na nv:Nat)(e:Ending):Prop:=∃b:Bool,e=.returned (.bool b)/\(b=true->na<=21/\nv<=40)
set_option maxHeartbeats 4000000 in
theorem rFlatQ_any{w:World}{q:Qm}(h:QOk (fun _=>True) w q):
 Calls Tryz.prog 12 #[.agg #[.int .i64 0,q.vv,q.av,.slice none 0 0]] w fun e w'=>FlatQ q.atoms.length q.vars.length e/\Below w.heap.size w w':=by
 have CC:Hid (∀a∈q.atoms,∀u,Below w.heap.size w u->Calls Tryz.prog 27 #[encN a.2.1,.int .i64 40] u fun e w'=>(∃z:Int,e=.returned (.int .i64 z))/\Below u.heap.size u w'):=zA (fun a ha u hu=>rCount_any a.2.1 40 u ((h.ok a ha).below hu));have HA:=zA h.ats;have HOK:=zA h.ok;have hal:=h.al;have hvl:=h.vl;obtain⟨va,vc,hvv⟩:=h.vs.slice;obtain⟨aa,ac,hav⟩:=h.ats.slice;obtain⟨na,hna⟩:∃n,n=q.atoms.length:=⟨_,rfl⟩
 obtain⟨nv,hnv⟩:∃n,n=q.vars.length:=⟨_,rfl⟩
 rw[<- hna]at hav hal;rw[<- hnv]at hvv hvl;rw[hav]at HA;rw[hvv,hav,<- hna,<- hnv];have HNA:=zA hna;clear h hvv hav hna hnv;obtain⟨o,ho⟩:∃o,o=Obj.cells #[.int .i64 0,.slice va nv vc,.slice aa na ac,.slice none 0 0] 50:=⟨_,rfl⟩
 have HO:=zA ho;have HC:Hid (∀wr,Below (w.alloc o).heap.size (w.alloc o) wr->wr.cell? ⟨w.heap.size,1,none⟩=some (.slice va nv vc)/\wr.cell? ⟨w.heap.size,2,none⟩=some (.slice aa na ac)/\wr.cell? ⟨w.heap.size,3,none⟩=some (.slice none 0 0)):=zA (fun wr hb=>by
  have h:=box_keptQ hb;rw[HO.out]at h;simp[World.cell?,h])
 have HB0:Hid (Below (w.alloc o).heap.size (w.alloc o) (w.alloc (.cells #[.int .i64 0,.slice va nv vc,.slice aa na ac,.slice none 0 0] 50))):=zA (by rw[HO.out];exact zF _ _);clear ho;go_enter Tryz.func12,Tryz.ntmps12;go_wp2_with fail;go_loopw [3] (fun c wr=>∃i:Nat,i<=na/\i<=21/\c=.int .i64 i/\Below (w.alloc o).heap.size (w.alloc o) wr) (fun c _=>na-(intOf c).toNat)
 case atStart=>exact⟨0,zS _,by omega,rfl,HB0.out⟩
 case round=>
  obtain⟨i,hi,hi21,rfl,hbq⟩:=hrel;obtain⟨wx,hwx⟩:∃wx,wx=wr:=⟨_,rfl⟩
  subst hwx;have HBQ:=zA hbq;clear hbq;obtain⟨c1,c2,c3⟩:=HC.out _ HBQ.out;by_cases hlt:i<na
  . have hltI:(i:Int)<(na:Int):=by omega
    by_cases h20:(20:Int)<(i:Int)
    . have h20b:decide ((20:Int)<(i:Int))=true:=yC h20;go_wp2;go_ret;exact⟨⟨false,rfl,by simp⟩,below_boxQ HBQ.out⟩
    . have h20b:decide ((20:Int)<(i:Int))=false:=decide_eq_false h20;obtain⟨a,ha⟩:∃x,q.atoms[i]?=some x:=⟨_,zB (by rw[<- HNA.out];exact hlt)⟩
      have ham:=zC ha;obtain⟨g,off,haa,_,hgl,hcell⟩:=(HA.out.below (below_boxQ HBQ.out)).get ha;subst haa;obtain⟨q0,q1,q2,q3,q4,q5,q6⟩:=getA hcell;have C3:=zA (CC.out a ham);have HAOK:=zA (HOK.out a ham);obtain⟨⟨b1,t1⟩,⟨k,wd,v,l⟩,⟨b2,t2⟩⟩:=a;obtain⟨ka,kc,hkv⟩:=HAOK.out.parts.1.slice;dsimp only at hkv q0 q1 q2 q3 q4 q5 q6;subst hkv;obtain⟨kn,hkn⟩:∃n,n=l.length:=⟨_,rfl⟩
      rw[<- hkn]at C3 q4;clear hcell ha ham hkn HAOK;go_wp2_with fail;refine(C3.out _ (below_boxQ HBQ.out)).mono ?_;rintro e w2 ⟨⟨z,rfl⟩,hb2⟩;have HB2:=zA (HBQ.out.trans (hb2.mono HBQ.out.size));clear hb2 c1 c2 c3 q0 q1 q2 q3 q4 q5 q6;by_cases hz:(400:Int)<z
      . have hd:decide ((400:Int)<z)=true:=yC hz;go_wp2;go_ret;exact⟨⟨false,rfl,by simp⟩,below_boxQ HB2.out⟩
      . have hd:decide ((400:Int)<z)=false:=decide_eq_false hz;go_wp2;go_roundw
        case rel=>exact⟨i+1,by omega,by omega,by go_num,HB2.out⟩
        case measure=>simp[intOf];omega
  . have hltI:¬(i:Int)<(na:Int):=by omega
    by_cases h40:(nv:Int)<=40
    . have h40b:decide ((nv:Int)<=40)=true:=yC h40;have HY:Hid (na<=21/\nv<=40):=zA (by omega);go_wp2;go_ret;exact⟨⟨true,rfl,fun _=>HY.out⟩,below_boxQ HBQ.out⟩
    . have h40b:decide ((nv:Int)<=40)=false:=decide_eq_false h40;go_wp2;go_ret;exact⟨⟨false,rfl,by simp⟩,below_boxQ HBQ.out⟩
end Go.Proofs.YtdalcipmpelifaaGreatDoor
