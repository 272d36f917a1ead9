/- VAre, QRTree. -/
import Derived.Test.YtkbgmcmcpbegjabGreatDoorMG5
set_option maxRecDepth 100000
namespace Go.Proofs.YtkbgmcmcpbegjabGreatDoor
open Go.RowKit
set_option maxHeartbeats 4000000 in
theorem rIs_any(s:ByteArray)(w:World)(hs:s.size<=9223372036854775807):
 Calls Tryz.prog 47 #[.string s] w fun e w'=>e=.returned (.bool (isW s.data.toList))/\w'=w:=by
 have HL:=zA (data_len s);go_enter Tryz.func47,Tryz.ntmps47;go_wp2;go_loopw [3] (fun c wr=>∃i:Nat,i<=s.size/\c=.int .i64 i/\(s.data.toList.take i).all mayB=true/\wr=w) (fun c _=>s.size-(intOf c).toNat)
 case atStart=>exact⟨0,zR _,rfl,rfl,rfl⟩
 case round=>
  obtain⟨i,hi,rfl,hall,rfl⟩:=hrel;have HA:=zA hall;clear hall;by_cases hlt:i<s.size
  . have hltI:(i:Int)<(s.size:Int):=by omega
    obtain⟨x,hx⟩:∃x:UInt8,s[i]'hlt=x:=⟨_,rfl⟩
    have HX:=zA (by rw[data_at s i hlt,hx]:s.data.toList[i]?=some x);have hxb:=UInt8.toNat_lt x;obtain⟨n,hn⟩:∃n,x.toNat=n:=⟨_,rfl⟩
    have HN:Hid (∀m,mayN n=m->mayB x=m):=zA (fun m hm=>by rw[mayB,hn];exact hm);rw[hn]at hxb;rcases byte_cases n with h|h|h|h|h|h|h|h
    . have e1:¬(n:Int)=45:=by omega
      have e2:¬(n:Int)=58:=by omega
      have e3:((n:Int)!=45)=true:=by rw[bne_iff_ne];exact e1
      have e4:((n:Int)!=58)=true:=by rw[bne_iff_ne];exact e2
      have HM:=zA (HN.out _ (mayN_no (by omega)));go_wp2;go_ret;exact⟨by rw[all_not HX.out HM.out];rfl,rfl⟩
    . subst h;have HM:=zA (HN.out _ (mayN_yes (by omega)));go_wp2;go_roundw
      case rel=>exact⟨i+1,by omega,by go_num,all_take_succ HX.out HA.out HM.out,by trivial⟩
      case measure=>simp[intOf];omega
    . have e1:¬(n:Int)=45:=by omega
      have e2:¬(n:Int)=58:=by omega
      have e3:((n:Int)!=45)=true:=by rw[bne_iff_ne];exact e1
      have e4:((n:Int)!=58)=true:=by rw[bne_iff_ne];exact e2
      have HM:=zA (HN.out _ (mayN_no (by omega)));go_wp2;go_ret;exact⟨by rw[all_not HX.out HM.out];rfl,rfl⟩
    . have f1:¬ 57<(n:Int):=by omega
      have HM:=zA (HN.out _ (mayN_yes (by omega)));go_wp2;go_roundw
      case rel=>exact⟨i+1,by omega,by go_num,all_take_succ HX.out HA.out HM.out,by trivial⟩
      case measure=>simp[intOf];omega
    . subst h;have HM:=zA (HN.out _ (mayN_yes (by omega)));go_wp2;go_roundw
      case rel=>exact⟨i+1,by omega,by go_num,all_take_succ HX.out HA.out HM.out,by trivial⟩
      case measure=>simp[intOf];omega
    . have e1:¬(n:Int)=45:=by omega
      have e2:¬(n:Int)=58:=by omega
      have e3:((n:Int)!=45)=true:=by rw[bne_iff_ne];exact e1
      have e4:((n:Int)!=58)=true:=by rw[bne_iff_ne];exact e2
      have f1:57<(n:Int):=by omega
      have HM:=zA (HN.out _ (mayN_no (by omega)));go_wp2;go_ret;exact⟨by rw[all_not HX.out HM.out];rfl,rfl⟩
    . have f1:¬ 122<(n:Int):=by omega
      have HM:=zA (HN.out _ (mayN_yes (by omega)));go_wp2;go_roundw
      case rel=>exact⟨i+1,by omega,by go_num,all_take_succ HX.out HA.out HM.out,by trivial⟩
      case measure=>simp[intOf];omega
    . have e1:¬(n:Int)=45:=by omega
      have e2:¬(n:Int)=58:=by omega
      have e3:((n:Int)!=45)=true:=by rw[bne_iff_ne];exact e1
      have e4:((n:Int)!=58)=true:=by rw[bne_iff_ne];exact e2
      have f1:57<(n:Int):=by omega
      have f2:122<(n:Int):=by omega
      have HM:=zA (HN.out _ (mayN_no (by omega)));go_wp2;go_ret;exact⟨by rw[all_not HX.out HM.out];rfl,rfl⟩
  . obtain rfl:i=s.size:=by omega
    have hA:=HA.out;rw[zK (by rw[HL.out];exact zD _)]at hA;by_cases h1:1<=s.size
    . by_cases h2:s.size<=16
      . have h1I:1<=(s.size:Int):=by omega
        have h2I:(s.size:Int)<=16:=by omega
        have HW:Hid (isW s.data.toList=true):=zA (by simp only[isW,HL.out,hA];simp;omega);clear hA;go_wp2;go_ret;exact⟨by rw[HW.out];rfl,rfl⟩
      . have HW:Hid (isW s.data.toList=false):=zA (by simp[isW,HL.out];omega);have h1I:1<=(s.size:Int):=by omega
        have h2I:¬(s.size:Int)<=16:=by omega
        clear hA;go_wp2;go_ret;exact⟨by rw[HW.out];rfl,rfl⟩
    . have h1I:¬ 1<=(s.size:Int):=by omega
      have HW:Hid (isW s.data.toList=false):=zA (by simp[isW,HL.out];omega);clear hA;go_wp2;go_ret;exact⟨by rw[HW.out];rfl,rfl⟩
theorem leaves_kid{k:Int}{wd:List UInt8}{l:List Pt}{x:Pt}(h1:k≠1)(h:x∈l):leaves x<=leaves ⟨k,wd,l⟩:=by
 rw[leaves_mk,if_neg h1];exact sum_ge h
theorem foldl_max_ge:∀(l:List Nat) (m:Nat),m<=l.foldl max m
 |[],_=>zD _
 |x::l,m=>zQ (Nat.le_max_left m x) (foldl_max_ge l (max m x))
theorem foldl_max_mem:∀(l:List Nat) (m x:Nat),x∈l->x<=l.foldl max m
 |y::l,m,x,h=>by
  rw[yN];rcases zY.1 h with rfl|h
  . exact zQ (Nat.le_max_right m x) (foldl_max_ge l _)
  . exact foldl_max_mem l _ x h
theorem high_kid{k:Int}{wd:List UInt8}{l:List Pt}{x:Pt}(h:x∈l):high x+1<=high ⟨k,wd,l⟩:=by
 rw[high_mk];have:=foldl_max_mem (l.map high) 0 (high x) (zV h);omega
theorem max_take{l:List Vt}{i:Nat}{x:Vt}(h:l[i]?=some x):(((l.map Vt.pt).take (i+1)).map high).foldl max 0=max ((((l.map Vt.pt).take i).map high).foldl max 0) (high x.pt):=by
 rw[sum_take h,List.foldl_append];rfl
theorem all_shape{d:Nat}{l:List Vt}{i:Nat}{x:Vt}(h:l[i]?=some x)(ha:∀y∈l.take i,shapedP d y.pt=true)(hm:shapedP d x.pt=true):∀y∈l.take (i+1),shapedP d y.pt=true:=by
 intro y hy;rw[zU,h]at hy;rcases zM.1 hy with hy|hy
 . exact ha y hy
 . simp at hy;subst hy;exact hm
theorem isQR_any(s:List UInt8)(w:World)(h:s.length<=9223372036854775807):Calls Tryz.prog 47 #[.string ⟨s.toArray⟩] w fun e w'=>e=.returned (.bool (isW s))/\w'=w:=by
 have:=rIs_any ⟨s.toArray⟩ w (by rw[size_list];omega);simpa using this
set_option maxHeartbeats 4000000 in
theorem rPlaces_any{S:Nat->Prop}:∀(t:Vt) (w:World),leaves t.pt<=4611686018427387903->VOk S w t->
 Calls Tryz.prog 12 #[encN t] w fun e w'=>e=.returned (.int .i64 (leaves t.pt:Int))/\Below w.heap.size w w':=by
 refine Vt.ind (fun k wd v l ih=>?_);intro w hlv hok;obtain⟨h1,h2,h3,h4⟩:=vok_mk.1 hok;obtain⟨ao,cap,hv⟩:=h1.slice;subst hv;have H1:=zA h1;have H4:=zA h4;have IH:=zA ih;rw[Vt.pt_mk]at hlv ⊢;obtain⟨n,hn⟩:∃n,n=l.length:=⟨_,rfl⟩
 rw[<- hn]at h3 H1 ⊢;have HN:=zA hn;have HLV:=zA hlv;obtain⟨ans,hans⟩:∃a,a=leaves ⟨k,wd,l.map Vt.pt⟩:=⟨_,rfl⟩
 rw[<- hans]at hlv ⊢;have HA:=zA hans;clear h1 h4 ih hok hn hans;by_cases hk:k=1
 . subst hk;have HR:Hid (ans=1):=zA (by rw[HA.out,leaves_mk];rfl);have HB:Hid (∀a:Obj,Below w.heap.size w (w.alloc a)):=zA (fun a=>(zF _ _).alloc (zD _) _);go_enter Tryz.func12,Tryz.ntmps12;go_wp2;go_ret;exact⟨by rw[HR.out];rfl,HB.out _⟩
 . obtain⟨k1,k2⟩:=not_both hk;have HR:Hid (ans=((l.map Vt.pt).map leaves).sum):=zA (by rw[HA.out,leaves_mk,if_neg hk]);have HK:=zA hk;obtain⟨o,ho⟩:∃o,o=Obj.cells #[.int .i64 k,.string ⟨wd.toArray⟩,.slice ao n cap] 28:=⟨_,rfl⟩
   have HO:=zA ho;have HC:Hid (∀wr,Below (w.alloc o).heap.size (w.alloc o) wr->wr.cell? ⟨w.heap.size,2,none⟩=some (.slice ao n cap)):=zA (fun wr hb=>by
    have h:=box_keptQ hb;rw[HO.out]at h;simp[World.cell?,h])
   clear hk ho;go_enter Tryz.func12,Tryz.ntmps12;go_wp2_with fail;go_loopw [3,4] (fun s c wr=>∃i z:Nat,i<=n/\c=.int .i64 i/\s=.int .i64 z/\z<=4611686018427387903/\z=(((l.map Vt.pt).take i).map leaves).sum/\Below (w.alloc o).heap.size (w.alloc o) wr) (fun _ c _=>n-(intOf c).toNat)
   case atStart=>exact⟨0,0,zR _,rfl,rfl,by omega,by simp,by rw[HO.out];exact zF _ _⟩
   case round=>
    obtain⟨i,z,hi,rfl,rfl,hz,hzs,hbq⟩:=hrel;have HZ:=zA hzs;have HBQ:=zA hbq;have c2:=HC.out _ hbq;clear hzs hbq;by_cases hlt:i<n
    . have hltI:(i:Int)<(n:Int):=by omega
      obtain⟨x,hx⟩:∃x,l[i]?=some x:=⟨_,zB (by rw[<- HN.out];exact hlt)⟩
      obtain⟨g,off,rfl,_,_,hcell⟩:=(H1.out.below (below_boxQ HBQ.out)).get hx;obtain⟨q0,q1,q2⟩:=getN hcell;have hxm:=zC hx;have HX:=zA hx;have HC2:=zA (IH.out x hxm wr (zQ (leaves_kid HK.out (zV hxm)) HLV.out) ((H4.out x hxm).below (below_boxQ HBQ.out)));obtain⟨p,hp⟩:∃p,p=leaves x.pt:=⟨_,rfl⟩
      rw[<- hp]at HC2;have HP:=zA hp;have HS2:Hid (z+p=(((l.map Vt.pt).take (i+1)).map leaves).sum):=zA (by rw[sum_take HX.out,List.sum_append,<- HZ.out,<- HP.out];simp);have hzp:z+p<=4611686018427387903:=by
       have:=sum_part (f:=leaves) (l.map Vt.pt) (i+1);rw[<- HS2.out,<- HR.out]at this;omega
      obtain⟨xa,xc,hxv⟩:=(H4.out x hxm).parts.1.slice;obtain⟨xn,hxn⟩:∃n,n=x.kids.length:=⟨_,rfl⟩
      rw[<- hxn]at hxv;obtain⟨xk,xw,xv,xl⟩:=x;dsimp only at q0 q1 q2 hxv;subst hxv;clear hxn hx hcell hp hxm;go_wp2_with fail;refine HC2.out.mono ?_;rintro e w2 ⟨rfl,hb2⟩;have HB2:=zA (HBQ.out.trans (hb2.mono HBQ.out.size));clear hb2;go_wp2;go_roundw
      case rel=>exact⟨i+1,z+p,by omega,by go_num,by go_num,hzp,HS2.out,HB2.out⟩
      case measure=>simp[intOf];omega
    . have hin:i=n:=by omega
      have hltI:¬(i:Int)<(n:Int):=by omega
      have HE:Hid (ans=z):=zA (by
       rw[HR.out];have:=HZ.out;rw[zK (by rw[zH,<- HN.out];omega)]at this;exact this.symm)
      clear hin;go_wp2;go_ret;exact⟨by rw[HE.out];rfl,below_boxQ HBQ.out⟩
set_option maxHeartbeats 4000000 in
theorem rDeep_any{S:Nat->Prop}:∀(t:Vt) (w:World),high t.pt<=4611686018427387903->VOk S w t->
 Calls Tryz.prog 13 #[encN t] w fun e w'=>e=.returned (.int .i64 (high t.pt:Int))/\Below w.heap.size w w':=by
 refine Vt.ind (fun k wd v l ih=>?_);intro w hlv hok;obtain⟨h1,h2,h3,h4⟩:=vok_mk.1 hok;obtain⟨ao,cap,hv⟩:=h1.slice;subst hv;have H1:=zA h1;have H4:=zA h4;have IH:=zA ih;rw[Vt.pt_mk]at hlv ⊢;obtain⟨n,hn⟩:∃n,n=l.length:=⟨_,rfl⟩
 rw[<- hn]at h3 H1 ⊢;have HN:=zA hn;have HLV:=zA hlv;obtain⟨ans,hans⟩:∃a,a=high ⟨k,wd,l.map Vt.pt⟩:=⟨_,rfl⟩
 rw[<- hans]at hlv ⊢;have HR:Hid (ans=((l.map Vt.pt).map high).foldl max 0+1):=zA (by rw[hans,high_mk]);obtain⟨o,ho⟩:∃o,o=Obj.cells #[.int .i64 k,.string ⟨wd.toArray⟩,.slice ao n cap] 28:=⟨_,rfl⟩
 have HO:=zA ho;have HC:Hid (∀wr,Below (w.alloc o).heap.size (w.alloc o) wr->wr.cell? ⟨w.heap.size,2,none⟩=some (.slice ao n cap)):=zA (fun wr hb=>by
  have h:=box_keptQ hb;rw[HO.out]at h;simp[World.cell?,h])
 clear h1 h4 ih hok hn hans ho;go_enter Tryz.func13,Tryz.ntmps13;go_wp2_with fail;go_loopw [3,4] (fun s c wr=>∃i z:Nat,i<=n/\c=.int .i64 i/\s=.int .i64 z/\z<=4611686018427387903/\z=(((l.map Vt.pt).take i).map high).foldl max 0/\Below (w.alloc o).heap.size (w.alloc o) wr) (fun _ c _=>n-(intOf c).toNat)
 case atStart=>exact⟨0,0,zR _,rfl,rfl,by omega,by simp,by rw[HO.out];exact zF _ _⟩
 case round=>
  obtain⟨i,z,hi,rfl,rfl,hz,hzs,hbq⟩:=hrel;have HZ:=zA hzs;have HBQ:=zA hbq;have c2:=HC.out _ hbq;clear hzs hbq;by_cases hlt:i<n
  . have hltI:(i:Int)<(n:Int):=by omega
    obtain⟨x,hx⟩:∃x,l[i]?=some x:=⟨_,zB (by rw[<- HN.out];exact hlt)⟩
    obtain⟨g,off,rfl,_,_,hcell⟩:=(H1.out.below (below_boxQ HBQ.out)).get hx;obtain⟨q0,q1,q2⟩:=getN hcell;have hxm:=zC hx;have HX:=zA hx;have hkid:=high_kid (k:=k) (wd:=wd) (zV (f:=Vt.pt) hxm);have HC2:=zA (IH.out x hxm wr (by have:=HLV.out;omega) ((H4.out x hxm).below (below_boxQ HBQ.out)));obtain⟨p,hp⟩:∃p,p=high x.pt:=⟨_,rfl⟩
    rw[<- hp]at HC2 hkid;have HP:=zA hp;have hpb:p<=4611686018427387903:=by have:=HLV.out;omega
    have HS2:Hid (max z p=(((l.map Vt.pt).take (i+1)).map high).foldl max 0):=zA (by rw[max_take HX.out,<- HZ.out,<- HP.out]);obtain⟨xa,xc,hxv⟩:=(H4.out x hxm).parts.1.slice;obtain⟨xn,hxn⟩:∃n,n=x.kids.length:=⟨_,rfl⟩
    rw[<- hxn]at hxv;obtain⟨xk,xw,xv,xl⟩:=x;dsimp only at q0 q1 q2 hxv;subst hxv;clear hxn hx hcell hp hxm hkid;go_wp2_with fail;refine HC2.out.mono ?_;rintro e w2 ⟨rfl,hb2⟩;have HB2:=zA (HBQ.out.trans (hb2.mono HBQ.out.size));clear hb2;go_wp2;go_roundw
    case rel=>exact⟨i+1,max z p,by omega,by go_num,by go_num,by omega,HS2.out,HB2.out⟩
    case measure=>simp[intOf];omega
  . have hin:i=n:=by omega
    have hltI:¬(i:Int)<(n:Int):=by omega
    have HE:Hid (ans=z+1):=zA (by
     rw[HR.out];have:=HZ.out;rw[zK (by rw[zH,<- HN.out];omega)]at this;rw[<- this])
    clear hin;go_wp2;go_ret;exact⟨by rw[HE.out];rfl,below_boxQ HBQ.out⟩
set_option maxHeartbeats 4000000 in
theorem rCount_any{S:Nat->Prop}:∀(t:Vt) (d:Int) (w:World),VOk S w t->
 Calls Tryz.prog 46 #[encN t,.int .i64 d] w fun e w'=>(∃z:Int,e=.returned (.int .i64 z))/\Below w.heap.size w w':=by
 refine Vt.ind (fun k wd v l ih=>?_);intro d w hok;obtain⟨h1,h2,h3,h4⟩:=vok_mk.1 hok;obtain⟨ao,cap,hv⟩:=h1.slice;subst hv;have H1:=zA h1;have H4:=zA h4;have IH:=zA ih;obtain⟨n,hn⟩:∃n,n=l.length:=⟨_,rfl⟩
 rw[<- hn]at h3 H1 ⊢;have HN:=zA hn;obtain⟨o,ho⟩:∃o,o=Obj.cells #[.int .i64 k,.string ⟨wd.toArray⟩,.slice ao n cap] 28:=⟨_,rfl⟩
 have HO:=zA ho;have HC:Hid (∀wr,Below (w.alloc o).heap.size (w.alloc o) wr->wr.cell? ⟨w.heap.size,2,none⟩=some (.slice ao n cap)):=zA (fun wr hb=>by
  have h:=box_keptQ hb;rw[HO.out]at h;simp[World.cell?,h])
 clear h1 h4 ih hok hn ho;by_cases hd:d=0
 . subst hd;have HB:Hid (∀a:Obj,Below w.heap.size w (w.alloc a)):=zA (fun a=>(zF _ _).alloc (zD _) _);go_enter Tryz.func46,Tryz.ntmps46;go_wp2;go_ret;exact⟨⟨_,rfl⟩,HB.out _⟩
 . obtain⟨d1,d2⟩:=not_both hd;clear hd;go_enter Tryz.func46,Tryz.ntmps46;go_wp2_with fail;go_loopw [5,6] (fun s c wr=>∃(i:Nat) (z:Int),i<=n/\c=.int .i64 i/\s=.int .i64 z/\Below (w.alloc o).heap.size (w.alloc o) wr) (fun _ c _=>n-(intOf c).toNat)
   case atStart=>exact⟨0,1,zR _,rfl,rfl,by rw[HO.out];exact zF _ _⟩
   case round=>
    obtain⟨i,z,hi,rfl,rfl,hbq⟩:=hrel;have HBQ:=zA hbq;have c2:=HC.out _ hbq;clear hbq;by_cases hlt:i<n
    . have hltI:(i:Int)<(n:Int):=by omega
      by_cases hz:z<1000
      . obtain⟨x,hx⟩:∃x,l[i]?=some x:=⟨_,zB (by rw[<- HN.out];exact hlt)⟩
        obtain⟨g,off,rfl,_,_,hcell⟩:=(H1.out.below (below_boxQ HBQ.out)).get hx;obtain⟨q0,q1,q2⟩:=getN hcell;have hxm:=zC hx;have HC2:=zA (fun d=>IH.out x hxm d wr ((H4.out x hxm).below (below_boxQ HBQ.out)));obtain⟨xa,xc,hxv⟩:=(H4.out x hxm).parts.1.slice;obtain⟨xn,hxn⟩:∃n,n=x.kids.length:=⟨_,rfl⟩
        rw[<- hxn]at hxv;obtain⟨xk,xw,xv,xl⟩:=x;dsimp only at q0 q1 q2 hxv;subst hxv;clear hxn hx hcell hxm;go_wp2_with fail;refine(HC2.out _).mono ?_;rintro e w2 ⟨⟨zz,rfl⟩,hb2⟩;have HB2:=zA (HBQ.out.trans (hb2.mono HBQ.out.size));clear hb2;go_wp2;go_roundw
        case rel=>exact⟨i+1,_,by omega,by go_num,rfl,HB2.out⟩
        case measure=>simp[intOf];omega
      . go_wp2;go_ret;exact⟨⟨_,rfl⟩,below_boxQ HBQ.out⟩
    . have hltI:¬(i:Int)<(n:Int):=by omega
      go_wp2;go_ret;exact⟨⟨_,rfl⟩,below_boxQ HBQ.out⟩
end Go.Proofs.YtkbgmcmcpbegjabGreatDoor
