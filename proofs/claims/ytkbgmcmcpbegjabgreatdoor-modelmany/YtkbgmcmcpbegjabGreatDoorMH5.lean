/- QRTree, QShaped, AInts. -/
import Derived.Test.YtkbgmcmcpbegjabGreatDoorMH3
import Derived.Test.YtkbgmcmcpbegjabGreatDoorMH4
set_option maxRecDepth 100000
namespace Go.Proofs.YtkbgmcmcpbegjabGreatDoor
open Go.RowKit
theorem leaves_kid{k:Int}{wd:List UInt8}{l:List Pt}{x:Pt}(h1:k≠1)(h:x∈l):leaves x<=leaves ⟨k,wd,l⟩:=by
 rw[leaves_mk,if_neg h1];exact sum_ge h
theorem foldl_max_ge:∀(l:List Nat) (m:Nat),m<=l.foldl max m
 |[],_=>zD _
 |x::l,m=>zQ (Nat.le_max_left m x) (foldl_max_ge l (max m x))
theorem foldl_max_mem:∀(l:List Nat) (m x:Nat),x∈l->x<=l.foldl max m
 |y::l,m,x,h=>by
  rw[yN];rcases zY.1 h with rfl|h
  . exact zQ (Nat.le_max_right m x) (foldl_max_ge l _)
  . exact foldl_max_mem l _ x h
theorem high_kid{k:Int}{wd:List UInt8}{l:List Pt}{x:Pt}(h:x∈l):high x+1<=high ⟨k,wd,l⟩:=by
 rw[high_mk];have:=foldl_max_mem (l.map high) 0 (high x) (zV h);omega
theorem max_take{l:List Vt}{i:Nat}{x:Vt}(h:l[i]?=some x):(((l.map Vt.pt).take (i+1)).map high).foldl max 0=max ((((l.map Vt.pt).take i).map high).foldl max 0) (high x.pt):=by
 rw[sum_take h,List.foldl_append];rfl
theorem all_shape{d:Nat}{l:List Vt}{i:Nat}{x:Vt}(h:l[i]?=some x)(ha:∀y∈l.take i,shapedP d y.pt=true)(hm:shapedP d x.pt=true):∀y∈l.take (i+1),shapedP d y.pt=true:=by
 intro y hy;rw[zU,h]at hy;rcases zM.1 hy with hy|hy
 . exact ha y hy
 . simp at hy;subst hy;exact hm
theorem isQR_any(s:List UInt8)(w:World)(h:s.length<=9223372036854775807):Calls Tryz.prog 47 #[.string ⟨s.toArray⟩] w fun e w'=>e=.returned (.bool (isW s))/\w'=w:=by
 have:=rIs_any ⟨s.toArray⟩ w (by rw[size_list];omega);simpa using this
set_option maxHeartbeats 4000000 in
theorem rPlaces_any{S:Nat->Prop}:∀(t:Vt) (w:World),leaves t.pt<=4611686018427387903->VOk S w t->
 Calls Tryz.prog 12 #[encN t] w fun e w'=>e=.returned (.int .i64 (leaves t.pt:Int))/\Below w.heap.size w w':=by
 refine Vt.ind (fun k wd v l ih=>?_);intro w hlv hok;obtain⟨h1,h2,h3,h4⟩:=vok_mk.1 hok;obtain⟨ao,cap,hv⟩:=h1.slice;subst hv;have H1:=zA h1;have H4:=zA h4;have IH:=zA ih;rw[Vt.pt_mk]at hlv ⊢;obtain⟨n,hn⟩:∃n,n=l.length:=⟨_,rfl⟩
 rw[<- hn]at h3 H1 ⊢;have HN:=zA hn;have HLV:=zA hlv;obtain⟨ans,hans⟩:∃a,a=leaves ⟨k,wd,l.map Vt.pt⟩:=⟨_,rfl⟩
 rw[<- hans]at hlv ⊢;have HA:=zA hans;clear h1 h4 ih hok hn hans;by_cases hk:k=1
 . subst hk;have HR:Hid (ans=1):=zA (by rw[HA.out,leaves_mk];rfl);have HB:Hid (∀a:Obj,Below w.heap.size w (w.alloc a)):=zA (fun a=>(zF _ _).alloc (zD _) _);go_enter Tryz.func12,Tryz.ntmps12;go_wp2;go_ret;exact⟨by rw[HR.out];rfl,HB.out _⟩
 . obtain⟨k1,k2⟩:=not_both hk;have HR:Hid (ans=((l.map Vt.pt).map leaves).sum):=zA (by rw[HA.out,leaves_mk,if_neg hk]);have HK:=zA hk;obtain⟨o,ho⟩:∃o,o=Obj.cells #[.int .i64 k,.string ⟨wd.toArray⟩,.slice ao n cap] 28:=⟨_,rfl⟩
   have HO:=zA ho;have HC:Hid (∀wr,Below (w.alloc o).heap.size (w.alloc o) wr->wr.cell? ⟨w.heap.size,2,none⟩=some (.slice ao n cap)):=zA (fun wr hb=>by
    have h:=box_keptQ hb;rw[HO.out]at h;simp[World.cell?,h])
   clear hk ho;go_enter Tryz.func12,Tryz.ntmps12;go_wp2_with fail;go_loopw [3,4] (fun s c wr=>∃i z:Nat,i<=n/\c=.int .i64 i/\s=.int .i64 z/\z<=4611686018427387903/\z=(((l.map Vt.pt).take i).map leaves).sum/\Below (w.alloc o).heap.size (w.alloc o) wr) (fun _ c _=>n-(intOf c).toNat)
   case atStart=>exact⟨0,0,zR _,rfl,rfl,by omega,by simp,by rw[HO.out];exact zF _ _⟩
   case round=>
    obtain⟨i,z,hi,rfl,rfl,hz,hzs,hbq⟩:=hrel;have HZ:=zA hzs;have HBQ:=zA hbq;have c2:=HC.out _ hbq;clear hzs hbq;by_cases hlt:i<n
    . have hltI:(i:Int)<(n:Int):=by omega
      obtain⟨x,hx⟩:∃x,l[i]?=some x:=⟨_,zB (by rw[<- HN.out];exact hlt)⟩
      obtain⟨g,off,rfl,_,_,hcell⟩:=(H1.out.below (below_boxQ HBQ.out)).get hx;obtain⟨q0,q1,q2⟩:=getN hcell;have hxm:=zC hx;have HX:=zA hx;have HC2:=zA (IH.out x hxm wr (zQ (leaves_kid HK.out (zV hxm)) HLV.out) ((H4.out x hxm).below (below_boxQ HBQ.out)));obtain⟨p,hp⟩:∃p,p=leaves x.pt:=⟨_,rfl⟩
      rw[<- hp]at HC2;have HP:=zA hp;have HS2:Hid (z+p=(((l.map Vt.pt).take (i+1)).map leaves).sum):=zA (by rw[sum_take HX.out,List.sum_append,<- HZ.out,<- HP.out];simp);have hzp:z+p<=4611686018427387903:=by
       have:=sum_part (f:=leaves) (l.map Vt.pt) (i+1);rw[<- HS2.out,<- HR.out]at this;omega
      obtain⟨xa,xc,hxv⟩:=(H4.out x hxm).parts.1.slice;obtain⟨xn,hxn⟩:∃n,n=x.kids.length:=⟨_,rfl⟩
      rw[<- hxn]at hxv;obtain⟨xk,xw,xv,xl⟩:=x;dsimp only at q0 q1 q2 hxv;subst hxv;clear hxn hx hcell hp hxm;go_wp2_with fail;refine HC2.out.mono ?_;rintro e w2 ⟨rfl,hb2⟩;have HB2:=zA (HBQ.out.trans (hb2.mono HBQ.out.size));clear hb2;go_wp2;go_roundw
      case rel=>exact⟨i+1,z+p,by omega,by go_num,by go_num,hzp,HS2.out,HB2.out⟩
      case measure=>simp[intOf];omega
    . have hin:i=n:=by omega
      have hltI:¬(i:Int)<(n:Int):=by omega
      have HE:Hid (ans=z):=zA (by
       rw[HR.out];have:=HZ.out;rw[zK (by rw[zH,<- HN.out];omega)]at this;exact this.symm)
      clear hin;go_wp2;go_ret;exact⟨by rw[HE.out];rfl,below_boxQ HBQ.out⟩
set_option maxHeartbeats 4000000 in
theorem rDeep_any{S:Nat->Prop}:∀(t:Vt) (w:World),high t.pt<=4611686018427387903->VOk S w t->
 Calls Tryz.prog 13 #[encN t] w fun e w'=>e=.returned (.int .i64 (high t.pt:Int))/\Below w.heap.size w w':=by
 refine Vt.ind (fun k wd v l ih=>?_);intro w hlv hok;obtain⟨h1,h2,h3,h4⟩:=vok_mk.1 hok;obtain⟨ao,cap,hv⟩:=h1.slice;subst hv;have H1:=zA h1;have H4:=zA h4;have IH:=zA ih;rw[Vt.pt_mk]at hlv ⊢;obtain⟨n,hn⟩:∃n,n=l.length:=⟨_,rfl⟩
 rw[<- hn]at h3 H1 ⊢;have HN:=zA hn;have HLV:=zA hlv;obtain⟨ans,hans⟩:∃a,a=high ⟨k,wd,l.map Vt.pt⟩:=⟨_,rfl⟩
 rw[<- hans]at hlv ⊢;have HR:Hid (ans=((l.map Vt.pt).map high).foldl max 0+1):=zA (by rw[hans,high_mk]);obtain⟨o,ho⟩:∃o,o=Obj.cells #[.int .i64 k,.string ⟨wd.toArray⟩,.slice ao n cap] 28:=⟨_,rfl⟩
 have HO:=zA ho;have HC:Hid (∀wr,Below (w.alloc o).heap.size (w.alloc o) wr->wr.cell? ⟨w.heap.size,2,none⟩=some (.slice ao n cap)):=zA (fun wr hb=>by
  have h:=box_keptQ hb;rw[HO.out]at h;simp[World.cell?,h])
 clear h1 h4 ih hok hn hans ho;go_enter Tryz.func13,Tryz.ntmps13;go_wp2_with fail;go_loopw [3,4] (fun s c wr=>∃i z:Nat,i<=n/\c=.int .i64 i/\s=.int .i64 z/\z<=4611686018427387903/\z=(((l.map Vt.pt).take i).map high).foldl max 0/\Below (w.alloc o).heap.size (w.alloc o) wr) (fun _ c _=>n-(intOf c).toNat)
 case atStart=>exact⟨0,0,zR _,rfl,rfl,by omega,by simp,by rw[HO.out];exact zF _ _⟩
 case round=>
  obtain⟨i,z,hi,rfl,rfl,hz,hzs,hbq⟩:=hrel;have HZ:=zA hzs;have HBQ:=zA hbq;have c2:=HC.out _ hbq;clear hzs hbq;by_cases hlt:i<n
  . have hltI:(i:Int)<(n:Int):=by omega
    obtain⟨x,hx⟩:∃x,l[i]?=some x:=⟨_,zB (by rw[<- HN.out];exact hlt)⟩
    obtain⟨g,off,rfl,_,_,hcell⟩:=(H1.out.below (below_boxQ HBQ.out)).get hx;obtain⟨q0,q1,q2⟩:=getN hcell;have hxm:=zC hx;have HX:=zA hx;have hkid:=high_kid (k:=k) (wd:=wd) (zV (f:=Vt.pt) hxm);have HC2:=zA (IH.out x hxm wr (by have:=HLV.out;omega) ((H4.out x hxm).below (below_boxQ HBQ.out)));obtain⟨p,hp⟩:∃p,p=high x.pt:=⟨_,rfl⟩
    rw[<- hp]at HC2 hkid;have HP:=zA hp;have hpb:p<=4611686018427387903:=by have:=HLV.out;omega
    have HS2:Hid (max z p=(((l.map Vt.pt).take (i+1)).map high).foldl max 0):=zA (by rw[max_take HX.out,<- HZ.out,<- HP.out]);obtain⟨xa,xc,hxv⟩:=(H4.out x hxm).parts.1.slice;obtain⟨xn,hxn⟩:∃n,n=x.kids.length:=⟨_,rfl⟩
    rw[<- hxn]at hxv;obtain⟨xk,xw,xv,xl⟩:=x;dsimp only at q0 q1 q2 hxv;subst hxv;clear hxn hx hcell hp hxm hkid;go_wp2_with fail;refine HC2.out.mono ?_;rintro e w2 ⟨rfl,hb2⟩;have HB2:=zA (HBQ.out.trans (hb2.mono HBQ.out.size));clear hb2;go_wp2;go_roundw
    case rel=>exact⟨i+1,max z p,by omega,by go_num,by go_num,by omega,HS2.out,HB2.out⟩
    case measure=>simp[intOf];omega
  . have hin:i=n:=by omega
    have hltI:¬(i:Int)<(n:Int):=by omega
    have HE:Hid (ans=z+1):=zA (by
     rw[HR.out];have:=HZ.out;rw[zK (by rw[zH,<- HN.out];omega)]at this;rw[<- this])
    clear hin;go_wp2;go_ret;exact⟨by rw[HE.out];rfl,below_boxQ HBQ.out⟩
set_option maxHeartbeats 4000000 in
theorem rCount_any{S:Nat->Prop}:∀(t:Vt) (d:Int) (w:World),VOk S w t->
 Calls Tryz.prog 46 #[encN t,.int .i64 d] w fun e w'=>(∃z:Int,e=.returned (.int .i64 z))/\Below w.heap.size w w':=by
 refine Vt.ind (fun k wd v l ih=>?_);intro d w hok;obtain⟨h1,h2,h3,h4⟩:=vok_mk.1 hok;obtain⟨ao,cap,hv⟩:=h1.slice;subst hv;have H1:=zA h1;have H4:=zA h4;have IH:=zA ih;obtain⟨n,hn⟩:∃n,n=l.length:=⟨_,rfl⟩
 rw[<- hn]at h3 H1 ⊢;have HN:=zA hn;obtain⟨o,ho⟩:∃o,o=Obj.cells #[.int .i64 k,.string ⟨wd.toArray⟩,.slice ao n cap] 28:=⟨_,rfl⟩
 have HO:=zA ho;have HC:Hid (∀wr,Below (w.alloc o).heap.size (w.alloc o) wr->wr.cell? ⟨w.heap.size,2,none⟩=some (.slice ao n cap)):=zA (fun wr hb=>by
  have h:=box_keptQ hb;rw[HO.out]at h;simp[World.cell?,h])
 clear h1 h4 ih hok hn ho;by_cases hd:d=0
 . subst hd;have HB:Hid (∀a:Obj,Below w.heap.size w (w.alloc a)):=zA (fun a=>(zF _ _).alloc (zD _) _);go_enter Tryz.func46,Tryz.ntmps46;go_wp2;go_ret;exact⟨⟨_,rfl⟩,HB.out _⟩
 . obtain⟨d1,d2⟩:=not_both hd;clear hd;go_enter Tryz.func46,Tryz.ntmps46;go_wp2_with fail;go_loopw [5,6] (fun s c wr=>∃(i:Nat) (z:Int),i<=n/\c=.int .i64 i/\s=.int .i64 z/\Below (w.alloc o).heap.size (w.alloc o) wr) (fun _ c _=>n-(intOf c).toNat)
   case atStart=>exact⟨0,1,zR _,rfl,rfl,by rw[HO.out];exact zF _ _⟩
   case round=>
    obtain⟨i,z,hi,rfl,rfl,hbq⟩:=hrel;have HBQ:=zA hbq;have c2:=HC.out _ hbq;clear hbq;by_cases hlt:i<n
    . have hltI:(i:Int)<(n:Int):=by omega
      by_cases hz:z<1000
      . obtain⟨x,hx⟩:∃x,l[i]?=some x:=⟨_,zB (by rw[<- HN.out];exact hlt)⟩
        obtain⟨g,off,rfl,_,_,hcell⟩:=(H1.out.below (below_boxQ HBQ.out)).get hx;obtain⟨q0,q1,q2⟩:=getN hcell;have hxm:=zC hx;have HC2:=zA (fun d=>IH.out x hxm d wr ((H4.out x hxm).below (below_boxQ HBQ.out)));obtain⟨xa,xc,hxv⟩:=(H4.out x hxm).parts.1.slice;obtain⟨xn,hxn⟩:∃n,n=x.kids.length:=⟨_,rfl⟩
        rw[<- hxn]at hxv;obtain⟨xk,xw,xv,xl⟩:=x;dsimp only at q0 q1 q2 hxv;subst hxv;clear hxn hx hcell hxm;go_wp2_with fail;refine(HC2.out _).mono ?_;rintro e w2 ⟨⟨zz,rfl⟩,hb2⟩;have HB2:=zA (HBQ.out.trans (hb2.mono HBQ.out.size));clear hb2;go_wp2;go_roundw
        case rel=>exact⟨i+1,_,by omega,by go_num,rfl,HB2.out⟩
        case measure=>simp[intOf];omega
      . go_wp2;go_ret;exact⟨⟨_,rfl⟩,below_boxQ HBQ.out⟩
    . have hltI:¬(i:Int)<(n:Int):=by omega
      go_wp2;go_ret;exact⟨⟨_,rfl⟩,below_boxQ HBQ.out⟩
set_option maxHeartbeats 8000000 in
theorem rShaped_any{S:Nat->Prop}:∀(t:Vt) (d:Nat) (dp:Int) (w:World),d<=12->dp=d->VOk S w t->
 Calls Tryz.prog 25 #[encN t,.int .i64 dp] w fun e w'=>e=.returned (.bool (shapedP d t.pt))/\Below w.heap.size w w':=by
 refine Vt.ind (fun k wd v l ih=>?_);intro d dp w hd12 hd hok;obtain⟨h1,h2,h3,h4⟩:=vok_mk.1 hok;obtain⟨ao,cap,hv⟩:=h1.slice;subst hv;have H1:=zA h1;have H4:=zA h4;have IH:=zA ih;have HI:=zA (fun w=>isQR_any wd w h2);rw[Vt.pt_mk];obtain⟨n,hn⟩:∃n,n=l.length:=⟨_,rfl⟩
 rw[<- hn]at h3 H1 ⊢;have HN:=zA hn;obtain⟨ans,hans⟩:∃a,a=shapedP d ⟨k,wd,l.map Vt.pt⟩:=⟨_,rfl⟩
 rw[<- hans];have HA:=zA hans;have HB:Hid (∀a:Obj,Below w.heap.size w (w.alloc a)):=zA (fun a=>(zF _ _).alloc (zD _) _);clear h1 h2 h4 ih hok hn hans;cases d with
 |zero=>
  subst hd;have HF:Hid (ans=false):=zA (by rw[HA.out];rfl);clear hd12;rcases kind_cases k with rfl|rfl|rfl|rfl|rfl|rfl|⟨k1,k2,k3,k4,k5,k6⟩
  case inr.inr.inr.inr.inr.inr=>
   obtain⟨a1,b1⟩:=not_both k1;obtain⟨a2,b2⟩:=not_both k2;obtain⟨a3,b3⟩:=not_both k3;obtain⟨a4,b4⟩:=not_both k4;obtain⟨a5,b5⟩:=not_both k5;obtain⟨a6,b6⟩:=not_both k6;clear k1 k2 k3 k4 k5 k6;go_enter Tryz.func25,Tryz.ntmps25;go_wp2;go_ret;exact⟨by rw[HF.out];rfl,HB.out _⟩
  all_goals (
   go_enter Tryz.func25,Tryz.ntmps25;go_wp2;go_ret;exact⟨by rw[HF.out];rfl,HB.out _⟩)
 |succ d=>
  have hdp0:(0:Int)<dp:=by omega
  have hdp1:dp<=12:=by omega
  have HD:=zA hd;have HD12:=zA hd12;clear hd hd12;rcases kind_cases k with rfl|rfl|rfl|rfl|rfl|rfl|⟨k1,k2,k3,k4,k5,k6⟩
  . obtain⟨m,hm⟩:∃m,m=isW wd:=⟨_,rfl⟩
    rw[<- hm]at HI;by_cases h0:n=0
    . have HF:Hid (ans=m):=zA (by
       have h0':l=[]:=yP.1 (by rw[<- HN.out];exact h0);rw[HA.out,h0',hm];simp[shapedP,formedP])
      subst h0;clear hm;go_enter Tryz.func25,Tryz.ntmps25;go_wp2_with fail;refine(HI.out _).mono ?_;rintro e w1 ⟨rfl,hw⟩;subst hw;go_wp2;go_ret;exact⟨by rw[HF.out];rfl,HB.out _⟩
    . obtain⟨e1,e2⟩:=not_both (a:=(n:Int)) (b:=0) (by omega);have HF:Hid (ans=false):=zA (by
       rw[HA.out,shapedP,zH,<- HN.out];simp[formedP,h0])
      clear h0 hm;go_enter Tryz.func25,Tryz.ntmps25;go_wp2;go_ret;exact⟨by rw[HF.out];rfl,HB.out _⟩
  case inr.inr.inr.inr.inr.inr=>
   obtain⟨a1,b1⟩:=not_both k1;obtain⟨a2,b2⟩:=not_both k2;obtain⟨a3,b3⟩:=not_both k3;obtain⟨a4,b4⟩:=not_both k4;obtain⟨a5,b5⟩:=not_both k5;obtain⟨a6,b6⟩:=not_both k6;have HF:Hid (ans=false):=zA (by rw[HA.out,shapedP];simp[formedP,a1,a2,a3,a4,a5,a6]);clear k1 k2 k3 k4 k5 k6;go_enter Tryz.func25,Tryz.ntmps25;go_wp2;go_ret;exact⟨by rw[HF.out];rfl,HB.out _⟩
  . by_cases hn2:2<=n
    . have e1:(2:Int)<=(n:Int):=by omega
      by_cases hw:wd=[]
      . subst hw;by_cases h24:24<n
        . have e2:(24:Int)<(n:Int):=by omega
          have HF:Hid (ans=false):=zA (by rw[HA.out,shapedP,zH,<- HN.out];simp;omega);clear hn2 h24;go_enter Tryz.func25,Tryz.ntmps25;go_wp2;go_ret;exact⟨by rw[HF.out];rfl,HB.out _⟩
        . have e2:¬(24:Int)<(n:Int):=by omega
          have HALL:Hid (ans=(l.map Vt.pt).all (shapedP d)):=zA (by rw[HA.out,shapedP,zH,<- HN.out];simp[formedP,hn2];omega);clear hn2 h24;obtain⟨o,ho⟩:∃o,o=Obj.cells #[.int .i64 2,.string ⟨([]:List UInt8).toArray⟩,.slice ao n cap] 28:=⟨_,rfl⟩
          have HO:=zA ho;have HC:Hid (∀wr,Below (w.alloc o).heap.size (w.alloc o) wr->wr.cell? ⟨w.heap.size,2,none⟩=some (.slice ao n cap)):=zA (fun wr hb=>by
           have h:=box_keptQ hb;rw[HO.out]at h;simp[World.cell?,h])
          clear ho;go_enter Tryz.func25,Tryz.ntmps25;go_wp2_with fail;go_loopw [7] (fun c wr=>∃i:Nat,i<=n/\c=.int .i64 i/\(∀y∈l.take i,shapedP d y.pt=true)/\Below (w.alloc o).heap.size (w.alloc o) wr) (fun c _=>n-(intOf c).toNat)
          case atStart=>exact⟨0,zR _,rfl,by simp,by rw[HO.out];exact zF _ _⟩
          case round=>
           obtain⟨i,hi,rfl,hall,hbq⟩:=hrel;have HAll:=zA hall;have HBQ:=zA hbq;have c2:=HC.out _ hbq;clear hall hbq;by_cases hlt:i<n
           . have hltI:(i:Int)<(n:Int):=by omega
             obtain⟨x,hx⟩:∃x,l[i]?=some x:=⟨_,zB (by rw[<- HN.out];exact hlt)⟩
             obtain⟨g,off,rfl,_,_,hcell⟩:=(H1.out.below (below_boxQ HBQ.out)).get hx;obtain⟨q0,q1,q2⟩:=getN hcell;have hxm:=zC hx;have HX:=zA hx;have HXM:=zA hxm;have HC2:=zA (IH.out x hxm d (dp-1) wr (by have:=HD12.out;omega) (by have:=HD.out;omega) ((H4.out x hxm).below (below_boxQ HBQ.out)));obtain⟨m,hm⟩:∃m,m=shapedP d x.pt:=⟨_,rfl⟩
             rw[<- hm]at HC2;have HM:=zA hm;obtain⟨xa,xc,hxv⟩:=(H4.out x hxm).parts.1.slice;obtain⟨xn,hxn⟩:∃n,n=x.kids.length:=⟨_,rfl⟩
             rw[<- hxn]at hxv;clear hm hxm hx hcell hxn;cases m with
             |true=>
              have HA2:=zA (all_shape HX.out HAll.out HM.out.symm);obtain⟨xk,xw,xv,xl⟩:=x;dsimp only at q0 q1 q2 hxv;subst hxv;go_wp2_with fail;refine HC2.out.mono ?_;rintro e w2 ⟨rfl,hb2⟩;have HB2:=zA (HBQ.out.trans (hb2.mono HBQ.out.size));clear hb2;go_wp2;go_roundw
              case rel=>exact⟨i+1,by omega,by go_num,HA2.out,HB2.out⟩
              case measure=>simp[intOf];omega
             |false=>
              have HF:Hid (ans=false):=zA (by
               rw[HALL.out,List.all_eq_false];exact⟨x.pt,zV HXM.out,by rw[<- HM.out];decide⟩)
              obtain⟨xk,xw,xv,xl⟩:=x;dsimp only at q0 q1 q2 hxv;subst hxv;go_wp2_with fail;refine HC2.out.mono ?_;rintro e w2 ⟨rfl,hb2⟩;have HB2:=zA (HBQ.out.trans (hb2.mono HBQ.out.size));clear hb2;go_wp2;go_ret;exact⟨by rw[HF.out];rfl,below_boxQ HB2.out⟩
           . have hltI:¬(i:Int)<(n:Int):=by omega
             have HF:Hid (ans=true):=zA (by
              rw[HALL.out,yK];intro y hy;obtain⟨z,hz,rfl⟩:=zS.1 hy;refine HAll.out z ?_;rw[zK (by rw[<- HN.out];omega)];exact hz)
             go_wp2;go_ret;exact⟨by rw[HF.out];rfl,below_boxQ HBQ.out⟩
      . have e2:=isEmpty_no hw;have e3:(wd==[])=false:=by simpa using hw
        have HF:Hid (ans=false):=zA (by rw[HA.out,shapedP];simp[formedP,hw]);clear hn2;go_enter Tryz.func25,Tryz.ntmps25;go_wp2;go_ret;exact⟨by rw[HF.out];rfl,HB.out _⟩
    . have e1:¬(2:Int)<=(n:Int):=by omega
      have HF:Hid (ans=false):=zA (by rw[HA.out,shapedP,zH,<- HN.out];simp[formedP,hn2]);clear hn2;go_enter Tryz.func25,Tryz.ntmps25;go_wp2;go_ret;exact⟨by rw[HF.out];rfl,HB.out _⟩
  . by_cases hn2:2<=n
    . have e1:(2:Int)<=(n:Int):=by omega
      by_cases hw:wd=[]
      . subst hw;by_cases h24:24<n
        . have e2:(24:Int)<(n:Int):=by omega
          have HF:Hid (ans=false):=zA (by rw[HA.out,shapedP,zH,<- HN.out];simp;omega);clear hn2 h24;go_enter Tryz.func25,Tryz.ntmps25;go_wp2;go_ret;exact⟨by rw[HF.out];rfl,HB.out _⟩
        . have e2:¬(24:Int)<(n:Int):=by omega
          have HALL:Hid (ans=(l.map Vt.pt).all (shapedP d)):=zA (by rw[HA.out,shapedP,zH,<- HN.out];simp[formedP,hn2];omega);clear hn2 h24;obtain⟨o,ho⟩:∃o,o=Obj.cells #[.int .i64 3,.string ⟨([]:List UInt8).toArray⟩,.slice ao n cap] 28:=⟨_,rfl⟩
          have HO:=zA ho;have HC:Hid (∀wr,Below (w.alloc o).heap.size (w.alloc o) wr->wr.cell? ⟨w.heap.size,2,none⟩=some (.slice ao n cap)):=zA (fun wr hb=>by
           have h:=box_keptQ hb;rw[HO.out]at h;simp[World.cell?,h])
          clear ho;go_enter Tryz.func25,Tryz.ntmps25;go_wp2_with fail;go_loopw [7] (fun c wr=>∃i:Nat,i<=n/\c=.int .i64 i/\(∀y∈l.take i,shapedP d y.pt=true)/\Below (w.alloc o).heap.size (w.alloc o) wr) (fun c _=>n-(intOf c).toNat)
          case atStart=>exact⟨0,zR _,rfl,by simp,by rw[HO.out];exact zF _ _⟩
          case round=>
           obtain⟨i,hi,rfl,hall,hbq⟩:=hrel;have HAll:=zA hall;have HBQ:=zA hbq;have c2:=HC.out _ hbq;clear hall hbq;by_cases hlt:i<n
           . have hltI:(i:Int)<(n:Int):=by omega
             obtain⟨x,hx⟩:∃x,l[i]?=some x:=⟨_,zB (by rw[<- HN.out];exact hlt)⟩
             obtain⟨g,off,rfl,_,_,hcell⟩:=(H1.out.below (below_boxQ HBQ.out)).get hx;obtain⟨q0,q1,q2⟩:=getN hcell;have hxm:=zC hx;have HX:=zA hx;have HXM:=zA hxm;have HC2:=zA (IH.out x hxm d (dp-1) wr (by have:=HD12.out;omega) (by have:=HD.out;omega) ((H4.out x hxm).below (below_boxQ HBQ.out)));obtain⟨m,hm⟩:∃m,m=shapedP d x.pt:=⟨_,rfl⟩
             rw[<- hm]at HC2;have HM:=zA hm;obtain⟨xa,xc,hxv⟩:=(H4.out x hxm).parts.1.slice;obtain⟨xn,hxn⟩:∃n,n=x.kids.length:=⟨_,rfl⟩
             rw[<- hxn]at hxv;clear hm hxm hx hcell hxn;cases m with
             |true=>
              have HA2:=zA (all_shape HX.out HAll.out HM.out.symm);obtain⟨xk,xw,xv,xl⟩:=x;dsimp only at q0 q1 q2 hxv;subst hxv;go_wp2_with fail;refine HC2.out.mono ?_;rintro e w2 ⟨rfl,hb2⟩;have HB2:=zA (HBQ.out.trans (hb2.mono HBQ.out.size));clear hb2;go_wp2;go_roundw
              case rel=>exact⟨i+1,by omega,by go_num,HA2.out,HB2.out⟩
              case measure=>simp[intOf];omega
             |false=>
              have HF:Hid (ans=false):=zA (by
               rw[HALL.out,List.all_eq_false];exact⟨x.pt,zV HXM.out,by rw[<- HM.out];decide⟩)
              obtain⟨xk,xw,xv,xl⟩:=x;dsimp only at q0 q1 q2 hxv;subst hxv;go_wp2_with fail;refine HC2.out.mono ?_;rintro e w2 ⟨rfl,hb2⟩;have HB2:=zA (HBQ.out.trans (hb2.mono HBQ.out.size));clear hb2;go_wp2;go_ret;exact⟨by rw[HF.out];rfl,below_boxQ HB2.out⟩
           . have hltI:¬(i:Int)<(n:Int):=by omega
             have HF:Hid (ans=true):=zA (by
              rw[HALL.out,yK];intro y hy;obtain⟨z,hz,rfl⟩:=zS.1 hy;refine HAll.out z ?_;rw[zK (by rw[<- HN.out];omega)];exact hz)
             go_wp2;go_ret;exact⟨by rw[HF.out];rfl,below_boxQ HBQ.out⟩
      . have e2:=isEmpty_no hw;have e3:(wd==[])=false:=by simpa using hw
        have HF:Hid (ans=false):=zA (by rw[HA.out,shapedP];simp[formedP,hw]);clear hn2;go_enter Tryz.func25,Tryz.ntmps25;go_wp2;go_ret;exact⟨by rw[HF.out];rfl,HB.out _⟩
    . have e1:¬(2:Int)<=(n:Int):=by omega
      have HF:Hid (ans=false):=zA (by rw[HA.out,shapedP,zH,<- HN.out];simp[formedP,hn2]);clear hn2;go_enter Tryz.func25,Tryz.ntmps25;go_wp2;go_ret;exact⟨by rw[HF.out];rfl,HB.out _⟩
  . by_cases hn2:n=1
    . subst hn2;by_cases hw:wd=[]
      . subst hw;have HALL:Hid (ans=(l.map Vt.pt).all (shapedP d)):=zA (by rw[HA.out,shapedP,zH,<- HN.out];simp[formedP]);obtain⟨o,ho⟩:∃o,o=Obj.cells #[.int .i64 4,.string ⟨([]:List UInt8).toArray⟩,.slice ao 1 cap] 28:=⟨_,rfl⟩
        have HO:=zA ho;have HC:Hid (∀wr,Below (w.alloc o).heap.size (w.alloc o) wr->wr.cell? ⟨w.heap.size,2,none⟩=some (.slice ao 1 cap)):=zA (fun wr hb=>by
         have h:=box_keptQ hb;rw[HO.out]at h;simp[World.cell?,h])
        clear ho;go_enter Tryz.func25,Tryz.ntmps25;go_wp2_with fail;go_loopw [7] (fun c wr=>∃i:Nat,i<=1/\c=.int .i64 i/\(∀y∈l.take i,shapedP d y.pt=true)/\Below (w.alloc o).heap.size (w.alloc o) wr) (fun c _=>1-(intOf c).toNat)
        case atStart=>exact⟨0,zR _,rfl,by simp,by rw[HO.out];exact zF _ _⟩
        case round=>
         obtain⟨i,hi,rfl,hall,hbq⟩:=hrel;have HAll:=zA hall;have HBQ:=zA hbq;have c2:=HC.out _ hbq;clear hall hbq;by_cases hlt:i<1
         . have hltI:(i:Int)<(1:Int):=by omega
           obtain⟨x,hx⟩:∃x,l[i]?=some x:=⟨_,zB (by rw[<- HN.out];exact hlt)⟩
           obtain⟨g,off,rfl,_,_,hcell⟩:=(H1.out.below (below_boxQ HBQ.out)).get hx;obtain⟨q0,q1,q2⟩:=getN hcell;have hxm:=zC hx;have HX:=zA hx;have HXM:=zA hxm;have HC2:=zA (IH.out x hxm d (dp-1) wr (by have:=HD12.out;omega) (by have:=HD.out;omega) ((H4.out x hxm).below (below_boxQ HBQ.out)));obtain⟨m,hm⟩:∃m,m=shapedP d x.pt:=⟨_,rfl⟩
           rw[<- hm]at HC2;have HM:=zA hm;obtain⟨xa,xc,hxv⟩:=(H4.out x hxm).parts.1.slice;obtain⟨xn,hxn⟩:∃n,n=x.kids.length:=⟨_,rfl⟩
           rw[<- hxn]at hxv;clear hm hxm hx hcell hxn;cases m with
           |true=>
            have HA2:=zA (all_shape HX.out HAll.out HM.out.symm);obtain⟨xk,xw,xv,xl⟩:=x;dsimp only at q0 q1 q2 hxv;subst hxv;go_wp2_with fail;refine HC2.out.mono ?_;rintro e w2 ⟨rfl,hb2⟩;have HB2:=zA (HBQ.out.trans (hb2.mono HBQ.out.size));clear hb2;go_wp2;go_roundw
            case rel=>exact⟨i+1,by omega,by go_num,HA2.out,HB2.out⟩
            case measure=>simp[intOf];omega
           |false=>
            have HF:Hid (ans=false):=zA (by
             rw[HALL.out,List.all_eq_false];exact⟨x.pt,zV HXM.out,by rw[<- HM.out];decide⟩)
            obtain⟨xk,xw,xv,xl⟩:=x;dsimp only at q0 q1 q2 hxv;subst hxv;go_wp2_with fail;refine HC2.out.mono ?_;rintro e w2 ⟨rfl,hb2⟩;have HB2:=zA (HBQ.out.trans (hb2.mono HBQ.out.size));clear hb2;go_wp2;go_ret;exact⟨by rw[HF.out];rfl,below_boxQ HB2.out⟩
         . have hltI:¬(i:Int)<(1:Int):=by omega
           have HF:Hid (ans=true):=zA (by
            rw[HALL.out,yK];intro y hy;obtain⟨z,hz,rfl⟩:=zS.1 hy;refine HAll.out z ?_;rw[zK (by rw[<- HN.out];omega)];exact hz)
           go_wp2;go_ret;exact⟨by rw[HF.out];rfl,below_boxQ HBQ.out⟩
      . have e2:=isEmpty_no hw;have e3:(wd==[])=false:=by simpa using hw
        have HF:Hid (ans=false):=zA (by rw[HA.out,shapedP];simp[formedP,hw]);go_enter Tryz.func25,Tryz.ntmps25;go_wp2;go_ret;exact⟨by rw[HF.out];rfl,HB.out _⟩
    . obtain⟨e1,e2⟩:=not_both (a:=(n:Int)) (b:=1) (by omega);have HF:Hid (ans=false):=zA (by rw[HA.out,shapedP,zH,<- HN.out];simp[formedP,hn2]);clear hn2;go_enter Tryz.func25,Tryz.ntmps25;go_wp2;go_ret;exact⟨by rw[HF.out];rfl,HB.out _⟩
  . by_cases hn2:n=1
    . subst hn2;by_cases hw:wd=[]
      . subst hw;have HALL:Hid (ans=(l.map Vt.pt).all (shapedP d)):=zA (by rw[HA.out,shapedP,zH,<- HN.out];simp[formedP]);obtain⟨o,ho⟩:∃o,o=Obj.cells #[.int .i64 5,.string ⟨([]:List UInt8).toArray⟩,.slice ao 1 cap] 28:=⟨_,rfl⟩
        have HO:=zA ho;have HC:Hid (∀wr,Below (w.alloc o).heap.size (w.alloc o) wr->wr.cell? ⟨w.heap.size,2,none⟩=some (.slice ao 1 cap)):=zA (fun wr hb=>by
         have h:=box_keptQ hb;rw[HO.out]at h;simp[World.cell?,h])
        clear ho;go_enter Tryz.func25,Tryz.ntmps25;go_wp2_with fail;go_loopw [7] (fun c wr=>∃i:Nat,i<=1/\c=.int .i64 i/\(∀y∈l.take i,shapedP d y.pt=true)/\Below (w.alloc o).heap.size (w.alloc o) wr) (fun c _=>1-(intOf c).toNat)
        case atStart=>exact⟨0,zR _,rfl,by simp,by rw[HO.out];exact zF _ _⟩
        case round=>
         obtain⟨i,hi,rfl,hall,hbq⟩:=hrel;have HAll:=zA hall;have HBQ:=zA hbq;have c2:=HC.out _ hbq;clear hall hbq;by_cases hlt:i<1
         . have hltI:(i:Int)<(1:Int):=by omega
           obtain⟨x,hx⟩:∃x,l[i]?=some x:=⟨_,zB (by rw[<- HN.out];exact hlt)⟩
           obtain⟨g,off,rfl,_,_,hcell⟩:=(H1.out.below (below_boxQ HBQ.out)).get hx;obtain⟨q0,q1,q2⟩:=getN hcell;have hxm:=zC hx;have HX:=zA hx;have HXM:=zA hxm;have HC2:=zA (IH.out x hxm d (dp-1) wr (by have:=HD12.out;omega) (by have:=HD.out;omega) ((H4.out x hxm).below (below_boxQ HBQ.out)));obtain⟨m,hm⟩:∃m,m=shapedP d x.pt:=⟨_,rfl⟩
           rw[<- hm]at HC2;have HM:=zA hm;obtain⟨xa,xc,hxv⟩:=(H4.out x hxm).parts.1.slice;obtain⟨xn,hxn⟩:∃n,n=x.kids.length:=⟨_,rfl⟩
           rw[<- hxn]at hxv;clear hm hxm hx hcell hxn;cases m with
           |true=>
            have HA2:=zA (all_shape HX.out HAll.out HM.out.symm);obtain⟨xk,xw,xv,xl⟩:=x;dsimp only at q0 q1 q2 hxv;subst hxv;go_wp2_with fail;refine HC2.out.mono ?_;rintro e w2 ⟨rfl,hb2⟩;have HB2:=zA (HBQ.out.trans (hb2.mono HBQ.out.size));clear hb2;go_wp2;go_roundw
            case rel=>exact⟨i+1,by omega,by go_num,HA2.out,HB2.out⟩
            case measure=>simp[intOf];omega
           |false=>
            have HF:Hid (ans=false):=zA (by
             rw[HALL.out,List.all_eq_false];exact⟨x.pt,zV HXM.out,by rw[<- HM.out];decide⟩)
            obtain⟨xk,xw,xv,xl⟩:=x;dsimp only at q0 q1 q2 hxv;subst hxv;go_wp2_with fail;refine HC2.out.mono ?_;rintro e w2 ⟨rfl,hb2⟩;have HB2:=zA (HBQ.out.trans (hb2.mono HBQ.out.size));clear hb2;go_wp2;go_ret;exact⟨by rw[HF.out];rfl,below_boxQ HB2.out⟩
         . have hltI:¬(i:Int)<(1:Int):=by omega
           have HF:Hid (ans=true):=zA (by
            rw[HALL.out,yK];intro y hy;obtain⟨z,hz,rfl⟩:=zS.1 hy;refine HAll.out z ?_;rw[zK (by rw[<- HN.out];omega)];exact hz)
           go_wp2;go_ret;exact⟨by rw[HF.out];rfl,below_boxQ HBQ.out⟩
      . have e2:=isEmpty_no hw;have e3:(wd==[])=false:=by simpa using hw
        have HF:Hid (ans=false):=zA (by rw[HA.out,shapedP];simp[formedP,hw]);go_enter Tryz.func25,Tryz.ntmps25;go_wp2;go_ret;exact⟨by rw[HF.out];rfl,HB.out _⟩
    . obtain⟨e1,e2⟩:=not_both (a:=(n:Int)) (b:=1) (by omega);have HF:Hid (ans=false):=zA (by rw[HA.out,shapedP,zH,<- HN.out];simp[formedP,hn2]);clear hn2;go_enter Tryz.func25,Tryz.ntmps25;go_wp2;go_ret;exact⟨by rw[HF.out];rfl,HB.out _⟩
  . by_cases hn2:n=1
    . subst hn2;by_cases hw:wd=[]
      . subst hw;have HALL:Hid (ans=(l.map Vt.pt).all (shapedP d)):=zA (by rw[HA.out,shapedP,zH,<- HN.out];simp[formedP]);obtain⟨o,ho⟩:∃o,o=Obj.cells #[.int .i64 6,.string ⟨([]:List UInt8).toArray⟩,.slice ao 1 cap] 28:=⟨_,rfl⟩
        have HO:=zA ho;have HC:Hid (∀wr,Below (w.alloc o).heap.size (w.alloc o) wr->wr.cell? ⟨w.heap.size,2,none⟩=some (.slice ao 1 cap)):=zA (fun wr hb=>by
         have h:=box_keptQ hb;rw[HO.out]at h;simp[World.cell?,h])
        clear ho;go_enter Tryz.func25,Tryz.ntmps25;go_wp2_with fail;go_loopw [7] (fun c wr=>∃i:Nat,i<=1/\c=.int .i64 i/\(∀y∈l.take i,shapedP d y.pt=true)/\Below (w.alloc o).heap.size (w.alloc o) wr) (fun c _=>1-(intOf c).toNat)
        case atStart=>exact⟨0,zR _,rfl,by simp,by rw[HO.out];exact zF _ _⟩
        case round=>
         obtain⟨i,hi,rfl,hall,hbq⟩:=hrel;have HAll:=zA hall;have HBQ:=zA hbq;have c2:=HC.out _ hbq;clear hall hbq;by_cases hlt:i<1
         . have hltI:(i:Int)<(1:Int):=by omega
           obtain⟨x,hx⟩:∃x,l[i]?=some x:=⟨_,zB (by rw[<- HN.out];exact hlt)⟩
           obtain⟨g,off,rfl,_,_,hcell⟩:=(H1.out.below (below_boxQ HBQ.out)).get hx;obtain⟨q0,q1,q2⟩:=getN hcell;have hxm:=zC hx;have HX:=zA hx;have HXM:=zA hxm;have HC2:=zA (IH.out x hxm d (dp-1) wr (by have:=HD12.out;omega) (by have:=HD.out;omega) ((H4.out x hxm).below (below_boxQ HBQ.out)));obtain⟨m,hm⟩:∃m,m=shapedP d x.pt:=⟨_,rfl⟩
           rw[<- hm]at HC2;have HM:=zA hm;obtain⟨xa,xc,hxv⟩:=(H4.out x hxm).parts.1.slice;obtain⟨xn,hxn⟩:∃n,n=x.kids.length:=⟨_,rfl⟩
           rw[<- hxn]at hxv;clear hm hxm hx hcell hxn;cases m with
           |true=>
            have HA2:=zA (all_shape HX.out HAll.out HM.out.symm);obtain⟨xk,xw,xv,xl⟩:=x;dsimp only at q0 q1 q2 hxv;subst hxv;go_wp2_with fail;refine HC2.out.mono ?_;rintro e w2 ⟨rfl,hb2⟩;have HB2:=zA (HBQ.out.trans (hb2.mono HBQ.out.size));clear hb2;go_wp2;go_roundw
            case rel=>exact⟨i+1,by omega,by go_num,HA2.out,HB2.out⟩
            case measure=>simp[intOf];omega
           |false=>
            have HF:Hid (ans=false):=zA (by
             rw[HALL.out,List.all_eq_false];exact⟨x.pt,zV HXM.out,by rw[<- HM.out];decide⟩)
            obtain⟨xk,xw,xv,xl⟩:=x;dsimp only at q0 q1 q2 hxv;subst hxv;go_wp2_with fail;refine HC2.out.mono ?_;rintro e w2 ⟨rfl,hb2⟩;have HB2:=zA (HBQ.out.trans (hb2.mono HBQ.out.size));clear hb2;go_wp2;go_ret;exact⟨by rw[HF.out];rfl,below_boxQ HB2.out⟩
         . have hltI:¬(i:Int)<(1:Int):=by omega
           have HF:Hid (ans=true):=zA (by
            rw[HALL.out,yK];intro y hy;obtain⟨z,hz,rfl⟩:=zS.1 hy;refine HAll.out z ?_;rw[zK (by rw[<- HN.out];omega)];exact hz)
           go_wp2;go_ret;exact⟨by rw[HF.out];rfl,below_boxQ HBQ.out⟩
      . have e2:=isEmpty_no hw;have e3:(wd==[])=false:=by simpa using hw
        have HF:Hid (ans=false):=zA (by rw[HA.out,shapedP];simp[formedP,hw]);go_enter Tryz.func25,Tryz.ntmps25;go_wp2;go_ret;exact⟨by rw[HF.out];rfl,HB.out _⟩
    . obtain⟨e1,e2⟩:=not_both (a:=(n:Int)) (b:=1) (by omega);have HF:Hid (ans=false):=zA (by rw[HA.out,shapedP,zH,<- HN.out];simp[formedP,hn2]);clear hn2;go_enter Tryz.func25,Tryz.ntmps25;go_wp2;go_ret;exact⟨by rw[HF.out];rfl,HB.out _⟩
set_option maxHeartbeats 2000000 in
theorem rMayPath_any{S:Nat->Prop}{w:World}{t:Vt}(h:VOk S w t):
 Calls Tryz.prog 11 #[encN t] w fun e w'=>e=.returned (.bool (mayP t.pt))/\Below w.heap.size w w':=by
 have HB:Hid (∀a:Obj,Below w.heap.size w (w.alloc a)):=zA (fun a=>(zF _ _).alloc (zD _) _);have HC:=zA (fun u (hu:Below w.heap.size w u)=>rShaped_any t 12 12 u (zD _) rfl (h.below hu));obtain⟨ao,cap,hv⟩:=h.parts.1.slice;obtain⟨ans,hans⟩:∃a,a=mayP t.pt:=⟨_,rfl⟩
 rw[<- hans];obtain⟨m,hm⟩:∃m,m=shapedP 12 t.pt:=⟨_,rfl⟩
 rw[<- hm]at HC;cases m with
 |false=>
  have HE:Hid (ans=false):=zA (by rw[hans,mayP,<- hm];rfl);obtain⟨k,wd,v,l⟩:=t;dsimp only at hv HC;subst hv;clear hans h hm;go_enter Tryz.func11,Tryz.ntmps11;go_wp2_with fail;refine(HC.out _ (HB.out _)).mono ?_;rintro e w2 ⟨rfl,hb2⟩;go_wp2;go_ret;exact⟨by rw[HE.out];rfl,(HB.out _).trans (hb2.mono (by simp))⟩
 |true=>
  have hb:=leaves_shaped 12 t.pt hm.symm;have HP:=zA (fun u (hu:Below w.heap.size w u)=>rPlaces_any t u (zQ hb (by decide)) (h.below hu));have HE:Hid (ans=decide (leaves t.pt<=24)):=zA (by rw[hans,mayP,<- hm];rfl);obtain⟨p,hp⟩:∃p,p=leaves t.pt:=⟨_,rfl⟩
  rw[<- hp]at HP HE;have hpb:p<=24^12:=by rw[hp];exact hb
  have hpc:p<=4611686018427387903:=zQ hpb (by decide);obtain⟨k,wd,v,l⟩:=t;dsimp only at hv HC HP;subst hv;clear hans h hm hb hp hpb;obtain⟨o,ho⟩:∃o,o=Obj.cells #[.int .i64 k,.string ⟨wd.toArray⟩,.slice ao l.length cap] 28:=⟨_,rfl⟩
  have HO:=zA ho;have HCC:Hid (∀wr,Below (w.alloc o).heap.size (w.alloc o) wr->wr.cell? ⟨w.heap.size,0,none⟩=some (.int .i64 k)/\wr.cell? ⟨w.heap.size,1,none⟩=some (.string ⟨wd.toArray⟩)/\wr.cell? ⟨w.heap.size,2,none⟩=some (.slice ao l.length cap)):=zA (fun wr hb=>by
   have h:=box_keptQ hb;rw[HO.out]at h;exact⟨by simp[World.cell?,h],by simp[World.cell?,h],by simp[World.cell?,h]⟩)
  clear ho;go_enter Tryz.func11,Tryz.ntmps11;go_wp2_with fail;rw[<- HO.out];refine(HC.out _ (HB.out _)).mono ?_;rintro e w2 ⟨rfl,hb2⟩;obtain⟨c0,c1,c2⟩:=HCC.out _ hb2;have HB2:Hid (Below w.heap.size w w2):=zA (below_boxQ hb2);clear hb2;go_wp2_with fail;refine(HP.out _ HB2.out).mono ?_;rintro e w3 ⟨rfl,hb3⟩;go_wp2;go_ret;exact⟨by rw[HE.out];simp;omega,HB2.out.trans (hb3.mono HB2.out.size)⟩
abbrev csZ(z:Int):List Value:=[.int .i64 z]
abbrev IntZ:=SlS csZ 1
theorem getZ{w:World}{g o:Nat}{z:Int}(h:∀(c:Nat) u,(csZ z)[c]?=some u->w.cell? ⟨g,o+c,none⟩=some u):w.cell? ⟨g,o,none⟩=some (.int .i64 z):=h 0 _ rfl
theorem infoZ:(Tryz.prog.info? 3).map (fun i=>(i.zero,i.size,i.bytes))=some (some (.int .i64 0),1,8):=by kernel_rfl
theorem below_drewN{B:Nat}{a w:World}(h:Below B a w)(n:Nat):Below B a (w.drewN n):=⟨h.os,h.tape,h.output,h.size,h.block⟩
end Go.Proofs.YtkbgmcmcpbegjabGreatDoor
