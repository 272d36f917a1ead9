/- QRTree. -/
import Derived.Test.YtkbgmcmcpbegjaaGreatDoorMG10
import Derived.Test.YtkbgmcmcpbegjaaGreatDoorMG2
set_option maxRecDepth 100000
namespace Go.Proofs.YtkbgmcmcpbegjaaGreatDoor
open Go.RowKit
theorem foldl_max_ge:∀(l:List Nat) (m:Nat),m<=l.foldl max m
 |[],_=>zD _
 |x::l,m=>zT (Nat.le_max_left m x) (foldl_max_ge l (max m x))
theorem foldl_max_mem:∀(l:List Nat) (m x:Nat),x∈l->x<=l.foldl max m
 |y::l,m,x,h=>by
  rw[yM];rcases yB.1 h with rfl|h
  . exact zT (Nat.le_max_right m x) (foldl_max_ge l _)
  . exact foldl_max_mem l _ x h
theorem high_kid{k:Int}{wd:List UInt8}{l:List Pt}{x:Pt}(h:x∈l):high x+1<=high ⟨k,wd,l⟩:=by
 rw[high_mk];have:=foldl_max_mem (l.map high) 0 (high x) (zW h);omega
theorem max_take{l:List Vt}{i:Nat}{x:Vt}(h:l[i]?=some x):(((l.map Vt.pt).take (i+1)).map high).foldl max 0=max ((((l.map Vt.pt).take i).map high).foldl max 0) (high x.pt):=by
 rw[sum_take h,List.foldl_append];rfl
set_option maxHeartbeats 4000000 in
theorem rDeep_any{S:Nat->Prop}:∀(t:Vt) (w:World),high t.pt<=4611686018427387903->VOk S w t->
 Calls Tryz.prog 23 #[encN t] w fun e w'=>e=.returned (.int .i64 (high t.pt:Int))/\Below w.heap.size w w':=by
 refine Vt.ind (fun k wd v l ih=>?_);intro w hlv hok;obtain⟨h1,h2,h3,h4⟩:=vok_mk.1 hok;obtain⟨ao,cap,hv⟩:=h1.slice;subst hv;have H1:=zA h1;have H4:=zA h4;have IH:=zA ih;rw[Vt.pt_mk]at hlv ⊢;obtain⟨n,hn⟩:∃n,n=l.length:=⟨_,rfl⟩
 rw[<- hn]at h3 H1 ⊢;have HN:=zA hn;have HLV:=zA hlv;obtain⟨ans,hans⟩:∃a,a=high ⟨k,wd,l.map Vt.pt⟩:=⟨_,rfl⟩
 rw[<- hans]at hlv ⊢;have HR:Hid (ans=((l.map Vt.pt).map high).foldl max 0+1):=zA (by rw[hans,high_mk]);obtain⟨o,ho⟩:∃o,o=Obj.cells #[.int .i64 k,.string ⟨wd.toArray⟩,.slice ao n cap] 25:=⟨_,rfl⟩
 have HO:=zA ho;have HC:Hid (∀wr,Below (w.alloc o).heap.size (w.alloc o) wr->wr.cell? ⟨w.heap.size,2,none⟩=some (.slice ao n cap)):=zA (fun wr hb=>by
  have h:=box_keptQ hb;rw[HO.out]at h;simp[World.cell?,h])
 clear h1 h4 ih hok hn hans ho;go_enter Tryz.func23,Tryz.ntmps23;go_wp2_with fail;go_loopw [3,4] (fun s c wr=>∃i z:Nat,i<=n/\c=.int .i64 i/\s=.int .i64 z/\z<=4611686018427387903/\z=(((l.map Vt.pt).take i).map high).foldl max 0/\Below (w.alloc o).heap.size (w.alloc o) wr) (fun _ c _=>n-(intOf c).toNat)
 case atStart=>exact⟨0,0,zO _,rfl,rfl,by omega,by simp,by rw[HO.out];exact zE _ _⟩
 case round=>
  obtain⟨i,z,hi,rfl,rfl,hz,hzs,hbq⟩:=hrel;have HZ:=zA hzs;have HBQ:=zA hbq;have c2:=HC.out _ hbq;clear hzs hbq;by_cases hlt:i<n
  . have hltI:(i:Int)<(n:Int):=by omega
    obtain⟨x,hx⟩:∃x,l[i]?=some x:=⟨_,zB (by rw[<- HN.out];exact hlt)⟩
    obtain⟨g,off,rfl,_,_,hcell⟩:=(H1.out.below (below_boxQ HBQ.out)).get hx;obtain⟨q0,q1,q2⟩:=getN hcell;have hxm:=zC hx;have HX:=zA hx;have hkid:=high_kid (k:=k) (wd:=wd) (zW (f:=Vt.pt) hxm);have HC2:=zA (IH.out x hxm wr (by have:=HLV.out;omega) ((H4.out x hxm).below (below_boxQ HBQ.out)));obtain⟨p,hp⟩:∃p,p=high x.pt:=⟨_,rfl⟩
    rw[<- hp]at HC2 hkid;have HP:=zA hp;have hpb:p<=4611686018427387903:=by have:=HLV.out;omega
    have HS2:Hid (max z p=(((l.map Vt.pt).take (i+1)).map high).foldl max 0):=zA (by rw[max_take HX.out,<- HZ.out,<- HP.out]);obtain⟨xa,xc,hxv⟩:=(H4.out x hxm).parts.1.slice;obtain⟨xn,hxn⟩:∃n,n=x.kids.length:=⟨_,rfl⟩
    rw[<- hxn]at hxv;obtain⟨xk,xw,xv,xl⟩:=x;dsimp only at q0 q1 q2 hxv;subst hxv;clear hxn hx hcell hp hxm hkid;go_wp2_with fail;refine HC2.out.mono ?_;rintro e w2 ⟨rfl,hb2⟩;have HB2:=zA (HBQ.out.trans (hb2.mono HBQ.out.size));clear hb2;go_wp2;go_roundw
    case rel=>exact⟨i+1,max z p,by omega,by go_num,by go_num,by omega,HS2.out,HB2.out⟩
    case measure=>simp[intOf];omega
  . have hin:i=n:=by omega
    have hltI:¬(i:Int)<(n:Int):=by omega
    have HE:Hid (ans=z+1):=zA (by
     rw[HR.out];have:=HZ.out;rw[zJ (by rw[zH,<- HN.out];omega)]at this;rw[<- this])
    clear hin;go_wp2;go_ret;exact⟨by rw[HE.out];rfl,below_boxQ HBQ.out⟩
end Go.Proofs.YtkbgmcmcpbegjaaGreatDoor
