/- MPut. -/
import Derived.Test.YtkbgmcmcpbegjaaGreatDoorMG27
set_option maxRecDepth 100000
namespace Go.Proofs.YtkbgmcmcpbegjaaGreatDoor
open Go.RowKit Go.Shelf
section
variable {α:Type} {enc:α->List Value} {kk:Nat}
end
def placeL(L:List Wd)(s:Wd):Int:=match L.findIdx? (fun x=>decide (x=s))with|some i=>(i:Int)|none=> -1
theorem place_some{L:List Wd}{s:Wd}{i:Nat}(h:L[i]?=some s)(hn:∀j,j<i->L[j]?≠some s):placeL L s=i:=by
 have:L.findIdx? (fun x=>decide (x=s))=some i:=by
  rw[List.findIdx?_eq_some_iff_getElem];have hi:=(zF.1 h).1;have he:=(zF.1 h).2;refine⟨hi,by simp[he],fun j hj=>?_⟩;have:=hn j hj;rw[zB (by omega)]at this;simpa using this
 rw[placeL,this]
theorem place_none{L:List Wd}{s:Wd}(h:s∉L):placeL L s= -1:=by
 have:L.findIdx? (fun x=>decide (x=s))=none:=by
  rw[List.findIdx?_eq_none_iff];intro x hx;have:x≠s:=fun e=>h (e▸hx)
  simpa using this
 rw[placeL,this]
set_option maxHeartbeats 2000000 in
theorem rPlace_any{S:Nat->Prop}{w:World}{v:Value}{L:List Wd}(h:TxtS S w v L)(hl:L.length<=1000000)(s:Wd):
 Calls Tryz.prog 44 #[v,.string ⟨s.toArray⟩] w fun e w'=>e=.returned (.int .i64 (placeL L s))/\w'=w:=by
 obtain⟨la,lc,rfl⟩:=h.slice;have H:=zA h;obtain⟨n,hn⟩:∃n,n=L.length:=⟨_,rfl⟩
 rw[<- hn]at H hl ⊢;have HN:=zA hn;obtain⟨r,hr⟩:∃r,r=placeL L s:=⟨_,rfl⟩
 rw[<- hr];have HR:=zA hr;clear h hn hr;go_enter Tryz.func44,Tryz.ntmps44;go_wp2_with fail;go_loopw [5] (fun c wr=>∃k:Nat,k<=n/\c=.int .i64 k/\(∀j,j<k->L[j]?≠some s)/\wr=w) (fun c _=>n-(intOf c).toNat)
 case atStart=>exact⟨0,zO _,rfl,fun j hj=>absurd hj (by omega),rfl⟩
 case round=>
  obtain⟨k,hk,rfl,hall,rfl⟩:=hrel;have HAll:=zA hall;clear hall;by_cases hlt:k<n
  . have hltI:(k:Int)<(n:Int):=by omega
    obtain⟨x,hx⟩:∃x,L[k]?=some x:=⟨_,zB (by rw[<- HN.out];exact hlt)⟩
    obtain⟨g,off,hla,_,_,hcell⟩:=H.out.get hx;subst hla;have q0:=hcell 0 _ rfl;rw[yD,yA]at q0;have HX:=zA hx;clear hx hcell;by_cases exs:x=s
    . have HT:Hid (r=(k:Int)):=zA (by rw[HR.out];exact place_some (by rw[HX.out,exs]) HAll.out);subst exs;go_wp2;go_ret;exact⟨by rw[HT.out];rfl,rfl⟩
    . obtain⟨e1,e2⟩:=not_bothW exs;have HA3:Hid (∀j,j<k+1->L[j]?≠some s):=zA (fun j hj=>by
       by_cases e:j=k
       . subst e;rw[HX.out];intro h;injection h with h;exact exs h
       . exact HAll.out j (by omega))
      clear exs;go_wp2;go_roundw
      case rel=>exact⟨k+1,by omega,by go_num,HA3.out,by trivial⟩
      case measure=>simp[intOf];omega
  . have hltI:¬(k:Int)<(n:Int):=by omega
    have HT:Hid (r= -1):=zA (by
     rw[HR.out];refine place_none (fun h=>?_);obtain⟨j,hj⟩:=List.getElem?_of_mem h;have:=(zF.1 hj).1;rw[<- HN.out]at this;exact HAll.out j (by omega) hj)
    go_wp2;go_ret;exact⟨by rw[HT.out];rfl,rfl⟩
end Go.Proofs.YtkbgmcmcpbegjaaGreatDoor
