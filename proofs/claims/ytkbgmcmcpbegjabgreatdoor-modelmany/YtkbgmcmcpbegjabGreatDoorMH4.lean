/- VAre. -/
import Derived.Test.YtkbgmcmcpbegjabGreatDoorMH1
set_option maxRecDepth 100000
namespace Go.Proofs.YtkbgmcmcpbegjabGreatDoor
open Go.RowKit
set_option maxHeartbeats 4000000 in
theorem rIs_any(s:ByteArray)(w:World)(hs:s.size<=9223372036854775807):
 Calls Tryz.prog 47 #[.string s] w fun e w'=>e=.returned (.bool (isW s.data.toList))/\w'=w:=by
 have HL:=zA (data_len s);go_enter Tryz.func47,Tryz.ntmps47;go_wp2;go_loopw [3] (fun c wr=>∃i:Nat,i<=s.size/\c=.int .i64 i/\(s.data.toList.take i).all mayB=true/\wr=w) (fun c _=>s.size-(intOf c).toNat)
 case atStart=>exact⟨0,zR _,rfl,rfl,rfl⟩
 case round=>
  obtain⟨i,hi,rfl,hall,rfl⟩:=hrel;have HA:=zA hall;clear hall;by_cases hlt:i<s.size
  . have hltI:(i:Int)<(s.size:Int):=by omega
    obtain⟨x,hx⟩:∃x:UInt8,s[i]'hlt=x:=⟨_,rfl⟩
    have HX:=zA (by rw[data_at s i hlt,hx]:s.data.toList[i]?=some x);have hxb:=UInt8.toNat_lt x;obtain⟨n,hn⟩:∃n,x.toNat=n:=⟨_,rfl⟩
    have HN:Hid (∀m,mayN n=m->mayB x=m):=zA (fun m hm=>by rw[mayB,hn];exact hm);rw[hn]at hxb;rcases byte_cases n with h|h|h|h|h|h|h|h
    . have e1:¬(n:Int)=45:=by omega
      have e2:¬(n:Int)=58:=by omega
      have e3:((n:Int)!=45)=true:=by rw[bne_iff_ne];exact e1
      have e4:((n:Int)!=58)=true:=by rw[bne_iff_ne];exact e2
      have HM:=zA (HN.out _ (mayN_no (by omega)));go_wp2;go_ret;exact⟨by rw[all_not HX.out HM.out];rfl,rfl⟩
    . subst h;have HM:=zA (HN.out _ (mayN_yes (by omega)));go_wp2;go_roundw
      case rel=>exact⟨i+1,by omega,by go_num,all_take_succ HX.out HA.out HM.out,by trivial⟩
      case measure=>simp[intOf];omega
    . have e1:¬(n:Int)=45:=by omega
      have e2:¬(n:Int)=58:=by omega
      have e3:((n:Int)!=45)=true:=by rw[bne_iff_ne];exact e1
      have e4:((n:Int)!=58)=true:=by rw[bne_iff_ne];exact e2
      have HM:=zA (HN.out _ (mayN_no (by omega)));go_wp2;go_ret;exact⟨by rw[all_not HX.out HM.out];rfl,rfl⟩
    . have f1:¬ 57<(n:Int):=by omega
      have HM:=zA (HN.out _ (mayN_yes (by omega)));go_wp2;go_roundw
      case rel=>exact⟨i+1,by omega,by go_num,all_take_succ HX.out HA.out HM.out,by trivial⟩
      case measure=>simp[intOf];omega
    . subst h;have HM:=zA (HN.out _ (mayN_yes (by omega)));go_wp2;go_roundw
      case rel=>exact⟨i+1,by omega,by go_num,all_take_succ HX.out HA.out HM.out,by trivial⟩
      case measure=>simp[intOf];omega
    . have e1:¬(n:Int)=45:=by omega
      have e2:¬(n:Int)=58:=by omega
      have e3:((n:Int)!=45)=true:=by rw[bne_iff_ne];exact e1
      have e4:((n:Int)!=58)=true:=by rw[bne_iff_ne];exact e2
      have f1:57<(n:Int):=by omega
      have HM:=zA (HN.out _ (mayN_no (by omega)));go_wp2;go_ret;exact⟨by rw[all_not HX.out HM.out];rfl,rfl⟩
    . have f1:¬ 122<(n:Int):=by omega
      have HM:=zA (HN.out _ (mayN_yes (by omega)));go_wp2;go_roundw
      case rel=>exact⟨i+1,by omega,by go_num,all_take_succ HX.out HA.out HM.out,by trivial⟩
      case measure=>simp[intOf];omega
    . have e1:¬(n:Int)=45:=by omega
      have e2:¬(n:Int)=58:=by omega
      have e3:((n:Int)!=45)=true:=by rw[bne_iff_ne];exact e1
      have e4:((n:Int)!=58)=true:=by rw[bne_iff_ne];exact e2
      have f1:57<(n:Int):=by omega
      have f2:122<(n:Int):=by omega
      have HM:=zA (HN.out _ (mayN_no (by omega)));go_wp2;go_ret;exact⟨by rw[all_not HX.out HM.out];rfl,rfl⟩
  . obtain rfl:i=s.size:=by omega
    have hA:=HA.out;rw[zK (by rw[HL.out];exact zD _)]at hA;by_cases h1:1<=s.size
    . by_cases h2:s.size<=16
      . have h1I:1<=(s.size:Int):=by omega
        have h2I:(s.size:Int)<=16:=by omega
        have HW:Hid (isW s.data.toList=true):=zA (by simp only[isW,HL.out,hA];simp;omega);clear hA;go_wp2;go_ret;exact⟨by rw[HW.out];rfl,rfl⟩
      . have HW:Hid (isW s.data.toList=false):=zA (by simp[isW,HL.out];omega);have h1I:1<=(s.size:Int):=by omega
        have h2I:¬(s.size:Int)<=16:=by omega
        clear hA;go_wp2;go_ret;exact⟨by rw[HW.out];rfl,rfl⟩
    . have h1I:¬ 1<=(s.size:Int):=by omega
      have HW:Hid (isW s.data.toList=false):=zA (by simp[isW,HL.out];omega);clear hA;go_wp2;go_ret;exact⟨by rw[HW.out];rfl,rfl⟩
end Go.Proofs.YtkbgmcmcpbegjabGreatDoor
