/- CSum, CRSum. -/
import Derived.Test.YtjoddkeamboeoaaMG2
set_option maxRecDepth 100000
namespace Go.Proofs.Ytjoddkeamboeoaa
open Go.RowKit
theorem crc_take_succ(a:Nat)(l:List UInt8)(i:Nat)(x:UInt8)(h:l[i]?=some x):crc a (l.take (i+1))=stepC (crc a (l.take i)) x:=by
 rw[zW,h,crc_append];rfl
theorem data_at(s:ByteArray)(i:Nat)(h:i<s.size):s.data.toList[i]?=some (s[i]'h):=by
 have:i<s.data.toList.length:=by rw[Array.length_toList];exact h
 rw[zD this];rfl
theorem data_len(s:ByteArray):s.data.toList.length=s.size:=by rw[Array.length_toList];rfl
set_option maxHeartbeats 4000000 in
theorem sum_any(s:ByteArray)(w:World)(hs:s.size<=140737488351232):
 Calls Try.prog 49 #[.string s] w fun e w'=>e=.returned (.int .i64 (sumN s.data.toList:Nat))/\Below w.heap.size w w':=by
 obtain⟨hv,hsz⟩:=zero_of_info infoArr;rw[<- tabC_zero]at hv;have HZ:Hid ((Try.prog.info? 116).map (·.size)=some (tabC 256).size):=by rw[tabC_size];exact hsz
 have H1:Hid ((tabC 256).all (·.oneCell')=true):=tabC_one 256;have HE:Hid ((tabC 0).size=(tabC 256).size):=by rw[tabC_size,tabC_size];exact rfl
 clear hsz;go_enter Try.func49,Try.ntmps49;go_wp2_with fail;refine(shiftedOut_any w).mono ?_;rintro e w1 ⟨rfl,hw1⟩;have hbel:Below w.heap.size w (w1.alloc (.cells (tabC 256) 116)):=by
  rw[hw1];exact(((zB _ _).alloc (zC _) _).alloc (by simp) _).alloc (by simp;omega) _
 clear hw1;have HU:=chid (heap_alloc_last w1 (.cells (tabC 0) 116));have HR:=chid (World.setRow_alloc_new w1 (tabC 0) (tabC 256) 116);go_wp2_with (refine wpList_store_row rfl 116 _ _ rfl w1.heap.size (tabC 256) rfl rfl 116 (tabC 0) HU.out HZ.out HE.out H1.out HR.out ?_);have hcells:∀j,j<256->(w1.alloc (.cells (tabC 256) 116)).cell? ⟨w1.heap.size,j,none⟩=some (.int .u32 ((tabN j:Nat):Int)):=fun j hj=>by
  rw[World.cell?_alloc_at _ _ _ _ rfl,tabC_at 256 j hj,if_pos hj]
 have HC:=chid hcells;clear hcells hv HZ H1 HE HU HR;generalize w1.alloc (.cells (tabC 256) 116)=V at*;generalize w1.heap.size=g at*;go_loop [4,9] (fun s4 s9=>∃i:Nat,i<=s.size/\s4=.int .u32 ((crc 4294967295 (s.data.toList.take i):Nat):Int)/\s9=.int .i64 i) (fun _ s9=>s.size-(intOf s9).toNat)
 case atStart=>exact⟨0,by omega,rfl,rfl⟩
 case round=>
  obtain⟨i,hi,rfl,rfl⟩:=hrel;have hnl:=crc_lt (s.data.toList.take i) 4294967295 (by omega);by_cases hlt:i<s.size
  . obtain⟨x,hx⟩:∃x:UInt8,s[i]'hlt=x:=⟨_,rfl⟩
    have hxl:=crc_take_succ 4294967295 s.data.toList i x (by rw[data_at s i hlt,hx]);obtain⟨n,hn⟩:∃n,n=crc 4294967295 (s.data.toList.take i):=⟨_,rfl⟩
    rw[<- hn]at hxl hnl ⊢;have HX:=chid hxl;clear hxl hn;have hxb:=UInt8.toNat_lt x;have hb1:bits .xor .u8 ((n:Int)/16777216) (x.toNat:Int)=((n/16777216%256 ^^^ x.toNat:Nat):Int):=by
     have:=u8_xor_nat (n/16777216%256) x.toNat (by omega) (by omega);rw[<- this,show ((n/16777216%256:Nat):Int)=(n:Int)/16777216 by omega]
    obtain⟨y,hy⟩:∃y,y=n/16777216%256 ^^^ x.toNat:=⟨_,rfl⟩
    have hyl:y<256:=by rw[hy];exact Nat.xor_lt_two_pow (n:=8) (by omega) (by omega)
    have hst:=stepC_tab n hnl x;rw[<- hy]at hb1 hst;have hc:=HC.out y hyl;have htl:=tabN_lt y;have hb2:bits .xor .u32 ((n:Int)*256%4294967296) ((tabN y:Nat):Int)=((stepC n x:Nat):Int):=by
     have:=u32_xor_nat (n*256%4294967296) (tabN y) (by omega) htl;rw[<- hst]at this;exact this
    clear hst hy;go_wp2;go_round
    case rel=>exact⟨i+1,by omega,by rw[HX.out],by go_num⟩
    case measure=>simp[intOf];omega
  . obtain rfl:i=s.size:=by omega
    rw[zI (by rw[data_len];exact zC _)]at hnl ⊢;have hb:bits .xor .u32 ((crc 4294967295 s.data.toList:Nat):Int) 4294967295=((sumN s.data.toList:Nat):Int):=by
     have:=u32_xor_nat (crc 4294967295 s.data.toList) 4294967295 hnl (by omega);exact this
    have hsl:=sumN_lt s.data.toList;go_wp2;go_ret;exact⟨rfl,hbel⟩
def twK:Nat->Nat->Nat
 |0,m=>m
 |k+1,m=>tw (twK k m)
theorem twK_eight(m:Nat):twK 8 m=tw8 m:=rfl
theorem twK_lt(m:Nat)(h:m<4294967296):∀k,twK k m<4294967296
 |0=>h
 |_+1=>tw_lt _
theorem ofInt_i64(a:Nat)(ha:a<18446744073709551616):(BitVec.ofInt 64 (a:Int)).toNat=a:=by
 rw[BitVec.ofInt_natCast,BitVec.toNat_ofNat];exact Nat.mod_eq_of_lt (by omega)
theorem i64_xor_nat(a b:Nat)(ha:a<9223372036854775808)(hb:b<9223372036854775808):bits .xor .i64 (a:Int) (b:Int)=((a ^^^ b:Nat):Int):=by
 have hx:a ^^^ b<2^63:=Nat.xor_lt_two_pow (by omega) (by omega);show IntKind.i64.wrap ((BitVec.ofInt 64 (a:Int) ^^^ BitVec.ofInt 64 (b:Int)).toNat:Int)=_;rw[BitVec.toNat_xor,ofInt_i64 a (by omega),ofInt_i64 b (by omega),IntKind.wrap_i64];omega
set_option maxHeartbeats 4000000 in
theorem rSum_any(s:ByteArray)(w:World)(hs:s.size<=140737488351232):
 Calls Try.prog 53 #[.string s] w fun e w'=>e=.returned (.int .i64 (sumN s.data.toList:Nat))/\w'=w:=by
 go_enter Try.func53,Try.ntmps53;go_wp2_with fail;go_loop [3,4] (fun s3 s4=>∃i:Nat,i<=s.size/\s3=.int .i64 ((crc 4294967295 (s.data.toList.take i):Nat):Int)/\s4=.int .i64 i) (fun _ s4=>s.size-(intOf s4).toNat)
 case atStart=>exact⟨0,by omega,rfl,rfl⟩
 case round=>
  obtain⟨i,hi,rfl,rfl⟩:=hrel;have hnl:=crc_lt (s.data.toList.take i) 4294967295 (by omega);by_cases hlt:i<s.size
  . obtain⟨x,hx⟩:∃x:UInt8,s[i]'hlt=x:=⟨_,rfl⟩
    have hxl:=crc_take_succ 4294967295 s.data.toList i x (by rw[data_at s i hlt,hx]);obtain⟨n,hn⟩:∃n,n=crc 4294967295 (s.data.toList.take i):=⟨_,rfl⟩
    rw[<- hn]at hxl hnl ⊢;have HX:=chid hxl;clear hxl hn;have hxb:=UInt8.toNat_lt x;have hb1:bits .xor .i64 (n:Int) ((x.toNat:Int)*16777216)=((n ^^^ x.toNat*16777216:Nat):Int):=by
     have:=i64_xor_nat n (x.toNat*16777216) (by omega) (by omega);exact this
    obtain⟨m,hm⟩:∃m,m=n ^^^ x.toNat*16777216:=⟨_,rfl⟩
    have hml:m<4294967296:=by rw[hm];exact xor_lt32 hnl (byte_shift_lt x)
    have HS:Hid (stepC n x=tw8 m):=by rw[hm];exact rfl
    rw[<- hm]at hb1;clear hm;go_wp2_with fail;go_loop [3,5] (fun s3 s5=>∃k:Nat,k<=8/\s3=.int .i64 ((twK k m:Nat):Int)/\s5=.int .i64 k) (fun _ s5=>8-(intOf s5).toNat)
    case atStart=>exact⟨0,by omega,rfl,rfl⟩
    case round=>
     obtain⟨k,hk,rfl,rfl⟩:=hrel;have hkl:=twK_lt m hml k;by_cases hk8:k<8
     . obtain⟨z,hz⟩:∃z,z=twK k m:=⟨_,rfl⟩
       have HK:Hid (twK (k+1) m=tw z):=by rw[hz];exact rfl
       rw[<- hz]at hkl ⊢;clear hz;by_cases hh:2147483648<=z
       . have hb2:bits .xor .i64 (2*(z:Int)-4294967295-1) 79764919=((tw z:Nat):Int):=by
          have:=i64_xor_nat (2*z-4294967296) 79764919 (by omega) (by omega);rw[<- tw_high z hh hkl]at this;have e:((2*z-4294967296:Nat):Int)=2*(z:Int)-4294967295-1:=by omega
          rw[e]at this;exact this
         go_wp2;go_round
         case rel=>exact⟨k+1,by omega,by rw[HK.out],by go_num⟩
         case measure=>simp[intOf];omega
       . have hb2:((tw z:Nat):Int)=2*(z:Int):=by rw[tw_low z (by omega)];omega
         have HB:=chid hb2;clear hb2;go_wp2;go_round
         case rel=>exact⟨k+1,by omega,by rw[HK.out,HB.out],by go_num⟩
         case measure=>simp[intOf];omega
     . obtain rfl:k=8:=by omega
       rw[twK_eight,<- HS.out]at*;go_wp2;go_round
       case rel=>exact⟨i+1,by omega,by rw[HX.out],by go_num⟩
       case measure=>simp[intOf];omega
  . obtain rfl:i=s.size:=by omega
    rw[zI (by rw[data_len];exact zC _)]at hnl ⊢;have hb:bits .xor .i64 ((crc 4294967295 s.data.toList:Nat):Int) 4294967295=((sumN s.data.toList:Nat):Int):=by
     have:=i64_xor_nat (crc 4294967295 s.data.toList) 4294967295 (by omega) (by omega);exact this
    go_wp2;go_ret;exact⟨rfl,rfl⟩
end Go.Proofs.Ytjoddkeamboeoaa
