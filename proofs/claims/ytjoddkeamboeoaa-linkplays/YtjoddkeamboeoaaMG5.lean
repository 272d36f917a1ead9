/- Num, Math2, RNum, Laws1. -/
import Derived.Test.YtjoddkeamboeoaaMG4
import Derived.Laws.BitsAllLaws
import Derived.OpenShut
set_option maxRecDepth 100000
namespace Go.Proofs.Ytjoddkeamboeoaa
open Go.RowKit
theorem or_byte(v:Nat)(b:UInt8)(hv:v<72057594037927936):bits BinOp.or IntKind.u64 ((v:Int)*256) (IntKind.u64.wrap (b.toNat:Int))=((v*256+b.toNat:Nat):Int):=by
 have hb:b.toNat<256:=b.toNat_lt;rw[IntKind.wrap_u64,show (b.toNat:Int)%18446744073709551616=((b.toNat:Nat):Int) by omega,show (v:Int)*256=((v*256:Nat):Int) by simp];rw[u64_or_nat _ _ (by omega) (by omega)];have:=Nat.two_pow_add_eq_or_of_lt (i:=8) (b:=b.toNat) (by omega) v;rw[Nat.mul_comm v 256];rw[show (2:Nat)^8=256 from rfl]at this;rw[this]
set_option maxHeartbeats 400000 in
theorem highestFirst_any(s:ByteArray)(w:World)(hs:s.size<=8):
 Calls Try.prog 97 #[.string s] w fun e w'=>e=.returned (.int .u64 (beVal s.data.toList))/\w'=w:=by
 go_enter Try.func97,Try.ntmps97;go_wp2;go_loop [3,7] (fun v i=>∃k:Nat,k<=s.size/\i=.int .i64 k/\v=.int .u64 (beVal (s.data.toList.take k))) (fun _ i=>s.size-(intOf i).toNat)
 case atStart=>exact⟨0,zO _,rfl,rfl⟩
 case round=>
  obtain⟨k,hk,rfl,rfl⟩:=hrel;have hv:=beVal_lt (s.data.toList.take k);rw[zQ,Nat.min_eq_left (by simpa using hk)]at hv;by_cases hlt:k<s.size
  . have h7:=pow8_le (show k<=7 by omega);have hs1:beVal (s.data.toList.take (k+1))=beVal (s.data.toList.take k)*256+s[k].toNat:=by rw[take_snoc s k hlt,beVal_snoc]
    have HS:=zA hs1;generalize hvv:beVal (s.data.toList.take k)=v at*;have hv2:v<72057594037927936:=by omega
    clear hs1 hvv hv h7;go_wp2;go_round
    case rel=>exact⟨k+1,by omega,by go_num,by rw[HS.out,or_byte v s[k] hv2]⟩
    case measure=>simp[intOf];omega
  . have hfin:s.data.toList.take k=s.data.toList:=zI (by simp;omega);rw[hfin];clear hfin hv;go_wp2;go_ret;exact⟨rfl,rfl⟩
def numV(l:List UInt8):Value:=.tuple #[.int .i64 ((numP l).1:Int),.int .i64 ((numP l).2.1:Int),.int .i64 ((numP l).2.2:Int)]
theorem cons_facts{s:ByteArray}{c:UInt8}{r:List UInt8}(hL:s.data.toList=c::r):
 s.size=r.length+1/\s.toList.isEmpty=false/\∀h:0<s.size,s[0]'h=c:=by
 refine⟨by rw[<- s.size_data,<- Array.length_toList,hL];rfl,by rw[ByteArray.toList_eq,hL];rfl,fun h=>?_⟩;show s.data[0]'h=c;rw[<- Array.getElem_toList];simp[hL]
theorem cons_facts2{s:ByteArray}{c x:UInt8}{r:List UInt8}(hL:s.data.toList=c::x::r):∀h:1<s.size,s[1]'h=x:=by
 intro h;show s.data[1]'h=x;rw[<- Array.getElem_toList];simp[hL]
theorem extract_one{s:ByteArray}{c:UInt8}{r:List UInt8}(hL:s.data.toList=c::r)(k:Nat):(s.extract 1 (1+k)).data.toList=r.take k:=by
 rw[Lib.extract_data,hL];simp
set_option maxHeartbeats 400000 in
theorem num_any(s:ByteArray)(w:World)(hs:s.size<=maxLen):
 Calls Try.prog 90 #[.string s] w fun e w'=>e=.returned (numV s.data.toList)/\w'=w:=by
 unfold maxLen at hs;cases hL:s.data.toList with
 |nil=>
  have h0:s.toList.isEmpty=true:=by rw[ByteArray.toList_eq,hL];rfl
  clear hL;go_enter Try.func90,Try.ntmps90;go_wp2;go_ret3;exact⟨rfl,rfl⟩
 |cons c r=>
  obtain⟨hsz,hne,h0⟩:=cons_facts hL;have hp:0<s.size:=by omega
  have hc0:=h0 hp;have hsI:(s.size:Int)=r.length+1:=by omega
  have HL:=zA hL;have HZ:=zA hsI;have hlt:=c.toNat_lt;clear hL h0 hsI;have HZ':=zA hsz;by_cases hA:8<c.toNat
  . have hV:=zA (numP_gt c r hA);have hA':(8:Int)<c.toNat:=by omega
    go_enter Try.func90,Try.ntmps90;go_wp2;go_ret3;exact⟨by rw[numV,hV.out];rfl,rfl⟩
  . by_cases hB:r.length<c.toNat
    . have hV:=zA (numP_cut c r hA hB);go_enter Try.func90,Try.ntmps90;go_wp2;go_ret3;exact⟨by rw[numV,hV.out];rfl,rfl⟩
    . by_cases hC:c.toNat=0
      . have hb0:beVal (r.take c.toNat)=0:=by rw[hC];rfl
        have hV:=zA (numP_ok c r hA hB (by omega) (by omega));have HC:=zA hC;have hB0:=zA hb0;have hC':(c.toNat:Int)<=0:=by omega
        have hC2:((c.toNat:Int)==0)=true:=by simp[hC]
        clear hC hb0;go_enter Try.func90,Try.ntmps90;go_wp2_with fail;refine(highestFirst_any _ _ (by simp[ByteArray.size_extract];omega)).mono ?_;rintro e w' ⟨rfl,rfl⟩;rw[extract_one HL.out,hB0.out];go_wp2;go_ret3;exact⟨by rw[numV,hV.out,hB0.out,HC.out];rfl,rfl⟩
      . have hpos:0<c.toNat:=by omega
        match r,HL,HZ,HZ',hsz,hB with
        |[],_,_,_,_,hB=>simp at hB;omega
        |x::r',HL,HZ,HZ',hsz,hB=>
         have hp1:1<s.size:=by rw[hsz];simp
         have hx:=cons_facts2 HL.out hp1;by_cases hD:x=0
         . subst hD;have hV:=zA (numP_zero c (0::r') hA hB hpos rfl);go_enter Try.func90,Try.ntmps90;go_wp2_with fail;refine(highestFirst_any _ _ (by simp[ByteArray.size_extract];omega)).mono ?_;rintro e w' ⟨rfl,rfl⟩;rw[extract_one HL.out];go_wp2;go_ret3;exact⟨by rw[numV,hV.out];rfl,rfl⟩
         . have hxn:((x.toNat:Int)==0)=false:=by
            rw[beq_eq_false_iff_ne];intro h;apply hD;apply UInt8.toNat_inj.1;simpa using h
           by_cases hE:9223372036854775807<beVal ((x::r').take c.toNat)
           . have hV:=zA (numP_big c (x::r') hA hB hE);go_enter Try.func90,Try.ntmps90;go_wp2_with fail;refine(highestFirst_any _ _ (by simp[ByteArray.size_extract];omega)).mono ?_;rintro e w' ⟨rfl,rfl⟩;rw[extract_one HL.out];generalize hv:beVal ((x::r').take c.toNat)=v at*;clear hv;go_wp2;go_ret3;exact⟨by rw[numV,hV.out];rfl,rfl⟩
           . have hV:=zA (numP_ok c (x::r') hA hB (by simp[hD]) hE);go_enter Try.func90,Try.ntmps90;go_wp2_with fail;refine(highestFirst_any _ _ (by simp[ByteArray.size_extract];omega)).mono ?_;rintro e w' ⟨rfl,rfl⟩;rw[extract_one HL.out];generalize hv:beVal ((x::r').take c.toNat)=v at*;clear hv;go_wp2;go_ret3;exact⟨by rw[numV,hV.out];rfl,rfl⟩
end Go.Proofs.Ytjoddkeamboeoaa
namespace Go.Proofs.Ytjoddkeamboeoaa
theorem beVal_append(a b:List UInt8):beVal (a++b)=beVal a*256^b.length+beVal b:=by
 unfold beVal;rw[List.foldl_append,beVal_cons_aux];rfl
theorem beVal_take_le(l:List UInt8){j k:Nat}(h:j<=k):beVal (l.take j)<=beVal (l.take k):=by
 have e:l.take k=l.take j++(l.take k).drop j:=by
  rw[show l.take j=(l.take k).take j by rw[List.take_take,Nat.min_eq_left h],List.take_append_drop]
 rw[e,beVal_append];have:0<256^((l.take k).drop j).length:=Nat.pow_pos (by omega);have:=Nat.le_mul_of_pos_right (beVal (l.take j)) this;omega
theorem big_iff(x:UInt8)(r:List UInt8)(k:Nat)(hk:0<k)(h8:k<=8)(hl:k<=(x::r).length):
 9223372036854775807<beVal ((x::r).take k)↔k=8/\127<x.toNat:=by
 obtain⟨j,rfl⟩:∃j,k=j+1:=⟨k-1,by omega⟩
 rw[List.take_succ_cons,beVal_cons];have hlen:(r.take j).length=j:=by rw[zQ];simp at hl;omega
 have hb:=beVal_lt (r.take j);rw[hlen]at hb ⊢;have hx:=x.toNat_lt;generalize beVal (r.take j)=v at*;by_cases h7:j=7
 . subst h7;rw[show (256:Nat)^7=72057594037927936 from rfl]at*;omega
 . have hp:256^j<=256^6:=Nat.pow_le_pow_right (by omega) (by omega);rw[show (256:Nat)^6=281474976710656 from rfl]at hp;have hm:x.toNat*256^j<=255*281474976710656:=Nat.mul_le_mul (by omega) hp;constructor
   . intro h;omega
   . intro h;omega
theorem beVal_low(f:Nat):∀n,n<256^f->beVal (lowD f n).reverse=n:=by
 induction f with
 |zero=>intro n h;simp at h;subst h;rfl
 |succ f ih=>
  intro n h;by_cases h0:n=0
  . subst h0;simp[lowD,beVal]
  . rw[lowD_pos _ _ (by omega),List.reverse_cons,beVal_snoc,ih _ (by rw[Nat.div_lt_iff_lt_mul (by omega)];rw[Nat.pow_succ]at h;exact h),UInt8.toNat_ofNat'];omega
theorem low_top(f:Nat):∀n,n<256^f->(lowD f n).getLast?≠some 0:=by
 induction f with
 |zero=>intro n h;simp[lowD]
 |succ f ih=>
  intro n h;by_cases h0:n=0
  . subst h0;simp[lowD]
  . rw[lowD_pos _ _ (by omega)];have hd:n/256<256^f:=by rw[Nat.div_lt_iff_lt_mul (by omega)];rw[Nat.pow_succ]at h;exact h
    have:=ih _ hd;by_cases hq:n/256=0
    . rw[hq,lowD_zero];simp only[List.getLast?_singleton,ne_eq,Option.some.injEq];intro e;have e2:=congrArg UInt8.toNat e;rw[UInt8.toNat_ofNat']at e2;have:(0:UInt8).toNat=0:=rfl;omega
    . cases f with
      |zero=>simp at hd;omega
      |succ f=>
       rw[lowD_pos _ _ (by omega)]at this ⊢;rw[List.getLast?_cons_cons];exact this
theorem numP_numB(n:Nat)(h:n<2^63)(t:List UInt8):numP (numB n++t)=(n,(numB n).length,0):=by
 have hn:n<256^8:=zF h (by decide);have hl:=lowD_le 8 n;have hc:(UInt8.ofNat (lowD 8 n).length).toNat=(lowD 8 n).length:=by rw[UInt8.toNat_ofNat'];omega
 have hb:=beVal_low 8 n hn;have ht:=low_top 8 n hn;have htk:((lowD 8 n).reverse++t).take (UInt8.ofNat (lowD 8 n).length).toNat=(lowD 8 n).reverse:=by
  rw[hc];exact List.take_left' (by simp)
 have e:numB n++t=UInt8.ofNat (lowD 8 n).length::((lowD 8 n).reverse++t):=rfl;rw[e,numP_ok]
 . rw[htk,hb,hc,numB_length]
 . omega
 . rw[hc];simp
 . rw[hc];rintro⟨h0,h1⟩;apply ht;rw[List.getLast?_eq_head?_reverse];rw[List.head?_append]at h1;cases hrev:(lowD 8 n).reverse with
   |nil=>simp at hrev;rw[hrev]at h0;simp at h0
   |cons y ys=>rw[hrev]at h1;simpa using h1
 . rw[htk,hb];omega
end Go.Proofs.Ytjoddkeamboeoaa
namespace Go.Proofs.Ytjoddkeamboeoaa
open Go.RowKit
theorem byte_of{s:ByteArray}{c:UInt8}{r:List UInt8}(hL:s.data.toList=c::r)(j:Nat)(hj:j<r.length):∀h:j+1<s.size,s[j+1]'h=r[j]:=by
 intro h;show s.data[j+1]'h=r[j];rw[<- Array.getElem_toList];simp[hL]
set_option maxHeartbeats 400000 in
theorem rNum_any(s:ByteArray)(w:World)(hs:s.size<=maxLen):
 Calls Try.prog 84 #[.string s] w fun e w'=>e=.returned (numV s.data.toList)/\w'=w:=by
 unfold maxLen at hs;cases hL:s.data.toList with
 |nil=>
  have h0:s.size=0:=by rw[<- s.size_data,<- Array.length_toList,hL];rfl
  clear hL;go_enter Try.func84,Try.ntmps84;go_wp2;go_ret3;exact⟨rfl,rfl⟩
 |cons c r=>
  obtain⟨hsz,hne,h0⟩:=cons_facts hL;have hp:0<s.size:=by omega
  have hc0:=h0 hp;have HL:=zA hL;have hlt:=c.toNat_lt;clear hL h0 hne;have HZ':=zA hsz;have hn0:((r.length:Int)+1==0)=false:=by rw[beq_eq_false_iff_ne];omega
  by_cases hA:8<c.toNat
  . have hV:=zA (numP_gt c r hA);go_enter Try.func84,Try.ntmps84;go_wp2;go_ret3;exact⟨by rw[numV,hV.out];rfl,rfl⟩
  . by_cases hB:r.length<c.toNat
    . have hV:=zA (numP_cut c r hA hB);go_enter Try.func84,Try.ntmps84;go_wp2;go_ret3;exact⟨by rw[numV,hV.out];rfl,rfl⟩
    . by_cases hC:c.toNat=0
      . have hb0:beVal (r.take c.toNat)=0:=by rw[hC];rfl
        have hV:=zA (numP_ok c r hA hB (by omega) (by omega));have HC:=zA hC;have hB0:=zA hb0;have hC':(c.toNat:Int)<=0:=by omega
        have hC2:((c.toNat:Int)==8)=false:=by rw[beq_eq_false_iff_ne];omega
        have hC3:(c.toNat:Int)<1:=by omega
        clear hC hb0;go_enter Try.func84,Try.ntmps84;go_wp2;refine wp_loop_rounds 1 ?_;rw[rounds_succ];go_wp2;go_ret3;exact⟨by rw[numV,hV.out,hB0.out,HC.out];simp,rfl⟩
      . have hpos:0<c.toNat:=by omega
        match r,HL,HZ',hsz,hB,hn0 with
        |[],_,_,_,hB,_=>simp at hB;omega
        |x::r',HL,HZ',hsz,hB,hn0=>
         have hp1:1<s.size:=by rw[hsz];simp
         have hx:=cons_facts2 HL.out hp1;by_cases hD:x=0
         . subst hD;have hV:=zA (numP_zero c (0::r') hA hB hpos rfl);go_enter Try.func84,Try.ntmps84;go_wp2;go_ret3;exact⟨by rw[numV,hV.out];rfl,rfl⟩
         . have hxn:((x.toNat:Int)==0)=false:=by
            rw[beq_eq_false_iff_ne];intro h;apply hD;apply UInt8.toNat_inj.1;simpa using h
           have hiff:=big_iff x r' c.toNat hpos (by omega) (by omega);by_cases hE:c.toNat=8/\127<x.toNat
           . have hV:=zA (numP_big c (x::r') hA hB (hiff.2 hE));obtain⟨hE1,hE2⟩:=hE;have hE3:((c.toNat:Int)==8)=true:=by rw[hE1];rfl
             clear hiff hE1;go_enter Try.func84,Try.ntmps84;go_wp2;go_ret3;exact⟨by rw[numV,hV.out];rfl,rfl⟩
           . have hV:=zA (numP_ok c (x::r') hA hB (by simp[hD]) (fun h=>hE (hiff.1 h)));have hlim:beVal ((x::r').take c.toNat)<=9223372036854775807:=by
              have:=mt hiff.1 hE;omega
             have HLim:=zA hlim;clear hiff hlim;by_cases hE1:c.toNat=8
             . have hE3:((c.toNat:Int)==8)=true:=by rw[hE1];rfl
               have hE4:x.toNat<=127:=by omega
               have HE1:=zA hE1;clear hE1 hE;go_enter Try.func84,Try.ntmps84;go_wp2;go_loop [6,7] (fun n i=>∃j:Nat,j<=c.toNat/\i=.int .i64 ((j+1:Nat):Int)/\n=.int .i64 (beVal ((x::r').take j))) (fun _ i=>c.toNat+1-(intOf i).toNat)
               case atStart=>exact⟨0,zO _,rfl,rfl⟩
               case round=>
                obtain⟨j,hj,rfl,rfl⟩:=hrel;by_cases hjc:j<c.toNat
                . have hjr:j<(x::r').length:=by omega
                  have hsj:j+1<s.size:=by omega
                  have hby:=byte_of HL.out j hjr hsj;have hst:beVal ((x::r').take (j+1))=beVal ((x::r').take j)*256+((x::r')[j]).toNat:=by
                   rw[List.take_succ_eq_append_getElem hjr,beVal_snoc]
                  have hle:beVal ((x::r').take (j+1))<=9223372036854775807:=zS (beVal_take_le _ (by omega)) HLim.out;rw[hst]at hle;have HST:=zA hst;have hbl:((x::r')[j]).toNat<256:=((x::r')[j]).toNat_lt;generalize hg:(x::r')[j]=y at*;generalize hv:beVal ((x::r').take j)=v at*;clear hst hg hv hE4 hxn hx;go_wp2;go_round
                  case rel=>exact⟨j+1,by omega,by go_num,by rw[HST.out];go_num⟩
                  case measure=>simp[intOf];omega
                . have hje:j=c.toNat:=by omega
                  subst hje;clear hE4 hxn hx;go_wp2;go_ret3;exact⟨by rw[numV,hV.out];simp;omega,rfl⟩
             . have hE3:((c.toNat:Int)==8)=false:=by rw[beq_eq_false_iff_ne];omega
               have hE4:True:=trivial;clear hE1 hE;go_enter Try.func84,Try.ntmps84;go_wp2;go_loop [6,7] (fun n i=>∃j:Nat,j<=c.toNat/\i=.int .i64 ((j+1:Nat):Int)/\n=.int .i64 (beVal ((x::r').take j))) (fun _ i=>c.toNat+1-(intOf i).toNat)
               case atStart=>exact⟨0,zO _,rfl,rfl⟩
               case round=>
                obtain⟨j,hj,rfl,rfl⟩:=hrel;by_cases hjc:j<c.toNat
                . have hjr:j<(x::r').length:=by omega
                  have hsj:j+1<s.size:=by omega
                  have hby:=byte_of HL.out j hjr hsj;have hst:beVal ((x::r').take (j+1))=beVal ((x::r').take j)*256+((x::r')[j]).toNat:=by
                   rw[List.take_succ_eq_append_getElem hjr,beVal_snoc]
                  have hle:beVal ((x::r').take (j+1))<=9223372036854775807:=zS (beVal_take_le _ (by omega)) HLim.out;rw[hst]at hle;have HST:=zA hst;have hbl:((x::r')[j]).toNat<256:=((x::r')[j]).toNat_lt;generalize hg:(x::r')[j]=y at*;generalize hv:beVal ((x::r').take j)=v at*;clear hst hg hv hE4 hxn hx;go_wp2;go_round
                  case rel=>exact⟨j+1,by omega,by go_num,by rw[HST.out];go_num⟩
                  case measure=>simp[intOf];omega
                . have hje:j=c.toNat:=by omega
                  subst hje;clear hE4 hxn hx;go_wp2;go_ret3;exact⟨by rw[numV,hV.out];simp;omega,rfl⟩
theorem size_list(l:List UInt8):(⟨l.toArray⟩:ByteArray).size=l.length:=by rw[<- ByteArray.size_data];simp
theorem append_data(a b:ByteArray):(a++b).data.toList=a.data.toList++b.data.toList:=by simp
theorem data_list(l:List UInt8):(⟨l.toArray⟩:ByteArray).data.toList=l:=rfl
end Go.Proofs.Ytjoddkeamboeoaa
