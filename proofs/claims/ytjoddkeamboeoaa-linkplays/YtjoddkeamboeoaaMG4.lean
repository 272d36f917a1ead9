/- Math, NumB, PutNum. -/
import Derived.Test.YtjoddkeamboeoaaMG0
import Derived.Test.YtjoddkeamboeoaaMG1
import Derived.Lib.BitFns
import Derived.Test.YtjoddkeamboeoaaRows
import Derived.WalkSpells
import Derived.WalkLawsBesides
set_option maxRecDepth 100000
namespace Go.Proofs.Ytjoddkeamboeoaa
def lowD:Nat->Nat->List UInt8
 |0,_=>[]
 |f+1,n=>if n=0 then []else UInt8.ofNat (n%256)::lowD f (n/256)
def numB(n:Nat):List UInt8:=UInt8.ofNat (lowD 8 n).length::(lowD 8 n).reverse
def beVal(l:List UInt8):Nat:=l.foldl (fun a b=>a*256+b.toNat) 0
theorem lowD_zero(f:Nat):lowD f 0=[]:=by cases f<;>simp[lowD]
theorem lowD_pos(f n:Nat)(h:0<n):lowD (f+1) n=UInt8.ofNat (n%256)::lowD f (n/256):=by
 simp[lowD,Nat.pos_iff_ne_zero.1 h]
theorem lowD_le(f:Nat):∀n,(lowD f n).length<=f:=by
 induction f with
 |zero=>intro n;simp[lowD]
 |succ f ih=>intro n;unfold lowD;split<;>simp;exact ih _
theorem lowD_get(f:Nat):∀n j,n<256^f->(lowD f n)[j]?.getD 0=UInt8.ofNat (n/256^j%256):=by
 induction f with
 |zero=>intro n j h;simp at h;subst h;simp[lowD]
 |succ f ih=>
  intro n j h;by_cases h0:n=0
  . subst h0;simp[lowD]
  . rw[lowD_pos _ _ (by omega)];cases j with
    |zero=>simp
    |succ j=>
     simp only[List.getElem?_cons_succ];rw[ih _ _ (by rw[Nat.div_lt_iff_lt_mul (by omega)];rw[Nat.pow_succ]at h;exact h)];rw[Nat.div_div_eq_div_mul,Nat.pow_succ,Nat.mul_comm]
theorem lowD_length_iff(f:Nat):∀n j,n<256^f->(j<(lowD f n).length↔256^j<=n):=by
 induction f with
 |zero=>intro n j h;simp at h;subst h;simp[lowD]
 |succ f ih=>
  intro n j h;by_cases h0:n=0
  . subst h0;simp[lowD]
  . rw[lowD_pos _ _ (by omega)];cases j with
    |zero=>simp;omega
    |succ j=>
     simp only[zR,Nat.add_lt_add_iff_right];rw[ih _ _ (by rw[Nat.div_lt_iff_lt_mul (by omega)];rw[Nat.pow_succ]at h;exact h)];rw[Nat.le_div_iff_mul_le (by omega),Nat.pow_succ]
theorem bitLenAux_iff(f:Nat):∀x j,x<2^f->(j<Lib.bitLenAux f x↔2^j<=x):=by
 induction f with
 |zero=>intro x j h;simp at h;subst h;simp[Lib.bitLenAux]
 |succ f ih=>
  intro x j h;unfold Lib.bitLenAux;by_cases h0:x=0
  . subst h0;simp
  . simp only[h0,if_false];cases j with
    |zero=>simp;omega
    |succ j=>
     rw[show (j+1<1+Lib.bitLenAux f (x/2))↔j<Lib.bitLenAux f (x/2) by omega];rw[ih _ _ (by rw[Nat.div_lt_iff_lt_mul (by omega)];rw[Nat.pow_succ]at h;exact h)];rw[Nat.le_div_iff_mul_le (by omega),Nat.pow_succ]
theorem bitLen_iff(x j:Nat)(h:x<2^64):j<Lib.bitLen x↔2^j<=x:=bitLenAux_iff 64 x j h
theorem size_eq(n:Nat)(h:n<2^63):(Lib.bitLen n+7)/8=(lowD 8 n).length:=by
 have hn:n<256^8:=zF h (by decide);have key:∀j,j<(Lib.bitLen n+7)/8↔j<(lowD 8 n).length:=by
  intro j;rw[lowD_length_iff 8 n j hn,show (256^j)=2^(8*j) by rw[Nat.pow_mul]];rw[<- bitLen_iff n (8*j) (zF h (by decide))];omega
 have a:=key ((lowD 8 n).length);have b:=key ((Lib.bitLen n+7)/8);omega
def rowN(m sz i:Nat):List UInt8:=UInt8.ofNat sz::(List.replicate (sz-i) 0++((lowD 8 m).take i).reverse)
theorem rowN_start(m sz:Nat):(List.replicate (1+sz) (0:UInt8)).set 0 (UInt8.ofNat sz)=rowN m sz 0:=by
 rw[Nat.add_comm 1 sz,List.replicate_succ];simp[rowN]
theorem rowN_end(m:Nat):rowN m (lowD 8 m).length (lowD 8 m).length=numB m:=by
 simp[rowN,numB]
theorem rowN_length(m sz i:Nat)(h:sz=(lowD 8 m).length)(hi:i<=sz):(rowN m sz i).length=1+sz:=by
 simp[rowN];omega
theorem rowN_step(m sz i:Nat)(h:sz=(lowD 8 m).length)(hi:i<sz)(hm:m<256^8):
 (rowN m sz i).set (sz-i) (UInt8.ofNat (m/256^i%256))=rowN m sz (i+1):=by
 have hg:=lowD_get 8 m i hm;rw[zD (by omega)]at hg;simp only[Option.getD_some]at hg;unfold rowN;rw[show sz-i=(sz-(i+1))+1 by omega,List.set_cons_succ,List.replicate_succ',List.append_assoc,List.set_append_right _ _ (by simp)];rw[List.length_replicate,Nat.sub_self,List.singleton_append,List.set_cons_zero];rw[List.take_succ_eq_append_getElem (by omega),List.reverse_append,hg];simp
theorem low_step(m c:Nat)(acc:List UInt8)(hl:acc.length<8)(h0:0<c)(hc:c<256^(8-acc.length))(heq:acc++lowD (8-acc.length) c=lowD 8 m):
 c/256<256^(8-(acc++[UInt8.ofNat (c%256)]).length)/\(acc++[UInt8.ofNat (c%256)])++lowD (8-(acc++[UInt8.ofNat (c%256)]).length) (c/256)=lowD 8 m:=by
 have e:8-acc.length=(8-(acc++[UInt8.ofNat (c%256)]).length)+1:=by simp;omega
 rw[e]at hc heq;refine⟨by rw[Nat.div_lt_iff_lt_mul (by omega)];rw[Nat.pow_succ]at hc;exact hc,?_⟩;rw[lowD_pos _ _ h0]at heq;rw[List.append_assoc];exact heq
theorem ofNat_mod(c:Nat):((UInt8.ofNat (c%256)).toNat:Int)=(c:Int)%256:=by
 rw[UInt8.toNat_ofNat'];omega
theorem down_step(m k:Nat)(x:UInt8)(hx:(lowD 8 m)[k]?=some x)(h:UInt8):
 h::((lowD 8 m).drop (k+1)).reverse++[x]=h::((lowD 8 m).drop k).reverse:=by
 obtain⟨hk,e⟩:=zG.1 hx;rw[List.drop_eq_getElem_cons hk,e];simp
theorem numB_nil(m:Nat)(h:lowD 8 m=[]):numB m=[0]:=by simp[numB,h]
theorem numB_length(m:Nat):(numB m).length=1+(lowD 8 m).length:=by simp[numB];omega
theorem numB_le(m:Nat):(numB m).length<=9:=by have:=lowD_le 8 m;rw[numB_length];omega
theorem beVal_snoc(l:List UInt8)(x:UInt8):beVal (l++[x])=beVal l*256+x.toNat:=by simp[beVal]
theorem beVal_cons_aux(l:List UInt8):∀a,l.foldl (fun a b=>a*256+b.toNat) a=a*256^l.length+beVal l:=by
 induction l with
 |nil=>intro a;simp[beVal]
 |cons x l ih=>
  intro a;simp only[List.foldl_cons,beVal,zR];rw[ih,ih (0*256+x.toNat),Nat.pow_succ,Nat.add_mul];simp only[Nat.zero_mul,Nat.zero_add];rw[Nat.mul_assoc,Nat.mul_comm 256,Nat.add_assoc]
theorem beVal_cons(x:UInt8)(l:List UInt8):beVal (x::l)=x.toNat*256^l.length+beVal l:=by
 have:=beVal_cons_aux l x.toNat;simpa[beVal]using this
theorem beVal_lt(l:List UInt8):beVal l<256^l.length:=by
 induction l with
 |nil=>simp[beVal]
 |cons x l ih=>
  rw[beVal_cons,zR,Nat.pow_succ];have h1:x.toNat<=255:=by have:=x.toNat_lt;omega
  have h2:=Nat.mul_le_mul_right (256^l.length) h1;omega
theorem pow8_le{k:Nat}(h:k<=7):256^k<=72057594037927936:=by
 have:256^k<=256^7:=Nat.pow_le_pow_right (by omega) h;omega
theorem take_snoc(s:ByteArray)(k:Nat)(h:k<s.size):s.data.toList.take (k+1)=s.data.toList.take k++[s[k]]:=by
 rw[List.take_succ_eq_append_getElem (by simpa using h)];rfl
def numP(l:List UInt8):Nat×Nat×Nat:=
 match l with
 |[]=>(0,0,11)
 |c::r=>
  if 8<c.toNat then (0,0,10)
  else if r.length<c.toNat then (0,0,11)
  else if (0<c.toNat/\r.head?=some 0)\/9223372036854775807<beVal (r.take c.toNat)then (0,0,10)
  else(beVal (r.take c.toNat),1+c.toNat,0)
theorem numP_gt(c:UInt8)(r:List UInt8)(h:8<c.toNat):numP (c::r)=(0,0,10):=by simp[numP,h]
theorem numP_cut(c:UInt8)(r:List UInt8)(h:¬ 8<c.toNat)(h2:r.length<c.toNat):numP (c::r)=(0,0,11):=by simp[numP,h,h2]
theorem numP_zero(c:UInt8)(r:List UInt8)(h:¬ 8<c.toNat)(h2:¬r.length<c.toNat)(h3:0<c.toNat)(h4:r.head?=some 0):numP (c::r)=(0,0,10):=by
 simp only[numP,h,h2,if_false];rw[if_pos (Or.inl ⟨h3,h4⟩)]
theorem numP_big(c:UInt8)(r:List UInt8)(h:¬ 8<c.toNat)(h2:¬r.length<c.toNat)(h4:9223372036854775807<beVal (r.take c.toNat)):numP (c::r)=(0,0,10):=by
 simp only[numP,h,h2,if_false];rw[if_pos (Or.inr h4)]
theorem numP_ok(c:UInt8)(r:List UInt8)(h:¬ 8<c.toNat)(h2:¬r.length<c.toNat)(h3:¬(0<c.toNat/\r.head?=some 0))(h4:¬ 9223372036854775807<beVal (r.take c.toNat)):
 numP (c::r)=(beVal (r.take c.toNat),1+c.toNat,0):=by
 simp only[numP,h,h2,if_false];rw[if_neg (fun g=>g.elim h3 h4)]
end Go.Proofs.Ytjoddkeamboeoaa
namespace Go.Proofs.Ytjoddkeamboeoaa
open Go.RowKit
theorem info5:(Try.prog.info? 5).map (fun i=>(i.zero,i.size,i.bytes))=some (some (.int .u8 0),1,1):=by kernel_rfl
def u8s(l:List UInt8):List Value:=l.map fun b=>.int .u8 (b.toNat:Int)
theorem start_row(m bl:Nat)(hb:bl<=64){w1:World}{B:Nat}
 (hown:w1.ownsRow B 5 1 (.slice (some ⟨B,0,none⟩) (1+(bl+7)/8) (1+(bl+7)/8)) (1+(bl+7)/8) (madeCells #[Value.int IntKind.u8 0] (1+(bl+7)/8)).toList):
 (w1.setCell ⟨B,0,none⟩ (.int .u8 (((bl:Int)+7)/8))).ownsRow B 5 1 (.slice (some ⟨B,0,none⟩) (1+(bl+7)/8) (1+(bl+7)/8)) (1+(bl+7)/8) (u8s (rowN m ((bl+7)/8) 0)):=by
 have h:=(hown.stored 0 (.int .u8 (((bl:Int)+7)/8))).1;rw[toList_madeCells_one]at h;rw[<- rowN_start];have e:(List.replicate (1+(bl+7)/8) (Value.int IntKind.u8 0)).set 0 (.int .u8 (((bl:Int)+7)/8))=u8s ((List.replicate (1+(bl+7)/8) (0:UInt8)).set 0 (UInt8.ofNat ((bl+7)/8))):=by
  rw[u8s,List.map_set,List.map_replicate];have e2:((UInt8.ofNat ((bl+7)/8)).toNat:Int)=((bl:Int)+7)/8:=by
   rw[UInt8.toNat_ofNat'];omega
  rw[e2];rfl
 rw[<- e];exact h
theorem step_row(m sz k:Nat)(h:sz=(lowD 8 m).length)(hk:k<sz)(hm:m<2^63){w1:World}{B:Nat}
 (hown:w1.ownsRow B 5 1 (.slice (some ⟨B,0,none⟩) (1+sz) (1+sz)) (1+sz) (u8s (rowN m sz k))):
 (w1.setCell ⟨B,sz-k,none⟩ (.int .u8 ((m:Int)/2^(8*k)%256))).ownsRow B 5 1 (.slice (some ⟨B,0,none⟩) (1+sz) (1+sz)) (1+sz) (u8s (rowN m sz (k+1))):=by
 have g:=(hown.stored (sz-k) (.int .u8 ((m:Int)/2^(8*k)%256))).1;rw[<- rowN_step m sz k h hk (zF hm (by decide))];have e2:((UInt8.ofNat (m/256^k%256)).toNat:Int)=(m:Int)/2^(8*k)%256:=by
  rw[UInt8.toNat_ofNat',show (256^k)=2^(8*k) by rw[Nat.pow_mul]];have:m/2^(8*k)%256%2^8=m/2^(8*k)%256:=by omega
  rw[this];simp
 rw[u8s,List.map_set,e2];exact g
theorem end_row(m sz:Nat)(h:sz=(lowD 8 m).length){w1:World}{B:Nat}
 (hown:w1.ownsRow B 5 1 (.slice (some ⟨B,0,none⟩) (1+sz) (1+sz)) (1+sz) (u8s (rowN m sz sz))):
 (convert 104 9 (.slice (some ⟨B,0,none⟩) (1+sz) (1+sz))).run Try.prog w1=.ok (.string ⟨(numB m).toArray⟩) w1:=by
 subst h;rw[rowN_end]at hown;have hl:(numB m).length=1+(lowD 8 m).length:=by simp[numB];omega
 have g:=run_convert_bytes_back (P:=Try.prog) w1 104 9 5 ⟨B,0,none⟩ (1+(lowD 8 m).length) (numB m) Try.underlying104 Try.underlying5 Try.underlying9 (fun j hj=>by
  have:=hown.cellAt j (by omega);rw[show (⟨B,0,none⟩:Addr).add j=⟨B,j,none⟩from by cases j<;>simp[Addr.add],this,u8s,zP,zD hj];rfl)
 rw[hl]at g;exact g
set_option maxHeartbeats 400000 in
theorem numBytes_any(m:Nat)(w:World)(hm:m<2^63):
 Calls Try.prog 77 #[.int .i64 (m:Int)] w fun e w'=>e=.returned (.string ⟨(numB m).toArray⟩)/\Below w.heap.size w w':=by
 have hm':(m:Int)<=9223372036854775807:=by omega
 obtain⟨i0,hi,hz0,hz1,hz2⟩:=info_parts info5;have hse:=size_eq m hm;have hle:=lowD_le 8 m;go_enter Try.func77,Try.ntmps77;go_wp2_with fail;refine(Try.bits_Len _ _ (by omega) (by omega)).mono ?_;rintro e w' ⟨rfl,rfl⟩;rw[Int.toNat_natCast];generalize hbl:Lib.bitLen m=bl at*;have hbl':bl<=64:=by omega
 have HE:Hid ((bl+7)/8=(lowD 8 m).length):=hse;have HB:Hid (Lib.bitLen m=bl):=hbl;clear hse hbl;go_wp2_with (at_make;refine wpList_make_full _ rfl _ _ 104 rfl w'.heap.size 5 i0 (.int .u8 0) 1 Try.underlying104 hi hz0 hz1 _ _ _ _ (1+(bl+7)/8) rfl rfl (by omega) (by omega) (by rw[hz2];omega) (by unfold maxLen;omega) (zC _) ?_);intro w1 hown hgrow;have hf0:=hown.frozenAt 0;have hc0:w1.cell? ⟨w'.heap.size,0,none⟩=some (.int .u8 0):=by
  rw[hown.cellAt 0 (by omega),toList_madeCells_one];rw[List.getElem?_replicate,if_pos (by omega)]
 have hst:=start_row m bl (by omega) hown;have hbw:Below w'.heap.size w' (w1.setCell ⟨w'.heap.size,0,none⟩ (.int .u8 (((bl:Int)+7)/8))):=
  ((zB _ _).grown hgrow (zC _) (by simp)).setCell (zC _) _
 have HS:Hid ((w1.setCell ⟨w'.heap.size,0,none⟩ (.int .u8 (((bl:Int)+7)/8))).ownsRow w'.heap.size 5 1 (.slice (some ⟨w'.heap.size,0,none⟩) (1+(bl+7)/8) (1+(bl+7)/8)) (1+(bl+7)/8) (u8s (rowN m ((bl+7)/8) 0))):=hst;clear hst hown hgrow;go_wp2_with fail;go_loopw [19] (fun i wr=>∃k:Nat,k<=(bl+7)/8/\i=.int .i64 k/\wr.ownsRow w'.heap.size 5 1 (.slice (some ⟨w'.heap.size,0,none⟩) (1+(bl+7)/8) (1+(bl+7)/8)) (1+(bl+7)/8) (u8s (rowN m ((bl+7)/8) k))/\Below w'.heap.size w' wr) (fun i _=>(bl+7)/8-(intOf i).toNat)
 case atStart=>exact⟨0,zO _,rfl,HS.out,hbw⟩
 case round=>
  obtain⟨k,hk,rfl,hown,hb⟩:=hrel;clear hc0 hf0;have hf:=hown.frozenAt ((bl+7)/8-k);have hcx:∃v,wr.cell? ⟨w'.heap.size,(bl+7)/8-k,none⟩=some v:=by
   rw[hown.cellAt _ (by omega)];exact⟨_,zD (by simp[u8s];rw[rowN_length _ _ _ HE.out hk];omega)⟩
  obtain⟨v,hc⟩:=hcx;by_cases hlt:k<(bl+7)/8
  . have R:=step_row m ((bl+7)/8) k HE.out hlt hm hown;have hb2:=hb.setCell (p:=⟨w'.heap.size,(bl+7)/8-k,none⟩) (zC _) (.int .u8 ((m:Int)/2^(8*k)%256));have HR:=R;clear hown R;go_wp2;go_roundw
    case rel=>exact⟨k+1,by omega,by go_num,HR,hb2⟩
    case measure=>simp[intOf];omega
  . have hke:k=(bl+7)/8:=by omega
    have hcv:=end_row m ((bl+7)/8) HE.out (hke▸hown);clear hown hc hf;go_wp2;go_ret;exact⟨rfl,hb⟩
theorem u8s_snoc(l:List UInt8)(x:UInt8):u8s (l++[x])=u8s l++[.int .u8 (x.toNat:Int)]:=by simp[u8s]
theorem conv_own{w1:World}{B n:Nat}{v:Value}{l:List UInt8}(hown:w1.ownsRow B 5 1 v n (u8s l))(h:l≠[]):
 (convert 104 9 v).run Try.prog w1=.ok (.string ⟨l.toArray⟩) w1:=by
 rcases hown.2 with⟨_,hx⟩|⟨g,cap,cur,rfl,_⟩
 . have:=hown.1;rw[hx]at this;simp[u8s]at this;exact absurd this h
 . have hl:l.length=n:=by have:=hown.1;simpa[u8s]using this
   subst hl;exact run_convert_bytes_back (P:=Try.prog) w1 104 9 5 ⟨g,0,none⟩ cap l Try.underlying104 Try.underlying5 Try.underlying9 (fun j hj=>by
    have:=hown.cellAt j (by omega);rw[show (⟨g,0,none⟩:Addr).add j=⟨g,j,none⟩from by cases j<;>simp[Addr.add],this,u8s,zP,zD hj];rfl)
set_option maxHeartbeats 400000 in
theorem putNum_pos(m:Nat)(w:World)(hm:m<2^63):
 Calls Try.prog 62 #[.int .i64 (m:Int)] w fun e w'=>e=.returned (.tuple #[.string ⟨(numB m).toArray⟩,.int .i64 0])/\Below w.heap.size w w':=by
 go_enter Try.func62,Try.ntmps62;go_wp2_with fail;refine(numBytes_any _ _ hm).mono ?_;rintro e w' ⟨rfl,hb⟩;go_wp2;go_ret2;exact⟨rfl,hb⟩
set_option maxHeartbeats 400000 in
theorem rPutNum_pos(m:Nat)(w:World)(hm:m<2^63):
 Calls Try.prog 70 #[.int .i64 (m:Int)] w fun e w'=>e=.returned (.tuple #[.string ⟨(numB m).toArray⟩,.int .i64 0])/\Below w.heap.size w w':=by
 have hm':(m:Int)<=9223372036854775807:=by omega
 obtain⟨i0,hi,hz0,hz1,hz2⟩:=info_parts info5;go_enter Try.func70,Try.ntmps70;go_wp2_with fail;go_loopw [0,4] (fun n v wr=>∃(c:Nat) (acc:List UInt8),n=.int .i64 c/\c<=m/\acc.length<=8/\c<256^(8-acc.length)/\acc++lowD (8-acc.length) c=lowD 8 m/\wr.ownsRow w.heap.size 5 1 v acc.length (u8s acc)/\Below w.heap.size w wr) (fun n _ _=>(intOf n).toNat)
 case atStart=>exact⟨m,[],rfl,zC _,by simp,zF hm (by decide),by simp,World.ownsRow_nil _ _ _ _,zB _ _⟩
 case round=>
  obtain⟨c,acc,rfl,hcm,hl8,hc,heq,hown,hb⟩:=hrel;have hsz:=hb.size;have HEQ:Hid (acc++lowD (8-acc.length) c=lowD 8 m):=heq;clear heq;by_cases h0:0<c
  . have hl:acc.length<8:=by
     rcases Nat.lt_or_ge acc.length 8 with h|h
     . exact h
     . rw[show 8-acc.length=0 by omega]at hc;omega
    have HC:Hid (c<256^(8-acc.length)):=hc;clear hc;go_wp2_with (at_builtin;refine wpList_append_own _ rfl _ _ 104 rfl w.heap.size 5 i0 (.int .u8 0) 1 1 Try.underlying104 hi hz0 hz1 hz2 rfl (by decide) _ _ _ rfl (hown.alloc _) ⟨wr.heap.size,0,none⟩ 1 1 [.int .u8 ((c:Int)%256)] rfl rfl (cell_one_new _ _ _) ?c2 ?c3 ?c4 ?c5 ?_)
    case c2=>intro u hu;simp at hu;subst hu;rfl
    case c3=>unfold maxLen;omega
    case c4=>omega
    case c5=>simp;omega
    intro v' w1 hown' hgrow _;have hb1:Below w.heap.size w w1:=(hb.alloc hsz _).grown hgrow (by simp;omega) (fun k hk=>(hown.lt k hk).1);obtain⟨g1,g2⟩:=low_step m c acc hl h0 HC.out HEQ.out;have ho2:w1.ownsRow w.heap.size 5 1 v' (acc++[UInt8.ofNat (c%256)]).length (u8s (acc++[UInt8.ofNat (c%256)])):=by
     rw[u8s_snoc,ofNat_mod,zE];exact hown'
    have G1:=zA g1;have G2:=zA g2;clear hown' hgrow hown g1 g2 hb hsz;go_wp2;go_roundw
    case rel=>exact⟨c/256,_,by go_num,by omega,by simp;omega,G1.out,G2.out,ho2,hb1⟩
    case measure=>simp[intOf];omega
  . have hc0:c=0:=by omega
    subst hc0;have hacc:acc=lowD 8 m:=by have:=HEQ.out;rwa[lowD_zero,List.append_nil]at this
    subst hacc;clear HEQ hc;rcases hown.2 with⟨rfl,hnil⟩|⟨g,cap,cur,rfl,hg1,hg2,hg3,hg4,hg5,hg6⟩
    . have hd:lowD 8 m=[]:=zU.1 hnil;have HD:=zA hd;clear hd hown;go_wp2_with (at_builtin;refine wpList_append_own _ rfl _ _ 104 rfl wr.heap.size 5 i0 (.int .u8 0) 1 1 Try.underlying104 hi hz0 hz1 hz2 rfl (by decide) _ _ _ rfl (World.ownsRow_nil _ _ _ _) ⟨wr.heap.size,0,none⟩ 1 1 [.int .u8 0] rfl rfl (cell_one_new _ _ _) ?n2 ?n3 ?n4 ?n5 ?_)
      case n2=>intro u hu;simp at hu;subst hu;rfl
      case n3=>unfold maxLen;omega
      case n4=>omega
      case n5=>simp
      intro v' w1 hown' hgrow _;have hb1:Below w.heap.size w w1:=(hb.alloc hsz _).grown hgrow (by simp;omega) (fun k hk=>by simp[Value.ownBlock]at hk);have hcv:=conv_own (l:=[0]) hown' (by simp);have hfin:numB m=[0]:=numB_nil m HD.out;have HF:=zA hfin;clear hown' hgrow hfin;go_wp2_with fail;refine wp_loop_rounds 1 ?_;rw[rounds_succ];go_wp2;go_ret2;exact⟨by rw[HF.out];rfl,hb1⟩
    . obtain⟨W,hW⟩:∃W,W=wr:=⟨_,rfl⟩
      subst hW;have hgl:g<W.heap.size:=(hown.lt g rfl).2;have hcel:∀wq,Below W.heap.size W wq->∀k x,(lowD 8 m)[k]?=some x->wq.cell? ⟨g,k,none⟩=some (.int .u8 (x.toNat:Int)):=by
       intro wq h k x hx;rw[h.cell (p:=⟨g,k,none⟩) hgl,hown.cellAt k (by have:=(zG.1 hx).1;omega),u8s,zP,hx];rfl
      have HC:=zA hcel;clear hcel;generalize hL:(lowD 8 m).length=L at*;have HL:=zA hL;clear hL;go_wp2_with (at_builtin;refine wpList_append_own _ rfl _ _ 104 rfl W.heap.size 5 i0 (.int .u8 0) 1 1 Try.underlying104 hi hz0 hz1 hz2 rfl (by decide) _ _ _ rfl (World.ownsRow_nil _ _ _ _) ⟨W.heap.size,0,none⟩ 1 1 [.int .u8 (L:Int)] rfl rfl (cell_one_new _ _ _) ?m2 ?m3 ?m4 ?m5 ?_)
      case m2=>intro u hu;simp at hu;subst hu;rfl
      case m3=>unfold maxLen;omega
      case m4=>omega
      case m5=>simp
      intro v' w1 hown' hgrow _;have hb1:Below W.heap.size W w1:=((zB _ _).alloc (zC _) _).grown hgrow (by simp) (fun k hk=>by simp[Value.ownBlock]at hk);have ho1:w1.ownsRow W.heap.size 5 1 v' (1+(L-L)) (u8s (UInt8.ofNat L::((lowD 8 m).drop L).reverse)):=by
       rw[Nat.sub_self,List.drop_of_length_le (by rw[HL.out];exact zC _)];have e:((UInt8.ofNat L).toNat:Int)=L:=by rw[UInt8.toNat_ofNat'];omega
       simp only[u8s,List.reverse_nil,List.map_cons,List.map_nil,e];exact hown'
      clear hown' hgrow;go_wp2_with fail;go_loopw [5,6] (fun v i wq=>∃k:Nat,k<=L/\i=.int .i64 ((k:Int)-1)/\wq.ownsRow W.heap.size 5 1 v (1+(L-k)) (u8s (UInt8.ofNat L::((lowD 8 m).drop k).reverse))/\Below W.heap.size W wq) (fun _ i _=>(intOf i+1).toNat)
      case atStart=>exact⟨L,zC _,by go_num,ho1,hb1⟩
      case round=>
       obtain⟨k,hk,rfl,ho,hbq⟩:=hrel;have hsq:=hbq.size;cases k with
       |zero=>
        have hcv:=conv_own ho (by simp);have hfin:UInt8.ofNat L::((lowD 8 m).drop 0).reverse=numB m:=by rw[<- HL.out];rfl
        rw[hfin]at hcv;have hbe:Below w.heap.size w wr:=hb.trans (hbq.mono hsz);clear hfin ho;go_wp2;go_ret2;exact⟨rfl,hbe⟩
       |succ k=>
        have hk1:k<L:=by omega
        obtain⟨x,hx⟩:∃x,(lowD 8 m)[k]?=some x:=⟨_,zD (by rw[HL.out];omega)⟩
        have hcx:=HC.out wr hbq k x hx;have HX:=zA hx;clear hx hk1;go_wp2_with (at_builtin;refine wpList_append_own _ rfl _ _ 104 rfl W.heap.size 5 i0 (.int .u8 0) 1 1 Try.underlying104 hi hz0 hz1 hz2 rfl (by decide) _ _ _ rfl (ho.alloc _) ⟨wr.heap.size,0,none⟩ 1 1 [.int .u8 (x.toNat:Int)] rfl rfl (cell_one_new _ _ _) ?q2 ?q3 ?q4 ?q5 ?_)
        case q2=>intro u hu;simp at hu;subst hu;rfl
        case q3=>unfold maxLen;omega
        case q4=>omega
        case q5=>simp;omega
        intro v2 w2 hown2 hgrow2 _;have hb2:Below W.heap.size W w2:=(hbq.alloc hsq _).grown hgrow2 (by simp;omega) (fun k hk=>(ho.lt k hk).1);have ho2:w2.ownsRow W.heap.size 5 1 v2 (1+(L-k)) (u8s (UInt8.ofNat L::((lowD 8 m).drop k).reverse)):=by
         rw[<- down_step m k x HX.out,u8s_snoc,show 1+(L-k)=1+(L-(k+1))+1 by omega];exact hown2
        clear hown2 hgrow2 ho hbq hsq;go_wp2;go_roundw
        case rel=>exact⟨k,by omega,by go_num,ho2,hb2⟩
        case measure=>simp[intOf]
end Go.Proofs.Ytjoddkeamboeoaa
