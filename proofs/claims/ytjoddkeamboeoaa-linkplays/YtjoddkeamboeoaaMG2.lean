/- Build, CMath, CTwice, CTable. -/
import Derived.Test.YtjoddkeamboeoaaMG0
import Derived.Test.YtjoddkeamboeoaaMG1
import Derived.Test.YtjoddkeamboeoaaRows
import Derived.WalkSpells
import Derived.WalkLawsBesides
import Derived.Laws.BitsAllLaws
import Derived.Laws.BitsLemmas
import Derived.Deep.WholeRow
import Derived.Laws.ResultCell
set_option maxRecDepth 100000
namespace Go.Proofs.Ytjoddkeamboeoaa
open Go.RowKit Go.Shelf
def renB:Go.Shelf.Ren:=⟨fun|166=>60|240=>76|276=>86|n=>n,fun|0=>0|3=>3|4=>4|5=>5|9=>9|20=>20|37=>104|70=>103|72=>106|75=>108|80=>89|164=>129|n=>n,fun|n=>n⟩
theorem lays166:Go.Proofs.Lays.n166 Try.prog renB:={
 mixed:=by kernel_rfl
 f166:=Try.func60.trans (congrArg some (by kernel_rfl))
 f240:=Try.func76.trans (congrArg some (by kernel_rfl))
 f276:=Try.func86.trans (congrArg some (by kernel_rfl))
 t0:=Try.underlying0
 a0:=Try.isAgg0
 z0:=Try.sizeOf0
 v0:=Try.zeroValue0
 t3:=Try.underlying3
 a3:=Try.isAgg3
 z3:=Try.sizeOf3
 v3:=Try.zeroValue3
 t4:=Try.underlying4
 a4:=Try.isAgg4
 z4:=Try.sizeOf4
 v4:=Try.zeroValue4
 t9:=Try.underlying9
 a9:=Try.isAgg9
 z9:=Try.sizeOf9
 v9:=Try.zeroValue9
 t20:=Try.underlying20
 a20:=Try.isAgg20
 z20:=Try.sizeOf20
 v20:=Try.zeroValue20
 t37:=Try.underlying104
 a37:=Try.isAgg104
 z37:=Try.sizeOf104
 v37:=Try.zeroValue104
 t70:=Try.underlying103
 a70:=Try.isAgg103
 z70:=Try.sizeOf103
 v70:=Try.zeroValue103
 t72:=Try.underlying106
 a72:=Try.isAgg106
 z72:=Try.sizeOf106
 v72:=Try.zeroValue106
 t75:=Try.underlying108
 a75:=Try.isAgg108
 z75:=Try.sizeOf108
 v75:=Try.zeroValue108
 t164:=Try.underlying129
 a164:=Try.isAgg129
 z164:=Try.sizeOf129
 v164:=Try.zeroValue129 }
theorem extraB:Builder.Extra Try.prog renB:={
 sizeBuilder:=by kernel_rfl
 liesBuilder:=by kernel_rfl
 t5:=Try.underlying5
 a5:=Try.isAgg5
 z5:=Try.sizeOf5
 v5:=Try.zeroValue5
 infoByte:=by kernel_rfl
 cellsByte:=by kernel_rfl
 sizeByte:=by kernel_rfl
 neB5:=by decide }
theorem writeString_any(B b:Nat)(bs:List Value)(s:ByteArray)(w:World)(h:Lib.IsBuilder 106 5 B b bs w)(hlen:bs.length+s.size<=140737488355328)(hBw:B<=w.heap.size):
 Calls Try.prog 60 #[.pointer (some ⟨b,0,none⟩),.string s] w fun e w'=>e=.returned (.tuple #[.int .i64 s.size,.nilIface])/\(Lib.BuilderAt 106 5 B b (.pointer (some ⟨b,0,none⟩)) (bs++Lib.strCells s) w'/\Below B w w'):=
 Any.Builder_WriteString lays166 extraB B b bs s w h hlen hBw
end Go.Proofs.Ytjoddkeamboeoaa
namespace Go.Proofs.Ytjoddkeamboeoaa
def tw(a:Nat):Nat:=(2*a%4294967296) ^^^ (if a.testBit 31 then 79764919 else 0)
def tw8(a:Nat):Nat:=tw (tw (tw (tw (tw (tw (tw (tw a)))))))
def stepC(n:Nat)(c:UInt8):Nat:=tw8 (n ^^^ c.toNat*16777216)
def crc(n:Nat)(l:List UInt8):Nat:=l.foldl stepC n
def sumN(l:List UInt8):Nat:=crc 4294967295 l ^^^ 4294967295
theorem tb31(a:Nat)(h:a<4294967296):a.testBit 31=decide (2147483648<=a):=by
 rw[Nat.testBit_eq_decide_div_mod_eq];congr 1;apply propext;constructor
 . intro h2;omega
 . intro h2;omega
theorem tw_lt(a:Nat):tw a<4294967296:=by
 unfold tw;have:(2*a%4294967296) ^^^ (if a.testBit 31 then 79764919 else 0)<2^32:=by
  apply Nat.xor_lt_two_pow
  . omega
  . split<;>omega
 omega
theorem tw_low(a:Nat)(h:a<2147483648):tw a=2*a:=by
 unfold tw;rw[tb31 a (by omega),decide_eq_false (by omega),if_neg (by decide),Nat.xor_zero];exact Nat.mod_eq_of_lt (by omega)
theorem tw_high(a:Nat)(h:2147483648<=a)(h2:a<4294967296):tw a=(2*a-4294967296) ^^^ 79764919:=by
 unfold tw;have e:2*a%4294967296=2*a-4294967296:=by omega
 rw[tb31 a h2,zM h,if_pos rfl,e]
theorem xor_left_comm'(m x y:Nat):m ^^^ (x ^^^ y)=x ^^^ (m ^^^ y):=by
 rw[<- Nat.xor_assoc,Nat.xor_comm m x,Nat.xor_assoc]
theorem xor_swap4(n m x y:Nat):n ^^^ m ^^^ (x ^^^ y)=n ^^^ x ^^^ (m ^^^ y):=by
 rw[Nat.xor_assoc,Nat.xor_assoc,xor_left_comm' m x y]
theorem tw_xor(a b:Nat):tw (a ^^^ b)=tw a ^^^ tw b:=by
 unfold tw;have e:2*(a ^^^ b)=(2*a) ^^^ (2*b):=by
  rw[Nat.mul_comm 2 (a ^^^ b),Nat.mul_comm 2 a,Nat.mul_comm 2 b];have:=Nat.shiftLeft_xor_distrib (a:=a) (b:=b) (i:=1);simpa[Nat.shiftLeft_eq]using this
 rw[e,show (4294967296:Nat)=2^32 from rfl,Nat.xor_mod_two_pow,Nat.testBit_xor];have hp:(if(a.testBit 31 ^^ b.testBit 31)=true then 79764919 else 0)=(if a.testBit 31=true then 79764919 else 0) ^^^ (if b.testBit 31=true then 79764919 else 0):=by
  cases a.testBit 31<;>cases b.testBit 31<;>rfl
 rw[hp,xor_swap4]
theorem tw8_lt(a:Nat):tw8 a<4294967296:=tw_lt _
theorem tw8_xor(a b:Nat):tw8 (a ^^^ b)=tw8 a ^^^ tw8 b:=by
 unfold tw8;simp only[tw_xor]
theorem tw8_low(a:Nat)(h:a<16777216):tw8 a=a*256:=by
 unfold tw8;rw[tw_low a (by omega),tw_low (2*a) (by omega),tw_low (2*(2*a)) (by omega),tw_low (2*(2*(2*a))) (by omega),tw_low (2*(2*(2*(2*a)))) (by omega),tw_low (2*(2*(2*(2*(2*a))))) (by omega),tw_low (2*(2*(2*(2*(2*(2*a)))))) (by omega),tw_low (2*(2*(2*(2*(2*(2*(2*a))))))) (by omega)];omega
theorem tw8_tw(y:Nat):tw8 (tw y)=tw (tw8 y):=by simp only[tw8]
theorem tw8_zero:tw8 0=0:=by rw[tw8_low 0 (by omega)]
theorem byte_shift_lt(c:UInt8):c.toNat*16777216<4294967296:=by have:=UInt8.toNat_lt c;omega
theorem xor_lt32{a b:Nat}(ha:a<4294967296)(hb:b<4294967296):a ^^^ b<4294967296:=
 Nat.xor_lt_two_pow (n:=32) ha hb
theorem xor_mul_pow(a b k K:Nat)(hK:K=2^k):(a ^^^ b)*K=a*K ^^^ b*K:=by
 subst hK;have:=Nat.shiftLeft_xor_distrib (a:=a) (b:=b) (i:=k);simpa[Nat.shiftLeft_eq]using this
theorem crc_lt(l:List UInt8)(a:Nat)(h:a<4294967296):crc a l<4294967296:=by
 induction l generalizing a with
 |nil=>exact h
 |cons c l ih=>exact ih _ (tw8_lt _)
theorem crc_append(a:Nat)(l m:List UInt8):crc a (l++m)=crc (crc a l) m:=by simp[crc]
theorem sumN_lt(l:List UInt8):sumN l<4294967296:=xor_lt32 (crc_lt l _ (by omega)) (by omega)
def tabN(b:Nat):Nat:=tw8 (b*16777216)
theorem tabN_lt(b:Nat):tabN b<4294967296:=tw8_lt _
theorem tabN_step(b:Nat)(h:b<256):tabN b=tw (tabN (b/2)) ^^^ (if b%2=1 then 79764919 else 0):=by
 have e:b*16777216=tw (b/2*16777216) ^^^ (b%2)*16777216:=by
  have hx:(b/2*2) ^^^ (b%2)=b:=by
   apply Nat.eq_of_testBit_eq;intro i;rw[Nat.testBit_xor];cases i with
   |zero=>simp[Nat.testBit_zero]
   |succ i=>
    rw[Nat.testBit_succ,Nat.testBit_succ,Nat.testBit_succ];have e1:b/2*2/2=b/2:=by omega
    have e2:b%2/2=0:=by omega
    rw[e1,e2];simp
  have:=xor_mul_pow (b/2*2) (b%2) 24 16777216 (by decide);rw[hx]at this;rw[tw_low _ (by omega),show 2*(b/2*16777216)=b/2*2*16777216 by omega];exact this
 unfold tabN;rw[e,tw8_xor];rw[tw8_tw];rcases Nat.mod_two_eq_zero_or_one b with h2|h2
 . rw[h2,Nat.zero_mul,tw8_zero,if_neg (by decide)]
 . rw[h2,if_pos rfl,show tw8 (1*16777216)=79764919 by decide +kernel]
theorem tabN_zero:tabN 0=0:=tw8_zero
theorem stepC_tab(n:Nat)(hn:n<4294967296)(c:UInt8):stepC n c=(n*256%4294967296) ^^^ tabN (n/16777216%256 ^^^ c.toNat):=by
 unfold stepC tabN;have hx:n=n/16777216*16777216 ^^^ n%16777216:=by
  generalize hK:16777216=K;have hK2:K=2^24:=by rw[<- hK]
  subst hK2;apply Nat.eq_of_testBit_eq;intro i;rw[Nat.testBit_xor,Nat.testBit_mod_two_pow,<- Nat.shiftLeft_eq,<- Nat.shiftRight_eq_div_pow,Nat.testBit_shiftLeft,Nat.testBit_shiftRight];by_cases h:i<24
  . have:¬ 24<=i:=by omega
    simp[h,this]
  . have h':24<=i:=by omega
    simp[h,h']
 have e:n ^^^ c.toNat*16777216=n%16777216 ^^^ (n/16777216%256 ^^^ c.toNat)*16777216:=by
  rw[xor_mul_pow _ _ 24 16777216 (by decide),show n/16777216%256=n/16777216 by omega,<- Nat.xor_assoc,Nat.xor_comm (n%16777216),<- hx]
 rw[e,tw8_xor,tw8_low _ (by omega),show n%16777216*256=n*256%4294967296 by omega]
end Go.Proofs.Ytjoddkeamboeoaa
namespace Go.Proofs.Ytjoddkeamboeoaa
open Go.RowKit
theorem chid{p:Prop}(h:p):Hid p:=h
set_option maxHeartbeats 400000 in
theorem twice_any(n:Nat)(w:World)(hn:n<4294967296):
 Calls Try.prog 79 #[.int .u32 (n:Int)] w fun e w'=>e=.returned (.int .u32 (tw n:Nat))/\w'=w:=by
 by_cases hh:2147483648<=n
 . have hx:bits .xor .u32 ((n:Int)*2%4294967296) 79764919=((tw n:Nat):Int):=by
    have hx:=u32_xor_nat (2*n-4294967296) 79764919 (by omega) (by omega);rw[<- tw_high n hh hn]at hx;have e:((2*n-4294967296:Nat):Int)=(n:Int)*2%4294967296:=by omega
    rw[e]at hx;exact hx
   go_enter Try.func79,Try.ntmps79;go_wp2;go_ret;exact⟨by simp,rfl⟩
 . have hx:((tw n:Nat):Int)=(n:Int)*2:=by rw[tw_low n (by omega)];omega
   go_enter Try.func79,Try.ntmps79;go_wp2;go_ret;exact⟨by simp[hx],rfl⟩
def tabC(i:Nat):Array Value:=((List.range 256).map fun j=>Value.int .u32 ((if j<i then tabN j else 0:Nat):Int)).toArray
theorem tabC_size(i:Nat):(tabC i).size=256:=by simp[tabC]
theorem tabC_at(i j:Nat)(h:j<256):(tabC i)[j]?=some (.int .u32 ((if j<i then tabN j else 0:Nat):Int)):=by
 simp[tabC,h]
theorem tabC_zero:tabC 0=Array.replicate 256 (.int .u32 0):=by
 apply Array.ext_getElem?;intro j;by_cases h:j<256
 . rw[tabC_at 0 j h];simp[h]
 . rw[Array.getElem?_eq_none (by rw[tabC_size];omega),Array.getElem?_eq_none (by simp;omega)]
theorem tabC_set(i:Nat)(h:i<256):(tabC i).setIfInBounds i (.int .u32 (tabN i:Nat))=tabC (i+1):=by
 apply Array.ext_getElem?;intro j;by_cases hj:j<256
 . rw[tabC_at (i+1) j hj,Array.getElem?_setIfInBounds];by_cases he:i=j
   . subst he;rw[if_pos rfl,if_pos (by rw[tabC_size];exact h),if_pos (by omega)]
   . rw[if_neg he,tabC_at i j hj];by_cases h1:j<i
     . rw[if_pos h1,if_pos (by omega)]
     . rw[if_neg h1,if_neg (by omega)]
 . rw[Array.getElem?_eq_none (by simp[tabC_size];omega),Array.getElem?_eq_none (by rw[tabC_size];omega)]
theorem tabC_one(i:Nat):(tabC i).all (·.oneCell')=true:=by
 rw[Array.all_eq_true];intro j hj;have:=tabC_at i j (by rw[tabC_size]at hj;exact hj);rw[Array.getElem?_eq_getElem hj]at this;rw[Option.some.inj this];rfl
theorem tabC_half(i:Nat)(h:i<256):(tabC i)[i/2]?=some (.int .u32 ((tabN (i/2):Nat):Int)):=by
 rw[tabC_at i (i/2) (by omega)];by_cases h1:i/2<i
 . rw[if_pos h1]
 . have:i=0:=by omega
   subst this;rw[if_neg h1];simp[tabN_zero]
theorem wpList_load_row{P:Program}{ops:Array Oper}{rest:List Oper}{op:Oper}{a:Act}{w:World}{Q:Exit->Act->World->Prop}(hgd:op.guard=none)(ty:TypeId)(x:Operand)(ho:op.op=.load ty x)
 (g:Nat) (hx:a.eval x=.pointer (some ⟨g,0,none⟩)) (cs:Array Value) (t:TypeId) (fr:Nat×Nat) (hg:w.heap[g]?=some (.cells cs t fr)) (n:Nat) (e:TypeId)
 (hu:P.underlying ty=some (.array n e)) (hi:(P.info? ty).map (·.size)=some cs.size)
 (h:wpList P ops Q rest (a.put op.dst (.agg cs)) w):wpList P ops Q (op::rest) a w:=by
 refine wpList_plain hgd fun K hK=>?_
 unfold Oper.wp execOp;simp only[ho,hx,Instr.loadAt,Instr.sureAddr,Sem.run_bind,Sem.run_pure,Result.andThen_ok,run_loadVar_row w g t ty cs fr _ hg hu rfl hi];exact hK _ _ h
theorem wpList_store_row{P:Program}{ops:Array Oper}{rest:List Oper}{op:Oper}{a:Act}{w w':World}{Q:Exit->Act->World->Prop}(hgd:op.guard=none)(ty:TypeId)(x y:Operand)(ho:op.op=.store ty x y)
 (g:Nat) (cells:Array Value) (hx:a.eval x=.pointer (some ⟨g,0,none⟩)) (hy:a.eval y=.agg cells) (t:TypeId) (old:Array Value) (hg:w.heap[g]?=some (.cells old t (0,0)))
 (hi:(P.info? ty).map (·.size)=some cells.size) (hs:old.size=cells.size) (h1:cells.all (·.oneCell')=true) (hw:w.setRow g cells=w')
 (h:wpList P ops Q rest (a.put op.dst undef) w'):wpList P ops Q (op::rest) a w:=by
 refine wpList_plain hgd fun K hK=>?_
 unfold Oper.wp execOp;simp only[ho,hx,hy,Instr.storeAt,Instr.sureAddr,Sem.run_bind,Sem.run_pure,Result.andThen_ok,run_storeVar_row w g t ty old cells hg hi hs h1,hw];exact hK _ _ h
theorem setRow_alloc_under(w:World)(c c':Array Value)(t:TypeId)(o:Obj):((w.alloc (.cells c t)).alloc o).setRow w.heap.size c'=(w.alloc (.cells c' t)).alloc o:=by
 simp only[World.setRow,World.alloc];congr 1;apply Array.ext_getElem?;intro i;rw[zH];by_cases h:w.heap.size=i
 . subst h;simp[Array.getElem?_push]
 . have h':¬i=w.heap.size:=fun e=>h e.symm
   simp[h,h',Array.getElem?_push]
theorem heap_alloc_under(w:World)(o o':Obj):((w.alloc o).alloc o').heap[w.heap.size]?=some o:=by
 show ((w.heap.push o).push o')[w.heap.size]?=some o;simp[Array.getElem?_push]
theorem infoArr:(Try.prog.info? 116).map (fun i=>(i.zero,i.size))=some (some (.agg (Array.replicate 256 (.int .u32 0))),256):=by kernel_rfl
set_option maxHeartbeats 4000000 in
theorem shiftedOut_any(w:World):
 Calls Try.prog 67 #[] w fun e w'=>e=.returned (.agg (tabC 256))/\w'=(w.alloc (.cells (tabC 256) 116)).alloc (.cells (tabC 256) 116):=by
 obtain⟨hv,hsz⟩:=zero_of_info infoArr;rw[<- tabC_zero]at hv;go_enter Try.func67,Try.ntmps67;go_wp2_with fail;go_loopw [3] (fun s3 wx=>∃i:Nat,i<=256/\s3=.int .i64 i/\wx=(w.alloc (.cells (tabC 0) 116)).alloc (.cells (tabC i) 116)) (fun s3 _=>256-(intOf s3).toNat)
 case atStart=>exact⟨0,by omega,rfl,rfl⟩
 case round=>
  obtain⟨i,hi,rfl,rfl⟩:=hrel;by_cases hlt:i<256
  . have hc:((w.alloc (.cells (tabC 0) 116)).alloc (.cells (tabC i) 116)).cell? ⟨w.heap.size+1,i/2,none⟩=some (.int .u32 ((tabN (i/2):Nat):Int)):=by
     rw[World.cell?_alloc_at _ _ _ _ (by simp),tabC_half i hlt]
    have hci:(tabC i)[i]?=some (.int .u32 0):=by rw[tabC_at i i hlt,if_neg (by omega)];rfl
    have hst:=tabN_step i hlt;have hset:=tabC_set i hlt;have HT:Hid ((tabC i).setIfInBounds i (.int .u32 (tabN i:Nat))=tabC (i+1)):=hset;clear hset;have htl:tw (tabN (i/2))<4294967296:=tw_lt _;obtain⟨x,hx⟩:∃x,x=tw (tabN (i/2)):=⟨_,rfl⟩
    rw[<- hx]at hst htl;go_wp2_with fail;refine(twice_any _ _ (tabN_lt _)).mono ?_;rintro e w' ⟨rfl,rfl⟩;rw[<- hx];clear hc hx;by_cases hp:i%2=1
    . have hpi:(i:Int)%2=1:=by omega
      have hss:((tabC i).setIfInBounds i (.int .u32 (x:Nat)))[i]?=some (.int .u32 (x:Nat)):=by
       rw[Array.getElem?_setIfInBounds,if_pos rfl,if_pos (by rw[tabC_size];exact hlt)]
      rw[if_pos hp]at hst;have hb:bits .xor .u32 (x:Int) 79764919=((tabN i:Nat):Int):=by
       have:=u32_xor_nat x 79764919 htl (by omega);rw[<- hst]at this;exact this
      have HS:=chid hst;clear hst hp;go_wp2;go_roundw
      case rel=>exact⟨i+1,by omega,by go_num,by rw[<- HT.out]⟩
      case measure=>simp[intOf];omega
    . have hpi:(i:Int)%2=0:=by omega
      rw[if_neg hp,Nat.xor_zero]at hst;have HS:=chid hst;clear hst hp;go_wp2;go_roundw
      case rel=>exact⟨i+1,by omega,by go_num,by rw[<- HT.out,HS.out]⟩
      case measure=>simp[intOf];omega
  . obtain rfl:i=256:=by omega
    have hT:=tabC_size 256;have hsz':(Try.prog.info? 116).map (·.size)=some (tabC 256).size:=by rw[hT];exact hsz
    have h1:=tabC_one 256;have H1:Hid ((tabC 256).all (·.oneCell')=true):=h1;have HZ:Hid ((Try.prog.info? 116).map (·.size)=some (tabC 256).size):=hsz';clear hT hsz' h1 hv hsz;have hgT:((w.alloc (.cells (tabC 0) 116)).alloc (.cells (tabC 256) 116)).heap[w.heap.size+1]?=some (.cells (tabC 256) 116):=by
     have:=heap_alloc_last (w.alloc (.cells (tabC 0) 116)) (.cells (tabC 256) 116);rw[<- this];simp
    have HG:=chid hgT;have HU:=chid (heap_alloc_under w (.cells (tabC 0) 116) (.cells (tabC 256) 116));have HE:=chid (show (tabC 0).size=(tabC 256).size by rw[tabC_size,tabC_size]);have HR:=chid (setRow_alloc_under w (tabC 0) (tabC 256) 116 (.cells (tabC 256) 116));clear hgT;go_wp2_with (first
     |refine wpList_load_row rfl 116 _ rfl (w.heap.size+1) rfl (tabC 256) 116 (0,0) HG.out 256 115 Try.underlying116 HZ.out ?_
     |refine wpList_store_row rfl 116 _ _ rfl w.heap.size (tabC 256) rfl rfl 116 (tabC 0) HU.out HZ.out HE.out H1.out HR.out ?_)
    have hld:(loadVar 116 ⟨w.heap.size,0,none⟩).run Try.prog ((w.alloc (.cells (tabC 256) 116)).alloc (.cells (tabC 256) 116))=.ok (.agg (tabC 256)) ((w.alloc (.cells (tabC 256) 116)).alloc (.cells (tabC 256) 116)):=
     run_loadVar_row _ _ 116 _ (tabC 256) (0,0) _ (heap_alloc_under _ _ _) Try.underlying116 rfl HZ.out
    refine bodyPost_ret (v:=.agg (tabC 256)) ?_ rfl ⟨rfl,rfl⟩;simp[results,Try.results67,Act.put,asAddr,hld]
end Go.Proofs.Ytjoddkeamboeoaa
