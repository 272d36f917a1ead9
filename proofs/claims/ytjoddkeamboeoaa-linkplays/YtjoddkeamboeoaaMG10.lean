/- RowB, RPutList, Laws4, WNote. -/
import Derived.Test.YtjoddkeamboeoaaMG7
import Derived.Test.YtjoddkeamboeoaaMG8
import Derived.Deep.AppendSrc
import Derived.Lib.ConvBytes
import Derived.Laws.IdiomCopy
import Derived.SliceStrings
set_option maxRecDepth 100000
namespace Go.Proofs.Ytjoddkeamboeoaa
open Go.RowKit
def RowB(w:World)(B:Nat)(v:Value)(l:List UInt8):Prop:=
 ∃g cap,v=.slice (some ⟨g,0,none⟩) l.length cap/\B<=g/\g<w.heap.size/\l.length<=cap/\
  (∀j x,l[j]?=some x->w.cell? ⟨g,j,none⟩=some (.int .u8 (x.toNat:Int)))/\
  (∀j,l.length<=j->j<cap->(w.cell? ⟨g,j,none⟩).isSome=true/\w.frozen? ⟨g,j,none⟩=false)
theorem RowB.below{w w':World}{B:Nat}{v:Value}{l:List UInt8}(h:RowB w B v l)(hb:Below w.heap.size w w'):RowB w' B v l:=by
 obtain⟨g,cap,hv,hB,hlt,hc,h1,h2⟩:=h;refine⟨g,cap,hv,hB,zF hlt hb.size,hc,fun j x hx=>(hb.cell (p:=⟨g,j,none⟩) hlt).trans (h1 j x hx),fun j hj hj2=>?_⟩;rw[hb.cell (p:=⟨g,j,none⟩) hlt,hb.frozen (p:=⟨g,j,none⟩) hlt];exact h2 j hj hj2
theorem RowB.conv{w:World}{B:Nat}{v:Value}{l:List UInt8}(h:RowB w B v l):
 (convert 104 9 v).run Try.prog w=.ok (.string ⟨l.toArray⟩) w:=by
 obtain⟨g,cap,rfl,_,_,_,h1,_⟩:=h;exact run_convert_bytes_back (P:=Try.prog) w 104 9 5 ⟨g,0,none⟩ cap l Try.underlying104 Try.underlying5 Try.underlying9 (fun j hj=>by
  rw[show (⟨g,0,none⟩:Addr).add j=⟨g,j,none⟩from by cases j<;>simp[Addr.add]];exact h1 j _ (zD hj))
theorem below_setCells{B b:Nat}(hb:B<=b):∀(vs:List Value) (o:Nat) (a w:World),Below B a w->Below B a (w.setCells b o vs)
 |[],_,_,_,h=>h
 |v::r,o,a,w,h=>below_setCells hb r (o+1) a (w.setCell ⟨b,o,none⟩ v) (h.setCell (p:=⟨b,o,none⟩) hb v)
theorem size_setCells(b:Nat):∀(vs:List Value) (o:Nat) (w:World),(w.setCells b o vs).heap.size=w.heap.size
 |[],_,_=>rfl
 |v::r,o,w=>by
  rw[World.setCells,size_setCells b r (o+1)];simp
theorem rowB_made(w:World)(s:ByteArray):RowB (Lib.bytesWorld w 5 s) w.heap.size (.slice (some ⟨w.heap.size,0,none⟩) s.size (grownCap w s.size 0 5)) s.data.toList:=by
 have hl:=size_data_list s;refine⟨w.heap.size,grownCap w s.size 0 5,by rw[hl],zC _,by rw[Lib.bytesWorld_size];omega,by rw[hl];exact grownCap_ge w s.size 0 5,?_,?_⟩
 . intro j x hx;have hj:j<s.size:=by have:=(zG.1 hx).1;omega
   rw[Lib.bytesWorld_cell w 5 s j hj,List.getD,hx];rfl
 . intro j hj hj2;have hge:=grownCap_ge w s.size 0 5;have hcs:(Lib.bytesCells w 5 s).size=grownCap w s.size 0 5:=by
    simp[Lib.bytesCells];omega
   have hn:=Lib.bytesWorld_at_new w 5 s;constructor
   . simp only[World.cell?,hn];rw[Array.getElem?_eq_getElem (by omega)];rfl
   . simp only[World.frozen?,hn,Bool.and_eq_false_iff,decide_eq_false_iff_not];left;omega
theorem below_made(w:World)(s:ByteArray):Below w.heap.size w (Lib.bytesWorld w 5 s):=
 ⟨rfl,rfl,rfl,by rw[Lib.bytesWorld_size];omega,fun k hk=>Lib.bytesWorld_at_old w 5 s k hk⟩
theorem run_append_rowB{w:World}{B:Nat}{v:Value}{l:List UInt8}(h:RowB w B v l)(s:ByteArray)(hlim:l.length+s.size<=140737488355328)(hB:B<=w.heap.size):
 ∃v' w',(Builtin.append_ #[104,9] 104 #[v,.string s]).run Try.prog w=.ok v' w'/\RowB w' B v' (l++s.data.toList)/\Below B w w':=by
 obtain⟨i0,hi,hz0,hz1,hz2⟩:=info_parts info5;obtain⟨g,cap,rfl,hBg,hlt,hc,h1,h2⟩:=h;have hl:=size_data_list s;have hsrc:Src Try.prog i0.size 9 (.string s) s.size (byteCells s) w:=by rw[hz1];exact Src.ofString w Try.underlying9 s
 have hbl:=byteCells_length s;have hget:∀(j:Nat) (x:UInt8),s.data.toList[j]?=some x->(byteCells s)[j]?=some (Value.int .u8 (x.toNat:Int)):=fun j x hx=>by rw[byteCells,zP,hx];rfl
 by_cases hroom:l.length+s.size<=cap
 . have hr:=run_append_room_src (P:=Try.prog) w 104 9 104 5 i0 Try.underlying104 hi g 0 l.length cap (.string s) s.size (byteCells s) hsrc hroom
    (fun j hj=>by rw[hz1,Nat.mul_one,Nat.zero_add];exact(h2 (l.length+j) (by omega) (by omega)).1)
    (fun j hj=>by rw[hz1,Nat.mul_one,Nat.zero_add];exact(h2 (l.length+j) (by omega) (by omega)).2)
   rw[hz1,Nat.mul_one,Nat.zero_add]at hr;have hsome:∀j,j<(byteCells s).length->(w.cell? ⟨g,l.length+j,none⟩).isSome=true:=fun j hj=>(h2 (l.length+j) (by omega) (by omega)).1
   refine⟨_,_,hr,⟨g,cap,by rw[zE,hl],hBg,by rw[size_setCells];exact hlt,by rw[zE,hl];exact hroom,?_,?_⟩,below_setCells hBg _ _ _ _ (zB _ _)⟩
   . intro j x hx;by_cases hj:j<l.length
     . rw[zV hj]at hx;rw[World.cell?_setCells_out g _ _ _ _ (fun _ _=>.inl hj)];exact h1 j x hx
     . rw[zT (by omega)]at hx;have hj2:j-l.length<(byteCells s).length:=by have:=(zG.1 hx).1;omega
       have:=World.cell?_setCells_in g (byteCells s) l.length w hsome (j-l.length) hj2;rw[show l.length+(j-l.length)=j by omega]at this;rw[this,<- zD hj2];exact hget _ _ hx
   . intro j hj hj2;rw[zE,hl]at hj;rw[World.cell?_setCells_out g _ _ _ _ (fun _ _=>.inr (by rw[hbl];exact hj)),World.frozen?_setCells];exact h2 j (by omega) hj2
 . have hold:(Builtin.firstCells i0.size l.length (.slice (some ⟨g,0,none⟩) l.length cap)).run Try.prog w.drew=.ok (u8s l).toArray w.drew:=by
    rw[hz1];refine run_firstCells_some w.drew 1 l.length ⟨g,0,none⟩ l.length cap (u8s l) (by simp[u8s]) (fun j u hu=>?_);rw[u8s,zP]at hu;obtain⟨x,hx,rfl⟩:=Option.map_eq_some_iff.1 hu;rw[show (⟨g,0,none⟩:Addr).add j=⟨g,j,none⟩from by cases j<;>simp[Addr.add]];exact h1 j x hx
   have hr:=run_append_grow_src (P:=Try.prog) w 104 9 104 5 i0 (.int .u8 0) Try.underlying104 hi hz0 (some ⟨g,0,none⟩) l.length cap (u8s l) hold (.string s) s.size (byteCells s) hsrc (by omega) (by omega)
    (by rw[hz2];exact growslice_fits (by omega) (by omega))
   have hge:=grownCap_ge w (l.length+s.size) cap 5;have hnew:=heap_alloc_new w.drew (.cells ((u8s l++byteCells s).toArray++Builtin.zeroCells (Value.int IntKind.u8 0).cells (grownCap w (l.length+s.size) cap 5-(l.length+s.size))) 5);have hsz:((u8s l++byteCells s).toArray++Builtin.zeroCells (Value.int IntKind.u8 0).cells (grownCap w (l.length+s.size) cap 5-(l.length+s.size))).size=grownCap w (l.length+s.size) cap 5:=by
    have hz1:(Value.int IntKind.u8 0).cells.size=1:=rfl;simp only[Array.size_append,List.size_toArray,zE,size_zeroCells,hz1,hbl];simp[u8s];omega
   refine⟨_,_,hr,⟨w.heap.size,grownCap w (l.length+s.size) cap 5,by rw[zE,hl],hB,by simp,by rw[zE,hl];exact hge,?_,?_⟩,((zB _ _).drew).alloc hB _⟩
   . intro j x hx;simp only[World.cell?];rw[show w.heap.size=w.drew.heap.size from rfl,hnew];have hj:j<l.length+s.size:=by have:=(zG.1 hx).1;rw[zE,hl]at this;exact this
     have e:(u8s l++byteCells s)[j]?=some (.int .u8 (x.toNat:Int)):=by
      by_cases hj1:j<l.length
      . rw[zV hj1]at hx;rw[zV (by simpa[u8s]using hj1),u8s,zP,hx];rfl
      . rw[zT (by omega)]at hx;rw[zT (by simp[u8s];omega)];have:=hget _ _ hx;simpa[u8s]using this
     simp only;rw[Array.getElem?_append_left (by simp[u8s,hbl];omega),List.getElem?_toArray];exact e
   . intro j _ hj2;constructor
     . simp only[World.cell?];rw[show w.heap.size=w.drew.heap.size from rfl,hnew];simp only;rw[Array.getElem?_eq_getElem (by rw[hsz];exact hj2)];rfl
     . simp only[World.frozen?];rw[show w.heap.size=w.drew.heap.size from rfl,hnew];simp
theorem wpList_append_rowB{w:World}{ops:Array Oper}{rest:List Oper}{o:Oper}{a:Act}{Q:Exit->Act->World->Prop}(hgd:o.guard=none)(sl x:Operand)
 (ho:o.op=.call { callee:=.builtin .append,args:=#[sl,x],argTypes:=#[104,9] }) (hty:o.type=104)
 (B:Nat) (v:Value) (l:List UInt8) (hs:a.eval sl=v) (hrow:RowB w B v l) (s:ByteArray) (hx:a.eval x=.string s) (hlim:l.length+s.size<=140737488355328) (hB:B<=w.heap.size)
 (h:∀v' w',RowB w' B v' (l++s.data.toList)->Below B w w'->wpList Try.prog ops Q rest (a.put o.dst v') w'):wpList Try.prog ops Q (o::rest) a w:=by
 refine wpList_plain hgd fun K hK=>?_
 obtain⟨v',w',hr,h2,h3⟩:=run_append_rowB hrow s hlim hB;unfold Oper.wp execOp;simp only[ho,hty,resolve,invoke,builtin,Sem.run_bind,Sem.run_pure,Result.andThen_ok,List.map_toArray,List.map_cons,List.map_nil,hs,hx,hr];exact hK _ _ (h v' w' h2 h3)
set_option maxHeartbeats 1000000 in
theorem rPutList_any(v:Value)(ls:List (List UInt8))(w:World)(hv:StrsAt w v ls)(hsm:ls.length<=4096->∀t∈ls,t.length<=140737488355328):
 Calls Try.prog 71 #[v] w fun e w'=>e=.returned (putListV ls)/\Below w.heap.size w w':=by
 obtain⟨hlen,ao,cap,rfl,hc⟩:=hv;by_cases hm:4096<ls.length
 . have HV:=zA (putListV_of (putListP_many ls hm));go_enter Try.func71,Try.ntmps71;go_wp2;go_ret2;exact⟨by rw[HV.out];rfl,zB _ _⟩
 . have HSM:=zA (hsm (by omega));clear hsm;have hn63:ls.length<2^63:=by omega
   have h9:=numB_le ls.length;have HCC:Hid (ls=[]\/∃b o,ao=some ⟨b,o,none⟩/\b<w.heap.size/\∀j t,ls[j]?=some t->w.cell? ⟨b,o+j,none⟩=some (.string ⟨t.toArray⟩)):=hc;clear hc;rcases HCC with hnil|⟨b,o,rfl,hl,hc⟩
   . subst hnil;have HV:=zA (putListV_of (putListP_ok [] (by simp) (by simp)));go_enter Try.func71,Try.ntmps71;go_wp2_with fail;refine(rPutNum_pos _ _ hn63).mono ?_;rintro e w1 ⟨rfl,hb1⟩;have hcv:=Lib.run_convert_string_bytes (P:=Try.prog) w1 9 104 5 ⟨(numB 0).toArray⟩ Try.underlying9 Try.underlying104 Try.underlying5;have hrow:=rowB_made w1 ⟨(numB 0).toArray⟩;have hcv2:=hrow.conv
     rw[size_list]at hcv2;have hbw:=hb1.trans ((below_made w1 ⟨(numB 0).toArray⟩).mono hb1.size);have HB:=zA hbw;clear hrow hb1 hbw;go_wp2_with fail;refine wp_loop_rounds 1 ?_;rw[rounds_succ];go_wp2;go_ret2;exact⟨by rw[HV.out];rfl,HB.out⟩
   . have HC:=zA hc;clear hc;go_enter Try.func71,Try.ntmps71;go_wp2_with fail;refine(rPutNum_pos _ _ hn63).mono ?_;rintro e w1 ⟨rfl,hb1⟩;have hcv:=Lib.run_convert_string_bytes (P:=Try.prog) w1 9 104 5 ⟨(numB ls.length).toArray⟩ Try.underlying9 Try.underlying104 Try.underlying5;have hrow:RowB (Lib.bytesWorld w1 5 ⟨(numB ls.length).toArray⟩) w.heap.size (.slice (some ⟨w1.heap.size,0,none⟩) (⟨(numB ls.length).toArray⟩:ByteArray).size (grownCap w1 (⟨(numB ls.length).toArray⟩:ByteArray).size 0 5)) (numB ls.length++textsB (ls.take 0)):=by
      have h:=rowB_made w1 ⟨(numB ls.length).toArray⟩;rw[List.take_zero,show textsB []=[]from rfl,List.append_nil];obtain⟨g,cp,e1,e2,e3⟩:=h;exact⟨g,cp,e1,zS hb1.size e2,e3⟩
     have hbw:=hb1.trans ((below_made w1 ⟨(numB ls.length).toArray⟩).mono hb1.size);have HR:=zA hrow;have HB:=zA hbw;clear hrow hb1 hbw;go_wp2_with fail;go_loopw [6,7] (fun v c wr=>∃i:Nat,i<=ls.length/\c=.int .i64 i/\(∀u∈ls.take i,u.length<=65536)/\RowB wr w.heap.size v (numB ls.length++textsB (ls.take i))/\Below w.heap.size w wr) (fun _ c _=>ls.length-(intOf c).toNat)
     case atStart=>exact⟨0,zO _,rfl,by simp,HR.out,HB.out⟩
     case round=>
      obtain⟨i,hi,rfl,hall,hrow,hb⟩:=hrel;have HALL:=zA hall;have hsz:=hb.size;clear hall HR HB;by_cases hlt:i<ls.length
      . obtain⟨t,ht⟩:∃t,ls[i]?=some t:=⟨_,zD hlt⟩
        have hcx:=(hb.cell (p:=⟨b,o+i,none⟩) hl).trans (HC.out i t ht);have htm:t∈ls:=zJ ht;have htl:=HSM.out t htm;have HT:=zA ht;have hltI:(i:Int)<(ls.length:Int):=by omega
        have hts:(⟨t.toArray⟩:ByteArray).size<=140737488355328:=by rw[size_list];exact htl
        clear ht;by_cases h6:t.length<=65536
        . have hPV:=zA (putStrV_ok h6);have hall2:=zA (take_all HALL.out HT.out h6);have hlc:=textsB_le (ls.take i) HALL.out;rw[zQ,Nat.min_eq_left hi]at hlc;have hsb:=strB_le t h6;clear htm;go_wp2_with fail;refine(rPutStr_any _ _ hts).mono ?_;rintro e w3 ⟨rfl,hb3⟩;rw[data_list,hPV.out];have hrow3:=hrow.below hb3;have hbw3:=hb.trans (hb3.mono hsz);have hsz3:=hbw3.size;clear hrow hb hb3 hsz hcx;go_wp2_with (at_builtin;refine wpList_append_rowB rfl _ _ rfl rfl w.heap.size _ _ rfl hrow3 ⟨(strB t).toArray⟩ rfl ?z1 hsz3 ?_)
          case z1=>rw[zE,size_list];omega
          intro v4 w4 hrow4 hb4;have hbw4:=hbw3.trans hb4;have hrow5:RowB w4 w.heap.size v4 (numB ls.length++textsB (ls.take (i+1))):=by
           rw[zW,HT.out,zY,textsB_snoc];exact hrow4
          clear hrow3 hrow4 hb4 hbw3 hsz3;go_wp2;go_roundw
          case rel=>exact⟨i+1,by omega,by go_num,hall2.out,hrow5,hbw4⟩
          case measure=>simp[intOf];omega
        . have hPV:=zA (putStrV_long (t:=t) (by omega));have HV:=zA (putListV_of (putListP_long ls t htm (by omega)));clear htm;go_wp2_with fail;refine(rPutStr_any _ _ hts).mono ?_;rintro e w3 ⟨rfl,hb3⟩;rw[data_list,hPV.out];have hbw3:=hb.trans (hb3.mono hsz);clear hrow hb hb3 hsz hcx;go_wp2;go_ret2;exact⟨by rw[HV.out];rfl,hbw3⟩
      . have hie:i=ls.length:=by omega
        have hall:=HALL.out;rw[hie,zI (zC _)]at hall;have HV:=zA (putListV_of (putListP_ok ls (by omega) hall));have hcv3:=hrow.conv
        have HI:=zA hie;clear hie hall hcv;go_wp2;go_ret2;exact⟨by rw[HV.out,HI.out,zI (zC _)];rfl,hb⟩
theorem bytes_eta(s:ByteArray):(⟨s.data.toList.toArray⟩:ByteArray)=s:=by cases s;simp
theorem open_strs{H:Type}{enc:TypeId×Value->H}{W:World}{a:Option Addr}{len cap fuel:Nat}{cs:List Value}{x:DataW H×List MemPlace}
 (hf:DataW.trod enc Try.prog W 0 (fun _=>true) true fuel 27 cs=some x) (hcs:cs=[.slice a len cap]):∃ls,StrsAt W (.slice a len cap) ls:=by
 subst hcs;rcases Go.ChangeShapes.open_strings Try.underlying27 Try.underlying9 (by kernel_rfl) hf with⟨hcs,_⟩|⟨ad,len',cap',ss,hcs,_,hl,hm,hz,_,hcell,_⟩
 . simp only[List.cons.injEq,Value.slice.injEq,and_true]at hcs;obtain⟨rfl,rfl,rfl⟩:=hcs;exact⟨[],by simp,none,0,rfl,.inl rfl⟩
 . simp only[List.cons.injEq,Value.slice.injEq,and_true]at hcs;obtain⟨rfl,rfl,rfl⟩:=hcs;simp only[if_true]at hz;have hl2:((ss.take len).map fun s=>s.data.toList).length=len:=by rw[List.length_map,zQ];omega
   refine⟨(ss.take len).map fun s=>s.data.toList,by rw[hl2];unfold maxLen at hm;omega,some ad,cap,by rw[hl2],?_⟩;by_cases h0:len=0
   . left;rw[h0];simp
   . right;obtain⟨b,off,spot⟩:=ad;have hspot:spot=none:=by simpa[Addr.add]using World.cell?_spot (hcell 0 (by omega))
     subst hspot;refine⟨b,off,rfl,World.block_lt_of_cell? W _ (hcell 0 (by omega)),fun j t hj=>?_⟩;have hj1:j<len:=by have:=(zG.1 hj).1;rw[hl2]at this;exact this
     rw[zP,List.getElem?_take_of_lt hj1,zD (by omega)]at hj;simp only[Option.map_some,Option.some.injEq]at hj;rw[<- Go.WideShapes.add_plain,hcell j (by omega),List.getD,zD (by omega),<- hj,bytes_eta];rfl
theorem sum_step{ls:List (List UInt8)}{i:Nat}{t:List UInt8}(hx:ls[i]?=some t):sumL (ls.take (i+1))=sumL (ls.take i)+t.length:=by
 rw[zW,hx,zY,sumL_snoc]
def ValsAt(w:World)(v:Value)(vs:List Value):Prop:=
 vs.length<=9223372036854775807/\∃ao cap,v=.slice ao vs.length cap/\(vs=[]\/∃b o,ao=some ⟨b,o,none⟩/\b<w.heap.size/\∀j x,vs[j]?=some x->w.cell? ⟨b,o+j,none⟩=some x)
theorem ValsAt.below{w w':World}{v:Value}{vs:List Value}(h:ValsAt w v vs)(hb:Below w.heap.size w w'):ValsAt w' v vs:=by
 obtain⟨h1,ao,cap,h2,h3⟩:=h;refine⟨h1,ao,cap,h2,?_⟩;rcases h3 with h3|⟨b,o,ha,hl,hc⟩
 . exact .inl h3
 . exact .inr ⟨b,o,ha,zF hl hb.size,fun j t hj=>(hb.cell (p:=⟨b,o+j,none⟩) hl).trans (hc j t hj)⟩
theorem valsAt_own{w:World}{B:Nat}{e:TypeId}{v:Value}{vs:List Value}(h:w.ownsRow B e 1 v vs.length vs)(hl:vs.length<=9223372036854775807):ValsAt w v vs:=by
 refine⟨hl,?_⟩;have h2:=h.2;rcases h2 with⟨rfl,h0⟩|⟨g,cap,cur,rfl,h2⟩
 . exact⟨none,0,by rw[h0],.inl (zU.1 h0)⟩
 . refine⟨_,cap,rfl,.inr ⟨g,0,rfl,(h.lt g rfl).2,fun j t hj=>?_⟩⟩;rw[Nat.zero_add,h.cellAt j (by have:=(zG.1 hj).1;omega),hj]
def intCs(ns:List Int):List Value:=ns.map (Value.int .i64)
theorem intCs_snoc(ns:List Int)(x:Int):intCs (ns++[x])=intCs ns++[.int .i64 x]:=by simp[intCs]
theorem intCs_len(ns:List Int):(intCs ns).length=ns.length:=by simp[intCs]
def IntsAt(w:World)(v:Value)(ns:List Int):Prop:=ValsAt w v (intCs ns)
theorem IntsAt.below{w w':World}{v:Value}{ns:List Int}(h:IntsAt w v ns)(hb:Below w.heap.size w w'):IntsAt w' v ns:=ValsAt.below h hb
def RowsAt(w:World)(v:Value)(rs:List (List (List UInt8))):Prop:=
 ∃vs,ValsAt w v vs/\vs.length=rs.length/\∀(j:Nat) x r,vs[j]?=some x->rs[j]?=some r->StrsAt w x r
theorem RowsAt.below{w w':World}{v:Value}{rs:List (List (List UInt8))}(h:RowsAt w v rs)(hb:Below w.heap.size w w'):RowsAt w' v rs:=by
 obtain⟨vs,h1,h2,h3⟩:=h;exact⟨vs,h1.below hb,h2,fun j x r hx hr=>(h3 j x r hx hr).below hb⟩
theorem RowsAt.parts{w:World}{v:Value}{rs:List (List (List UInt8))}(h:RowsAt w v rs):
 rs.length<=9223372036854775807/\∃ao cap vs,v=.slice ao rs.length cap/\vs.length=rs.length/\(vs=[]\/∃b o,ao=some ⟨b,o,none⟩/\b<w.heap.size/\∀j x,vs[j]?=some x->w.cell? ⟨b,o+j,none⟩=some x)/\∀(j:Nat) x r,vs[j]?=some x->rs[j]?=some r->StrsAt w x r:=by
 obtain⟨vs,⟨hlen,ao,cap,rfl,hc⟩,hvl,hrs⟩:=h;exact⟨by omega,ao,cap,vs,by rw[hvl],hvl,hc,hrs⟩
def NoteAt(w:World)(v:Value)(n:NoteD):Prop:=
 ∃vn vt vr,v=.agg #[.int .i64 n.kind,vn,vt,vr]/\IntsAt w vn n.nums/\StrsAt w vt n.texts/\RowsAt w vr n.rows
theorem NoteAt.below{w w':World}{v:Value}{n:NoteD}(h:NoteAt w v n)(hb:Below w.heap.size w w'):NoteAt w' v n:=by
 obtain⟨vn,vt,vr,h1,h2,h3,h4⟩:=h;exact⟨vn,vt,vr,h1,h2.below hb,h3.below hb,h4.below hb⟩
theorem take_good{P:Int->Prop}{ls:List Int}{i:Nat}{t:Int}(h:∀u∈ls.take i,P u)(hx:ls[i]?=some t)(ht:P t):∀u∈ls.take (i+1),P u:=by
 intro u hu;rw[zW,hx]at hu;simp at hu;rcases hu with hu|rfl
 . exact h u hu
 . exact ht
set_option maxHeartbeats 1000000 in
theorem numsMayBe_any(v:Value)(n:NoteD)(w:World)(h:NoteAt w v n):
 Calls Try.prog 57 #[v] w fun e w'=>e=.returned (.bool (decide n.numsOk))/\Below w.heap.size w w':=by
 obtain⟨vn,vt,vr,rfl,hn,_,_⟩:=h;obtain⟨kind,nums,texts,rows⟩:=n;simp only at*;obtain⟨hlen,ao,cap,rfl,hc⟩:=hn;rw[intCs_len]at*;have HC:=zA hc;clear hc;by_cases h1:kind<1
 . have HV:Hid (decide (NoteD.mk kind nums texts rows).numsOk=false):=zA (decide_eq_false (fun h=>by have:=h.1;simp only at this;omega));go_enter Try.func57,Try.ntmps57;go_wp2;go_ret;exact⟨by rw[HV.out];rfl,(zB _ _).alloc (zC _) _⟩
 . by_cases h2:255<kind
   . have HV:Hid (decide (NoteD.mk kind nums texts rows).numsOk=false):=zA (decide_eq_false (fun h=>by have:=h.2.1;simp only at this;omega));go_enter Try.func57,Try.ntmps57;go_wp2;go_ret;exact⟨by rw[HV.out];rfl,(zB _ _).alloc (zC _) _⟩
   . by_cases h3:64<nums.length
     . have HV:Hid (decide (NoteD.mk kind nums texts rows).numsOk=false):=zA (decide_eq_false (fun h=>by have:=h.2.2.1;simp only at this;omega));go_enter Try.func57,Try.ntmps57;go_wp2;go_ret;exact⟨by rw[HV.out];rfl,(zB _ _).alloc (zC _) _⟩
     . go_enter Try.func57,Try.ntmps57;go_wp2;go_loop [22] (fun c=>∃i:Nat,i<=nums.length/\c=.int .i64 i/\∀x∈nums.take i,goodNum x) (fun c=>nums.length-(intOf c).toNat)
       case atStart=>exact⟨0,zO _,rfl,by simp⟩
       case round=>
        obtain⟨i,hi,rfl,hall⟩:=hrel;have HALL:=zA hall;clear hall;by_cases hlt:i<nums.length
        . obtain⟨x,hx⟩:∃x,nums[i]?=some x:=⟨_,zD hlt⟩
          rcases HC.out with hnil|⟨b,o,rfl,hl,hc⟩
          . exfalso;have:=intCs_len nums;rw[hnil]at this;simp at this;omega
          . have hcx:=hc i (.int .i64 x) (by rw[intCs,zP,hx];rfl);have HX:=zA hx;have hltI:(i:Int)<(nums.length:Int):=by omega
            clear hc hx;by_cases hg:goodNum x
            . have HA2:=zA (take_good HALL.out HX.out hg);obtain⟨g1,g2⟩:=hg;go_wp2;go_round
              case rel=>exact⟨i+1,by omega,by go_num,HA2.out⟩
              case measure=>simp[intOf];omega
            . have HV:Hid (decide (NoteD.mk kind nums texts rows).numsOk=false):=zA (decide_eq_false (fun h=>hg (h.2.2.2 x (zJ HX.out))));by_cases g1:x<0
              . clear hg;go_wp2;go_ret;exact⟨by rw[HV.out];rfl,(zB _ _).alloc (zC _) _⟩
              . have g2:4611686018427387903<x:=by
                 rw[goodNum]at hg;omega
                clear hg;go_wp2;go_ret;exact⟨by rw[HV.out];rfl,(zB _ _).alloc (zC _) _⟩
        . have hall:=HALL.out;rw[zI (by omega)]at hall;have HV:Hid (decide (NoteD.mk kind nums texts rows).numsOk=true):=zA (zM ⟨by simp only;omega,by simp only;omega,by simp only;omega,hall⟩);clear hall;go_wp2;go_ret;exact⟨by rw[HV.out];rfl,(zB _ _).alloc (zC _) _⟩
end Go.Proofs.Ytjoddkeamboeoaa
