/- WRBody, WRBodyW. -/
import Derived.Test.YtjoddkeamboeoaaMG19
set_option maxRecDepth 100000
namespace Go.Proofs.Ytjoddkeamboeoaa
open Go.RowKit
def RowB0(w:World)(B:Nat)(v:Value)(l:List UInt8):Prop:=(v=.slice none 0 0/\l=[])\/RowB w B v l
theorem RowB0.below{w w':World}{B:Nat}{v:Value}{l:List UInt8}(h:RowB0 w B v l)(hb:Below w.heap.size w w'):RowB0 w' B v l:=by
 rcases h with h|h
 . exact .inl h
 . exact .inr (h.below hb)
theorem run_append_nilB{w:World}{B:Nat}(s:ByteArray)(h0:0<s.size)(hlim:s.size<=140737488355328)(hB:B<=w.heap.size):
 ∃v' w',(Builtin.append_ #[104,9] 104 #[.slice none 0 0,.string s]).run Try.prog w=.ok v' w'/\RowB w' B v' s.data.toList/\Below B w w':=by
 obtain⟨i0,hi,hz0,hz1,hz2⟩:=info_parts info5;have hl:=size_data_list s;have hsrc:Src Try.prog i0.size 9 (.string s) s.size (byteCells s) w:=by rw[hz1];exact Src.ofString w Try.underlying9 s
 have hbl:=byteCells_length s;have hget:∀(j:Nat) (x:UInt8),s.data.toList[j]?=some x->(byteCells s)[j]?=some (Value.int .u8 (x.toNat:Int)):=fun j x hx=>by rw[byteCells,zP,hx];rfl
 have hr:=run_append_grow_src (P:=Try.prog) w 104 9 104 5 i0 (.int .u8 0) Try.underlying104 hi hz0 none 0 0 [] (run_firstCells_none w.drew i0.size 0 0 0) (.string s) s.size (byteCells s) hsrc (by omega) (by omega)
  (by rw[hz2];exact growslice_fits (by omega) (by omega))
 rw[Nat.zero_add,List.nil_append]at hr;have hge:=grownCap_ge w s.size 0 5;have hnew:=heap_alloc_new w.drew (.cells ((byteCells s).toArray++Builtin.zeroCells (Value.int IntKind.u8 0).cells (grownCap w s.size 0 5-s.size)) 5);have hsz:((byteCells s).toArray++Builtin.zeroCells (Value.int IntKind.u8 0).cells (grownCap w s.size 0 5-s.size)).size=grownCap w s.size 0 5:=by
  have hz1:(Value.int IntKind.u8 0).cells.size=1:=rfl;simp only[Array.size_append,List.size_toArray,size_zeroCells,hz1,hbl];omega
 refine⟨_,_,hr,⟨w.heap.size,grownCap w s.size 0 5,by rw[hl],hB,by simp,by rw[hl];exact hge,?_,?_⟩,((zB _ _).drew).alloc hB _⟩
 . intro j x hx;simp only[World.cell?];rw[show w.heap.size=w.drew.heap.size from rfl,hnew];have hj:j<s.size:=by have:=(zG.1 hx).1;rw[hl]at this;exact this
   simp only;rw[Array.getElem?_append_left (by simp[hbl];omega),List.getElem?_toArray];exact hget _ _ hx
 . intro j _ hj2;constructor
   . simp only[World.cell?];rw[show w.heap.size=w.drew.heap.size from rfl,hnew];simp only;rw[Array.getElem?_eq_getElem (by rw[hsz];exact hj2)];rfl
   . simp only[World.frozen?];rw[show w.heap.size=w.drew.heap.size from rfl,hnew];simp
theorem wpList_append_rowB0{w:World}{ops:Array Oper}{rest:List Oper}{o:Oper}{a:Act}{Q:Exit->Act->World->Prop}(hgd:o.guard=none)(sl x:Operand)
 (ho:o.op=.call { callee:=.builtin .append,args:=#[sl,x],argTypes:=#[104,9] }) (hty:o.type=104)
 (B:Nat) (v:Value) (l:List UInt8) (hs:a.eval sl=v) (hrow:RowB0 w B v l) (s:ByteArray) (hx:a.eval x=.string s) (h0:0<s.size) (hlim:l.length+s.size<=140737488355328) (hB:B<=w.heap.size)
 (h:∀v' w',RowB w' B v' (l++s.data.toList)->Below B w w'->wpList Try.prog ops Q rest (a.put o.dst v') w'):wpList Try.prog ops Q (o::rest) a w:=by
 rcases hrow with⟨rfl,rfl⟩|hrow
 . refine wpList_plain hgd fun K hK=>?_
   obtain⟨v',w',hr,h2,h3⟩:=run_append_nilB (w:=w) (B:=B) s h0 (by simpa using hlim) hB;unfold Oper.wp execOp;simp only[ho,hty,resolve,invoke,builtin,Sem.run_bind,Sem.run_pure,Result.andThen_ok,List.map_toArray,List.map_cons,List.map_nil,hs,hx,hr];exact hK _ _ (h v' w' (by simpa using h2) h3)
 . exact wpList_append_rowB hgd sl x ho hty B v l hs hrow s hx hlim hB h
set_option maxHeartbeats 400000 in
theorem rSize_any(v:Value)(ls:List (List UInt8))(w:World)(hv:StrsAt w v ls)(hs:shortL ls)(hl:ls.length<=4096):
 Calls Try.prog 69 #[v] w fun e w'=>e=.returned (.int .i64 (sumL ls))/\w'=w:=by
 obtain⟨hlen,ao,cap,rfl,hc⟩:=hv;have HC:=zA hc;have HS:=zA hs;clear hc hs;go_enter Try.func69,Try.ntmps69;go_wp2;go_loop [3,4] (fun k c=>∃i:Nat,i<=ls.length/\c=.int .i64 i/\k=.int .i64 (sumL (ls.take i))) (fun _ c=>ls.length-(intOf c).toNat)
 case atStart=>exact⟨0,zO _,rfl,by simp[sumL]⟩
 case round=>
  obtain⟨i,hi,rfl,rfl⟩:=hrel;by_cases hlt:i<ls.length
  . obtain⟨t,ht⟩:∃t,ls[i]?=some t:=⟨_,zD hlt⟩
    rcases HC.out with hnil|⟨b,o,rfl,hl,hc⟩
    . rw[hnil]at ht;simp at ht
    . have hcx:=hc i t ht;have hst:=zA (sum_step ht);have htl:=HS.out t (zJ ht);have hltI:(i:Int)<(ls.length:Int):=by omega
      have hts:=size_list t;have hsl:=sumL_le (ls:=ls.take i) (fun u hu=>HS.out u (List.mem_of_mem_take hu));rw[zQ,Nat.min_eq_left hi]at hsl;clear hc ht;obtain⟨S,hS⟩:∃S,S=sumL (ls.take i):=⟨_,rfl⟩
      rw[<- hS]at hsl ⊢;have HSS:=zA hS;clear hS;go_wp2;go_round
      case rel=>exact⟨i+1,by omega,by go_num,by rw[hst.out,<- HSS.out];go_num⟩
      case measure=>simp[intOf];omega
  . rw[zI (by omega)];go_wp2;go_ret;exact⟨rfl,rfl⟩
theorem wpList_append_nums{w:World}{ops:Array Oper}{rest:List Oper}{o:Oper}{a:Act}{Q:Exit->Act->World->Prop}(hgd:o.guard=none)(s x:Operand)
 (ho:o.op=.call { callee:=.builtin .append,args:=#[s,x],argTypes:=#[33,33] })
 (B:Nat) (v u:Value) (A nums:List Int) (hA:0<A.length) (hA2:A.length<=64) (hs:a.eval s=v) (hx:a.eval x=u) (hown:w.ownsRow B 3 1 v A.length (intCs A)) (hu:IntsAt w u nums) (hl:nums.length<=64) (hB:B<=w.heap.size)
 (h:∀v' w',w'.ownsRow B 3 1 v' (A++nums).length (intCs (A++nums))->Below B w w'->wpList Try.prog ops Q rest (a.put o.dst v') w'):wpList Try.prog ops Q (o::rest) a w:=by
 obtain⟨i0,hi,hz0,hz1,hz2⟩:=info_parts infoInt;obtain⟨_,ao,cp,rfl,hc⟩:=hu.parts;by_cases hn:nums=[]
 . subst hn;obtain⟨g,cap,rfl,hBg,hlt⟩:=hown.form hA;have hcap:A.length<=cap:=own_cap' hown;have hsrc:Src Try.prog i0.size 33 (.slice ao 0 cp) 0 [] w:=by
    cases ao with
    |none=>exact Src.ofNil w Try.underlying33 cp
    |some ad=>exact Src.ofSlice w Try.underlying33 ad 0 cp [] (by simp) (by simp) (by simp)
   have hr:=run_append_room_src (P:=Try.prog) w 33 33 o.type 3 i0 Try.underlying33 hi g 0 A.length cap (.slice ao 0 cp) 0 [] hsrc (by omega) (by simp) (by simp);refine wpList_plain hgd fun K hK=>?_
   unfold Oper.wp execOp;simp only[List.length_nil]at hx;simp only[ho,resolve,invoke,builtin,Sem.run_bind,Sem.run_pure,Result.andThen_ok,List.map_toArray,List.map_cons,List.map_nil,hs,hx,hr];refine hK _ _ (h _ _ ?_ (zB _ _));rw[List.append_nil];exact hown
 . rcases hc with hc|⟨b,o2,rfl,hbl,hcell⟩
   . exact absurd hc hn
   . have hpos:0<nums.length:=List.length_pos_iff.2 hn;refine wpList_append_lies w hgd s x 33 ho B 3 i0 (.int .i64 0) 1 8 Try.underlying33 hi hz0 hz1 hz2 rfl (by decide) v A.length (intCs A) hs hown ⟨b,o2,none⟩ nums.length cp (intCs nums) hx (by rw[intCs_len];omega) ?_ ?_ hpos (by unfold maxLen;omega) (by omega) hB _ rfl ?_
     . intro j y hy;rw[intCs,zP]at hy;obtain⟨z,hz,rfl⟩:=Option.map_eq_some_iff.1 hy;rw[show (⟨b,o2,none⟩:Addr).add j=⟨b,o2+j,none⟩from by cases j<;>simp[Addr.add]];exact hcell j z hz
     . intro y hy;obtain⟨z,_,rfl⟩:=List.mem_map.1 hy;rfl
     . intro g cap w' hown' hg _ _;refine h _ _ ?_ ((zB _ _).grown hg hB (fun k hk=>own_ge hown hk));have e:intCs (A++nums)=intCs A++intCs nums:=by simp[intCs]
       rw[e,zE];exact hown'
where
 own_cap' {w:World} {B n cap:Nat} {ao:Option Addr} {e:TypeId} {size:Nat} {xs:List Value} (h:w.ownsRow B e size (.slice ao n cap) n xs):n<=cap:=by
  rcases h.2 with⟨h0,h1⟩|⟨g,cap',cur,e1,_,_,e4,_⟩
  . omega
  . simp only[Value.slice.injEq]at e1;omega
theorem sumR_le{rs:List (List (List UInt8))}(h:∀r∈rs,shortL r):sumR rs<=65536*cntR rs:=by
 induction rs with
 |nil=>simp[sumR]
 |cons r rs ih=>
  have a:=ih (fun u hu=>h u (by simp[hu]));have b:=sumL_le (h r (by simp));simp only[sumR,cntR,List.map_cons,List.sum_cons]at *;omega
def RBodyEnd(n:NoteD)(e:Ending):Prop:=(n.may/\e=.returned (.tuple #[.string ⟨n.body.toArray⟩,.bool true]))\/(¬n.may/\∃s,e=.returned (.tuple #[.string s,.bool false]))
theorem rBodyEnd_not{n:NoteD}(h:¬n.may)(s:ByteArray):RBodyEnd n (.returned (.tuple #[.string s,.bool false])):=.inr ⟨h,s,rfl⟩
theorem rBodyEnd_may{n:NoteD}(h:n.may):RBodyEnd n (.returned (.tuple #[.string ⟨n.body.toArray⟩,.bool true])):=.inl ⟨h,rfl⟩
theorem numsB_full(n:NoteD)(k:Nat):numsB ([(k:Int),(n.nums.length:Int)]++n.nums)=numB k++numB n.nums.length++numsB n.nums:=by
 simp[numsB]
theorem keepB'{a b c:World}(h:Below a.heap.size a b)(h2:Below b.heap.size b c):Below a.heap.size a c:=h.trans (h2.mono h.size)
set_option maxHeartbeats 4000000 in
theorem rBody_any(v:Value)(n:NoteD)(w:World)(h:NoteAt w v n):
 Calls Try.prog 51 #[v] w fun e w'=>RBodyEnd n e/\Below w.heap.size w w':=by
 have hN:=h;obtain⟨vn,vt,vr,rfl,hn,ht,hr⟩:=h;have hbb:Below w.heap.size w (w.alloc (.cells #[.int .i64 n.kind,vn,vt,vr] 36)):=(zB _ _).alloc (zC _) _;have N0:=zA (hN.below hbb);have HBB:=zA hbb;have C0:=zA (rShaped_any _ n _ N0.out);clear hN hbb;by_cases hsh:n.shaped
 . rw[zM hsh]at C0;have HT:=zA ht;obtain⟨hl2,a2,cp2,rfl,_⟩:=ht;obtain⟨hl3,a3,cp3,vs,rfl,hvl,hc3,hrs⟩:=hr.parts;have HN:=zA hn;have H3:=zA hc3;have HVL:=zA hvl;have HRS:=zA hrs;have HSH:=zA hsh;clear hn hr hc3 hvl hrs hsh;have hr4:=HSH.out.2.1;have ht4:=HSH.out.2.2.1;go_enter Try.func51,Try.ntmps51;go_wp2_with fail;refine C0.out.mono ?_;rintro e w1 ⟨rfl,hb1⟩;have B1:=zA (HBB.out.trans (hb1.mono (by simp)));have CELLS:Hid (∀w2,Below w1.heap.size w1 w2->(w2.cell? ⟨w.heap.size,0,none⟩=some (.int .i64 n.kind)/\w2.cell? ⟨w.heap.size,1,none⟩=some vn/\w2.cell? ⟨w.heap.size,2,none⟩=some (.slice a2 n.texts.length cp2)/\w2.cell? ⟨w.heap.size,3,none⟩=some (.slice a3 n.rows.length cp3))/\Below w.heap.size w w2):=zA (fun w2 h2=>by
    exact⟨box_cells (hb1.trans (h2.mono hb1.size)),B1.out.trans (h2.mono B1.out.size)⟩)
   have hlt0:w.heap.size<w1.heap.size:=by have:=hb1.size;simp at this;omega
   clear hb1 C0;obtain⟨⟨g0,g1,g2,g3⟩,_⟩:=CELLS.out w1 (zB _ _);have C1:=zA (rSize_any _ n.texts w1 (HT.out.below B1.out) HSH.out.2.2.2.1 (by omega));go_wp2_with fail;refine C1.out.mono ?_;rintro e w2 ⟨rfl,hw2⟩;subst hw2;go_wp2;go_loop [4,5] (fun k c=>∃i:Nat,i<=n.rows.length/\c=.int .i64 i/\k=.int .i64 ((sumL n.texts+sumR (n.rows.take i):Nat):Int)) (fun _ c=>n.rows.length-(intOf c).toNat)
   case atStart=>exact⟨0,zO _,rfl,by simp[sumR]⟩
   case round=>
    obtain⟨i,hi,rfl,rfl⟩:=hrel;have hsT:=sumL_le (ls:=n.texts) HSH.out.2.2.2.1;by_cases hlt:i<n.rows.length
    . obtain⟨r,hx⟩:∃x,n.rows[i]?=some x:=⟨_,zD hlt⟩
      obtain⟨x,hvx⟩:∃x,vs[i]?=some x:=⟨_,zD (by rw[HVL.out];exact hlt)⟩
      rcases H3.out with hnil|⟨b,o,rfl,hl,hc⟩
      . rw[hnil]at hvx;simp at hvx
      . have hcx:=(B1.out.cell (p:=⟨b,o+i,none⟩) hl).trans (hc i x hvx);have hrm:=zJ hx;have hrl:r.length<=4096:=by have:=len_le_cntR hrm;omega
        have C2:=zA (rSize_any _ r w2 ((HRS.out i x r hvx hx).below B1.out) (HSH.out.2.2.2.2 r hrm) hrl);have hst:=zA (rows_step hx);have hltI:(i:Int)<(n.rows.length:Int):=by omega
        have hq1:=sumL_le (HSH.out.2.2.2.2 r hrm);have hq2:sumR (n.rows.take i)<=65536*cntR (n.rows.take i):=sumR_le (fun u hu=>HSH.out.2.2.2.2 u (List.mem_of_mem_take hu));have hq3:=(cntR_take_le n.rows i).1;clear hc hx hvx hrm;obtain⟨S,hS⟩:∃S,S=sumL n.texts+sumR (n.rows.take i):=⟨_,rfl⟩
        have hSb:S<=4294967296:=by omega
        rw[<- hS];have HSS:=zA hS;clear hS hq2 hq3 hsT;obtain⟨Z,hZ⟩:∃Z,Z=sumL r:=⟨_,rfl⟩
        rw[<- hZ]at C2 hq1;have HZ:=zA hZ;clear hZ;go_wp2_with fail;refine C2.out.mono ?_;rintro e w3 ⟨rfl,hw3⟩;subst hw3;go_wp2;go_round
        case rel=>
         have e1:=hst.out.2;have e2:=HSS.out;have e3:=HZ.out;exact⟨i+1,by omega,by go_num,congrArg (Value.int .i64) (by omega)⟩
        case measure=>simp[intOf];omega
    . rw[zI (by omega)];obtain⟨S,hS⟩:∃S,S=sumL n.texts+sumR n.rows:=⟨_,rfl⟩
      rw[<- hS];have HSZ:Hid (S=n.size):=zA hS;clear hS hsT;by_cases hbig:1048576<S
      . have hbI:(1048576:Int)<(S:Int):=by omega
        have HNM:Hid (¬n.may):=zA (fun hm=>by have:=size_le_body n;have:=hm.2.2;have:=HSZ.out;omega);go_wp2;go_ret2;exact⟨rBodyEnd_not HNM.out _,B1.out⟩
      . have hbI:¬(1048576:Int)<(S:Int):=by omega
        have HFIT:Hid n.textsFit:=zA ⟨HSH.out.2,by rw[<- HSZ.out];omega⟩;obtain⟨k,hk⟩:∃k:Nat,n.kind=(k:Int):=⟨n.kind.toNat,(Int.toNat_of_nonneg (by have:=HSH.out.1.1;omega)).symm⟩
        have HK:=zA hk;have hk255:k<=255:=by have:=HSH.out.1.2.1;omega
        obtain⟨hnl,a1,cp1,rfl,_⟩:=HN.out.parts;have hn64:=HSH.out.1.2.2.1;rw[hk]at g0;have OWN:Hid ((w2.alloc (.cells #[.int .i64 k,.int .i64 n.nums.length] 3)).ownsRow w2.heap.size 3 1 (.slice (some ⟨w2.heap.size,0,none⟩) 2 2) [(k:Int),(n.nums.length:Int)].length (intCs [(k:Int),(n.nums.length:Int)])):=zA ⟨rfl,.inr ⟨w2.heap.size,2,#[.int .i64 k,.int .i64 n.nums.length],rfl,zC _,box_at _ _,zC _,by unfold maxLen;omega,rfl,rfl⟩⟩;have IU:Hid (IntsAt (w2.alloc (.cells #[.int .i64 k,.int .i64 n.nums.length] 3)) (.slice a1 n.nums.length cp1) n.nums):=zA (HN.out.below (B1.out.alloc B1.out.size _));clear hk;go_wp2_with (at_builtin;refine wpList_append_nums rfl (.tmp 47) (.tmp 49) rfl w2.heap.size _ _ [(k:Int),(n.nums.length:Int)] n.nums (by simp) (by simp) (by rfl) (by rfl) OWN.out IU.out hn64 (by simp) ?_);intro va wA hownA hbA;have IA:Hid (IntsAt wA va ([(k:Int),(n.nums.length:Int)]++n.nums)):=zA (by
         have h2:w2.heap.size<=w2.heap.size:=zC _;have h3:wA.ownsRow w2.heap.size 3 1 va (intCs ([(k:Int),(n.nums.length:Int)]++n.nums)).length (intCs ([(k:Int),(n.nums.length:Int)]++n.nums)):=by rw[intCs_len];exact hownA
         exact valsAt_own h3 (by rw[intCs_len,zE];simp;omega))
        have BA:Hid (Below w2.heap.size w2 wA):=zA (((zB _ _).alloc (zC _) _).trans hbA);clear hownA hbA OWN IU;have KEEP:Hid (∀wr,Below wA.heap.size wA wr->Below w2.heap.size w2 wr):=zA (fun wr h=>keepB' BA.out h);obtain⟨_,aA,cA,hvA,hcA⟩:=IA.out.parts;subst hvA;have HCA:=zA hcA;obtain⟨A,hA⟩:∃A,A=[(k:Int),(n.nums.length:Int)]++n.nums:=⟨_,rfl⟩
        rw[<- hA]at HCA ⊢;have HAL:Hid (∀x∈A,goodNum x):=zA (by
         intro x hx;rw[hA]at hx;simp only[List.cons_append,List.nil_append,List.mem_cons]at hx;rcases hx with rfl|rfl|hx
         . exact⟨by omega,by omega⟩
         . exact⟨by omega,by omega⟩
         . exact HSH.out.1.2.2.2 x hx)
        have hAl:A.length<=66:=by rw[hA];simp;omega
        have HA:=zA hA;clear hA hcA IA g0 g1 g2 g3;go_wp2;go_loopw [6,8] (fun ot c wr=>∃(i:Nat) (vo:Value),vo=ot/\i<=A.length/\c=.int .i64 i/\RowB0 wr wA.heap.size vo (numsB (A.take i))/\Below wA.heap.size wA wr) (fun _ c _=>A.length-(intOf c).toNat)
        case atStart=>exact⟨0,_,rfl,zO _,rfl,.inl ⟨rfl,by simp[numsB]⟩,zB _ _⟩
        case round=>
         clear hi;obtain⟨i,vo,rfl,hi,rfl,hro,hbr⟩:=hrel;have HRO:=zA hro;have HBR:=zA hbr;clear hro hbr;by_cases hlt:i<A.length
         . obtain⟨x,hx⟩:∃x,A[i]?=some x:=⟨_,zD hlt⟩
           have hg:=HAL.out x (zJ hx);obtain⟨m,rfl⟩:∃m:Nat,x=(m:Int):=⟨x.toNat,(Int.toNat_of_nonneg hg.1).symm⟩
           have hm63:m<2^63:=by have:=hg.2;omega
           rcases HCA.out with hnil|⟨b,o,rfl,hl,hc⟩
           . rw[hnil]at hx;simp at hx
           . have hcx:=(HBR.out.cell (p:=⟨b,o+i,none⟩) hl).trans (hc i m hx);have HX:=zA (numsB_step hx);have hltI:(i:Int)<(A.length:Int):=by omega
             have hnl2:=numsB_le (A.take i);rw[zQ,Nat.min_eq_left hi]at hnl2;have hz:=size_list (numB m);have h9:=numB_le m;have h1:0<(numB m).length:=by rw[numB_length];omega
             have C:=zA (rPutNum_pos m wr hm63);clear hc hx hg;go_wp2_with fail;refine C.out.mono ?_;rintro e w5 ⟨rfl,hb5⟩;have RO5:=zA (HRO.out.below hb5);have B5:=zA (keepB HBR.out hb5 (zC _));clear hcx hb5 C HRO HBR;go_wp2_with (at_builtin;refine wpList_append_rowB0 rfl _ _ rfl rfl wA.heap.size _ _ (by rfl) RO5.out ⟨(numB m).toArray⟩ (by rfl) (by rw[size_list];exact h1) (by rw[size_list];omega) B5.out.size ?_);intro v6 w6 hr6 hb6;have R6:Hid (RowB0 w6 wA.heap.size v6 (numsB (A.take (i+1)))):=zA (.inr (by rw[HX.out];exact hr6));have B6:=zA (B5.out.trans hb6);clear hr6 hb6 RO5 B5;go_wp2;go_roundw
             case rel=>exact⟨i+1,_,rfl,by omega,by go_num,R6.out,B6.out⟩
             case measure=>simp[intOf];omega
         . have hro:=HRO.out;rw[zI (by omega)]at hro;have HRO2:=zA hro;clear hro HRO;obtain⟨W5,hW5⟩:∃W,W=wr:=⟨_,rfl⟩
           subst hW5;obtain⟨⟨g0,g1,g2,g3⟩,hbw5⟩:=CELLS.out _ (KEEP.out _ HBR.out);have hnA:=numsB_le A;have hL:=listB_le HFIT.out;have HP:Hid (putListV n.texts=.tuple #[.string ⟨(listB n.texts).toArray⟩,.int .i64 0]):=zA (putListV_of (putListP_ok n.texts (by omega) HSH.out.2.2.2.1));have C:=zA (rPutList_any _ n.texts W5 (HT.out.below hbw5) (fun _ t ht=>zS (HSH.out.2.2.2.1 t ht) (by decide)));have hL1:0<(listB n.texts).length:=by rw[listB,zE,numB_length];omega
           have hzL:=size_list (listB n.texts);clear hbw5;go_wp2_with fail;refine C.out.mono ?_;rintro e w6 ⟨rfl,hb6⟩;rw[HP.out];have RO6:=zA (HRO2.out.below hb6);have B6:=zA (keepB HBR.out hb6 (zC _));clear hb6 C HRO2 HBR g0 g1 g2 g3 HP;go_wp2_with (at_builtin;refine wpList_append_rowB0 rfl (.tmp 74) (.tmp 75) rfl rfl wA.heap.size _ _ (by rfl) RO6.out ⟨(listB n.texts).toArray⟩ (by rfl) (by rw[size_list];exact hL1) (by rw[size_list];omega) B6.out.size ?_);intro v7 w7 hr7 hb7;have R7:=zA hr7;have B7:=zA (B6.out.trans hb7);clear hr7 hb7 RO6 B6;obtain⟨⟨g0,g1,g2,g3⟩,_⟩:=CELLS.out _ (KEEP.out _ B7.out);have C2:=zA (rPutNum_pos n.rows.length w7 (by omega));have hzN:=size_list (numB n.rows.length);have h9:=numB_le n.rows.length;have h1:0<(numB n.rows.length).length:=by rw[numB_length];omega
           go_wp2_with fail;refine C2.out.mono ?_;rintro e w8 ⟨rfl,hb8⟩;have R8:=zA (R7.out.below hb8);have B8:=zA (keepB B7.out hb8 (zC _));clear hb8 C2 R7 B7 g0 g1 g2 g3;go_wp2_with (at_builtin;refine wpList_append_rowB0 rfl (.tmp 84) (.tmp 85) rfl rfl wA.heap.size _ _ (by rfl) (.inr R8.out) ⟨(numB n.rows.length).toArray⟩ (by rfl) (by rw[size_list];exact h1) (by rw[size_list,zE];omega) B8.out.size ?_);intro v9 w9 hr9 hb9;change RowB w9 wA.heap.size v9 (numsB A++(listB n.texts++numB n.rows.length))at hr9;obtain⟨O,hO⟩:∃O,O=numsB A++(listB n.texts++numB n.rows.length):=⟨_,rfl⟩
           rw[<- hO]at hr9;have hOl:O.length<=1086100:=by rw[hO];simp only[zE];omega
           have HO:=zA hO;have R9:=zA hr9;have B9:=zA (B8.out.trans hb9);clear hr9 hb9 R8 B8 hO;obtain⟨⟨g0,g1,g2,g3⟩,_⟩:=CELLS.out _ (KEEP.out _ B9.out);go_wp2;clear g0 g1 g2 g3;go_loopw [6,15] (fun ot c wr=>∃(j:Nat) (vo:Value),vo=ot/\j<=n.rows.length/\c=.int .i64 j/\RowB wr wA.heap.size vo (O++rowsB (n.rows.take j))/\Below wA.heap.size wA wr) (fun _ c _=>n.rows.length-(intOf c).toNat)
           case atStart=>exact⟨0,_,rfl,zO _,rfl,by simpa[rowsB]using R9.out,B9.out⟩
           case round=>
            obtain⟨j,vo,rfl,hj,rfl,hro,hbr⟩:=hrel;have HRO:=zA hro;have HBR:=zA hbr;clear hro hbr R9 B9;obtain⟨⟨g0,g1,g2,g3⟩,hbw5⟩:=CELLS.out _ (KEEP.out _ HBR.out);have hnl2:=rowsB_take_le HFIT.out j;by_cases hlt2:j<n.rows.length
            . obtain⟨r,hx⟩:∃x,n.rows[j]?=some x:=⟨_,zD hlt2⟩
              obtain⟨x,hvx⟩:∃x,vs[j]?=some x:=⟨_,zD (by rw[HVL.out];exact hlt2)⟩
              rcases H3.out with hnil|⟨b,o,rfl,hl,hc⟩
              . rw[hnil]at hvx;simp at hvx
              . have hcx:=(hbw5.cell (p:=⟨b,o+j,none⟩) hl).trans (hc j x hvx);have hrm:=zJ hx;obtain⟨hrl,hrc⟩:=row_le HFIT.out hrm;have HX:=zA (rowsB_step hx);have hltI:(j:Int)<(n.rows.length:Int):=by omega
                have HPr:Hid (putListV r=.tuple #[.string ⟨(listB r).toArray⟩,.int .i64 0]):=zA (putListV_of (putListP_ok r hrc (HSH.out.2.2.2.2 r hrm)));have C3:=zA (rPutList_any _ r wr ((HRS.out j x r hvx hx).below hbw5) (fun _ t ht=>zS (HSH.out.2.2.2.2 r hrm t ht) (by decide)));have hr1:0<(listB r).length:=by rw[listB,zE,numB_length];omega
                have hzr:=size_list (listB r);clear hc hx hvx hrm hbw5;go_wp2_with fail;refine C3.out.mono ?_;rintro e w10 ⟨rfl,hb10⟩;rw[HPr.out];have R10:=zA (HRO.out.below hb10);have B10:=zA (keepB HBR.out hb10 (zC _));clear hb10 C3 HRO HBR g0 g1 g2 g3 HPr hcx;go_wp2_with (at_builtin;refine wpList_append_rowB0 rfl (.tmp 103) (.tmp 104) rfl rfl wA.heap.size _ _ (by rfl) (.inr R10.out) ⟨(listB r).toArray⟩ (by rfl) (by rw[size_list];exact hr1) (by rw[size_list,zE];omega) B10.out.size ?_);intro v11 w11 hr11 hb11;have R11:Hid (RowB w11 wA.heap.size v11 (O++rowsB (n.rows.take (j+1)))):=zA (by rw[HX.out];exact hr11);have B11:=zA (B10.out.trans hb11);clear hr11 hb11 R10 B10;go_wp2;go_roundw
                case rel=>exact⟨j+1,_,rfl,by omega,by go_num,R11.out,B11.out⟩
                case measure=>simp[intOf];omega
            . have hro:=HRO.out;rw[zI (by omega)]at hro;have hbody:O++rowsB n.rows=n.body:=by
               rw[HO.out,HA.out,numsB_full n k,<- body_of_parts n k HK.out];simp
              rw[hbody]at hro;have hcv:=hro.conv
              obtain⟨g,cap,rfl,_⟩:=hro;have HB5:=zA hbw5;clear hbody hbw5 HRO;by_cases hmb:n.body.length<=1048576
              . have hmbI:(n.body.length:Int)<=1048576:=by omega
                have HM:Hid n.may:=zA ⟨HSH.out.1,HSH.out.2,hmb⟩;go_wp2;go_ret2;exact⟨rBodyEnd_may HM.out,HB5.out⟩
              . have hmbI:¬(n.body.length:Int)<=1048576:=by omega
                have HM:Hid (¬n.may):=zA (fun hm=>hmb hm.2.2);go_wp2;go_ret2;exact⟨rBodyEnd_not HM.out _,HB5.out⟩
 . rw[decide_eq_false hsh]at C0;have HNM:Hid (¬n.may):=zA (fun hm=>hsh ⟨hm.1,hm.2.1⟩);clear hsh;go_enter Try.func51,Try.ntmps51;go_wp2_with fail;refine C0.out.mono ?_;rintro e w1 ⟨rfl,hb1⟩;go_wp2;go_ret2;exact⟨rBodyEnd_not HNM.out _,HBB.out.trans (hb1.mono (by simp))⟩
end Go.Proofs.Ytjoddkeamboeoaa
