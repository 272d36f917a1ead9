/- Math3, Str, List. -/
import Derived.Test.YtjoddkeamboeoaaMG5
set_option maxRecDepth 100000
namespace Go.Proofs.Ytjoddkeamboeoaa
def strP(l:List UInt8):List UInt8×Nat×Nat:=
 if(numP l).2.2≠0 then ([],0,(numP l).2.2)
 else if 65536<(numP l).1 then ([],0,12)
 else if l.length<(numP l).2.1+(numP l).1 then ([],0,11)
 else((l.drop (numP l).2.1).take (numP l).1,(numP l).2.1+(numP l).1,0)
def strB(l:List UInt8):List UInt8:=numB l.length++l
theorem numP_used(l:List UInt8):(numP l).2.1<=l.length/\(numP l).2.1<=9/\(numP l).1<=9223372036854775807/\(numP l).2.2<=12:=by
 unfold numP;split
 . simp
 . split
   . simp
   . split
     . simp
     . split
       . simp
       . simp;omega
theorem strP_err(l:List UInt8)(h:(numP l).2.2≠0):strP l=([],0,(numP l).2.2):=by rw[strP,if_pos h]
theorem strP_great(l:List UInt8)(h:(numP l).2.2=0)(h2:65536<(numP l).1):strP l=([],0,12):=by
 rw[strP,if_neg (by omega),if_pos h2]
theorem strP_cut(l:List UInt8)(h:(numP l).2.2=0)(h2:¬ 65536<(numP l).1)(h3:l.length<(numP l).2.1+(numP l).1):strP l=([],0,11):=by
 rw[strP,if_neg (by omega),if_neg h2,if_pos h3]
theorem strP_ok(l:List UInt8)(h:(numP l).2.2=0)(h2:¬ 65536<(numP l).1)(h3:¬l.length<(numP l).2.1+(numP l).1):
 strP l=((l.drop (numP l).2.1).take (numP l).1,(numP l).2.1+(numP l).1,0):=by
 rw[strP,if_neg (by omega),if_neg h2,if_neg h3]
theorem strP_strB(t:List UInt8)(h:t.length<=65536)(r:List UInt8):strP (strB t++r)=(t,(strB t).length,0):=by
 have e:=numP_numB t.length (by omega) (t++r);rw[<- List.append_assoc]at e;have e2:strB t++r=numB t.length++t++r:=rfl;rw[e2,strP_ok _ (by rw[e]) (by rw[e];omega) (by rw[e];simp),e];simp[strB]
theorem strP_used(l:List UInt8):(strP l).2.1<=l.length/\(strP l).2.2<=12:=by
 have:=numP_used l;unfold strP;split
 . simp;omega
 . split
   . simp
   . split
     . simp
     . simp;omega
def listLoop:Nat->List UInt8->Nat->List (List UInt8)->List (List UInt8)×Nat×Nat
 |0,_,k,acc=>(acc,k,0)
 |n+1,l,k,acc=>
  if(strP (l.drop k)).2.2≠0 then ([],0,(strP (l.drop k)).2.2)
  else listLoop n l (k+(strP (l.drop k)).2.1) (acc++[(strP (l.drop k)).1])
def listP(l:List UInt8):List (List UInt8)×Nat×Nat:=
 if(numP l).2.2≠0 then ([],0,(numP l).2.2)
 else if 4096<(numP l).1 then ([],0,12)
 else listLoop (numP l).1 l (numP l).2.1 []
theorem loop_err{n k e k':Nat}{l:List UInt8}{t:List UInt8}{acc:List (List UInt8)}(h:strP (l.drop k)=(t,k',e))(he:e≠0):listLoop (n+1) l k acc=([],0,e):=by
 rw[listLoop,h,if_pos he]
theorem loop_ok{n k k':Nat}{l:List UInt8}{t:List UInt8}{acc:List (List UInt8)}(h:strP (l.drop k)=(t,k',0)):listLoop (n+1) l k acc=listLoop n l (k+k') (acc++[t]):=by
 rw[listLoop,h,if_neg (by simp)]
def textsB(ls:List (List UInt8)):List UInt8:=(ls.map strB).flatten
theorem textsB_snoc(ls:List (List UInt8))(t:List UInt8):textsB (ls++[t])=textsB ls++strB t:=by simp[textsB]
theorem textsB_cons(t:List UInt8)(ls:List (List UInt8)):textsB (t::ls)=strB t++textsB ls:=by simp[textsB]
theorem strB_le(t:List UInt8)(h:t.length<=65536):(strB t).length<=65545:=by
 have:=numB_le t.length;simp[strB];omega
theorem textsB_le(ls:List (List UInt8))(h:∀t∈ls,t.length<=65536):(textsB ls).length<=65545*ls.length:=by
 induction ls with
 |nil=>simp[textsB]
 |cons t ls ih=>
  have a:=strB_le t (h t (by simp));have b:=ih (fun u hu=>h u (by simp[hu]));rw[textsB_cons,zE,zR];omega
def putListP(ls:List (List UInt8)):List UInt8×Nat:=
 if 4096<ls.length\/∃t∈ls,65536<t.length then ([],12)else (numB ls.length++textsB ls,0)
theorem putListP_many(ls:List (List UInt8))(h:4096<ls.length):putListP ls=([],12):=by rw[putListP,if_pos (.inl h)]
theorem putListP_long(ls:List (List UInt8))(t:List UInt8)(ht:t∈ls)(h:65536<t.length):putListP ls=([],12):=by rw[putListP,if_pos (.inr ⟨t,ht,h⟩)]
theorem putListP_ok(ls:List (List UInt8))(h:ls.length<=4096)(h2:∀t∈ls,t.length<=65536):putListP ls=(numB ls.length++textsB ls,0):=by
 rw[putListP,if_neg];rintro (h3|⟨t,ht,h3⟩)
 . omega
 . have:=h2 t ht;omega
theorem listLoop_back(ls:List (List UInt8))(h:∀t∈ls,t.length<=65536):∀(pre tail:List UInt8) (acc:List (List UInt8)),
 listLoop ls.length (pre++textsB ls++tail) pre.length acc=(acc++ls,pre.length+(textsB ls).length,0):=by
 induction ls with
 |nil=>intro pre tail acc;simp[listLoop,textsB]
 |cons t ls ih=>
  intro pre tail acc;have hd:(pre++textsB (t::ls)++tail).drop pre.length=strB t++(textsB ls++tail):=by
   rw[List.append_assoc,List.drop_left,textsB_cons,List.append_assoc]
  have hs:strP ((pre++textsB (t::ls)++tail).drop pre.length)=(t,(strB t).length,0):=by
   rw[hd];exact strP_strB t (h t (by simp)) _
  rw[zR,loop_ok hs];have e:pre++textsB (t::ls)++tail=(pre++strB t)++textsB ls++tail:=by rw[textsB_cons];simp
  have:=ih (fun u hu=>h u (by simp[hu])) (pre++strB t) tail (acc++[t]);rw[zE]at this;rw[e,this,textsB_cons];simp[Nat.add_assoc]
theorem listP_back(ls:List (List UInt8))(hl:ls.length<=4096)(h:∀t∈ls,t.length<=65536)(tail:List UInt8):
 listP (numB ls.length++textsB ls++tail)=(ls,(numB ls.length++textsB ls).length,0):=by
 have e:=numP_numB ls.length (by omega) (textsB ls++tail);rw[<- List.append_assoc]at e;unfold listP;rw[e];simp only[ne_eq,not_true,if_false];rw[if_neg (by omega),listLoop_back ls h];simp
def sumL(ls:List (List UInt8)):Nat:=(ls.map List.length).sum
theorem sumL_snoc(ls:List (List UInt8))(t:List UInt8):sumL (ls++[t])=sumL ls+t.length:=by simp[sumL]
end Go.Proofs.Ytjoddkeamboeoaa
namespace Go.Proofs.Ytjoddkeamboeoaa
open Go.RowKit
set_option maxHeartbeats 400000 in
theorem clone_any(s:ByteArray)(w:World)(hs:s.size<=140737488355328):
 Calls Try.prog 99 #[.string s] w fun e w'=>e=.returned (.string s)/\Below w.heap.size w w':=by
 go_enter Try.func99,Try.ntmps99;go_wp2_with fail;refine(Try.stringslite_Clone _ _ (by omega)).mono ?_;rintro e w1 ⟨rfl,hb⟩;go_wp2;go_ret;exact⟨rfl,hb⟩
def strV(l:List UInt8):Value:=.tuple #[.string ⟨(strP l).1.toArray⟩,.int .i64 ((strP l).2.1:Int),.int .i64 ((strP l).2.2:Int)]
theorem strV_of{l t:List UInt8}{k e:Nat}(h:strP l=(t,k,e)):strV l=.tuple #[.string ⟨t.toArray⟩,.int .i64 (k:Int),.int .i64 (e:Int)]:=by rw[strV,h]
theorem numV_of{l:List UInt8}{n k e:Nat}(h:numP l=(n,k,e)):numV l=.tuple #[.int .i64 (n:Int),.int .i64 (k:Int),.int .i64 (e:Int)]:=by rw[numV,h]
theorem bytes_ext{a b:ByteArray}(h:a.data.toList=b.data.toList):a=b:=by
 cases a;cases b;simp at h;simp[h]
theorem extract_list(s:ByteArray)(k n:Nat):s.extract k (k+n)=⟨((s.data.toList.drop k).take n).toArray⟩:=by
 apply bytes_ext;rw[Lib.extract_data];simp
theorem size_data_list(s:ByteArray):s.data.toList.length=s.size:=by rw[Array.length_toList];rfl
set_option maxHeartbeats 400000 in
theorem str_any(s:ByteArray)(w:World)(hs:s.size<=140737488355328):
 Calls Try.prog 98 #[.string s] w fun e w'=>e=.returned (strV s.data.toList)/\Below w.heap.size w w':=by
 have hsm:s.size<=maxLen:=by unfold maxLen;omega
 obtain⟨n,k,er,hP⟩:∃n k er,numP s.data.toList=(n,k,er):=⟨_,_,_,rfl⟩
 obtain⟨u1,u2,u3,u4⟩:=numP_used s.data.toList;have hl:=size_data_list s;have c1:=strP_err s.data.toList;have c2:=strP_great s.data.toList;have c3:=strP_cut s.data.toList;have c4:=strP_ok s.data.toList;rw[hP]at u1 u2 u3 u4 c1 c2 c3 c4;simp only at u1 u2 u3 u4 c1 c2 c3 c4;rw[hl]at u1 c3 c4;have HN:=zA (numV_of hP);clear hP hl;by_cases h1:er=0
 . subst h1;by_cases h2:65536<n
   . have hV:=zA (strV_of (c2 rfl h2));clear c1 c2 c3 c4;go_enter Try.func98,Try.ntmps98;go_wp2_with fail;refine(num_any _ _ hsm).mono ?_;rintro e w1 ⟨rfl,rfl⟩;rw[HN.out];go_wp2;go_ret3;exact⟨by rw[hV.out];rfl,zB _ _⟩
   . by_cases h3:s.size<k+n
     . have hV:=zA (strV_of (c3 rfl h2 h3));clear c1 c2 c3 c4;go_enter Try.func98,Try.ntmps98;go_wp2_with fail;refine(num_any _ _ hsm).mono ?_;rintro e w1 ⟨rfl,rfl⟩;rw[HN.out];go_wp2;go_ret3;exact⟨by rw[hV.out];rfl,zB _ _⟩
     . have hV:=zA (strV_of (c4 rfl h2 h3));clear c1 c2 c3 c4;go_enter Try.func98,Try.ntmps98;go_wp2_with fail;refine(num_any _ _ hsm).mono ?_;rintro e w1 ⟨rfl,rfl⟩;rw[HN.out];go_wp2_with fail;refine(clone_any _ _ (by rw[ByteArray.size_extract];omega)).mono ?_;rintro e w2 ⟨rfl,hb⟩;rw[extract_list];go_wp2;go_ret3;exact⟨by rw[hV.out];rfl,hb⟩
 . have hV:=zA (strV_of (c1 h1));have h1':((er:Int)!=0)=true:=by rw[bne_iff_ne];omega
   clear c1 c2 c3 c4;go_enter Try.func98,Try.ntmps98;go_wp2_with fail;refine(num_any _ _ hsm).mono ?_;rintro e w1 ⟨rfl,rfl⟩;rw[HN.out];go_wp2;go_ret3;exact⟨by rw[hV.out];rfl,zB _ _⟩
set_option maxHeartbeats 400000 in
theorem rStr_any(s:ByteArray)(w:World)(hs:s.size<=140737488355328):
 Calls Try.prog 94 #[.string s] w fun e w'=>e=.returned (strV s.data.toList)/\w'=w:=by
 have hsm:s.size<=maxLen:=by unfold maxLen;omega
 obtain⟨n,k,er,hP⟩:∃n k er,numP s.data.toList=(n,k,er):=⟨_,_,_,rfl⟩
 obtain⟨u1,u2,u3,u4⟩:=numP_used s.data.toList;have hl:=size_data_list s;have c1:=strP_err s.data.toList;have c2:=strP_great s.data.toList;have c3:=strP_cut s.data.toList;have c4:=strP_ok s.data.toList;rw[hP]at u1 u2 u3 u4 c1 c2 c3 c4;simp only at u1 u2 u3 u4 c1 c2 c3 c4;rw[hl]at u1 c3 c4;have HN:=zA (numV_of hP);clear hP hl;by_cases h1:er=0
 . subst h1;by_cases h2:65536<n
   . have hV:=zA (strV_of (c2 rfl h2));clear c1 c2 c3 c4;go_enter Try.func94,Try.ntmps94;go_wp2_with fail;refine(rNum_any _ _ hsm).mono ?_;rintro e w1 ⟨rfl,rfl⟩;rw[HN.out];go_wp2;go_ret3;exact⟨by rw[hV.out];rfl,rfl⟩
   . by_cases h3:s.size<k+n
     . have hV:=zA (strV_of (c3 rfl h2 h3));clear c1 c2 c3 c4;go_enter Try.func94,Try.ntmps94;go_wp2_with fail;refine(rNum_any _ _ hsm).mono ?_;rintro e w1 ⟨rfl,rfl⟩;rw[HN.out];go_wp2;go_ret3;exact⟨by rw[hV.out];rfl,rfl⟩
     . have hV:=zA (strV_of (c4 rfl h2 h3));have hex:=zA (extract_list s k n);clear c1 c2 c3 c4;go_enter Try.func94,Try.ntmps94;go_wp2_with fail;refine(rNum_any _ _ hsm).mono ?_;rintro e w1 ⟨rfl,rfl⟩;rw[HN.out];go_wp2;go_ret3;exact⟨by rw[hV.out,<- hex.out];rfl,rfl⟩
 . have hV:=zA (strV_of (c1 h1));have h1':((er:Int)!=0)=true:=by rw[bne_iff_ne];omega
   clear c1 c2 c3 c4;go_enter Try.func94,Try.ntmps94;go_wp2_with fail;refine(rNum_any _ _ hsm).mono ?_;rintro e w1 ⟨rfl,rfl⟩;rw[HN.out];go_wp2;go_ret3;exact⟨by rw[hV.out];rfl,rfl⟩
def putStrV(l:List UInt8):Value:=if 65536<l.length then .tuple #[.string ⟨#[]⟩,.int .i64 12]else .tuple #[.string ⟨(strB l).toArray⟩,.int .i64 0]
theorem append_list(a:List UInt8)(s:ByteArray):(⟨a.toArray⟩:ByteArray)++s=⟨(a++s.data.toList).toArray⟩:=by
 apply bytes_ext;rw[append_data]
set_option maxHeartbeats 400000 in
theorem putStr_any(s:ByteArray)(w:World)(hs:s.size<=140737488355328):
 Calls Try.prog 78 #[.string s] w fun e w'=>e=.returned (putStrV s.data.toList)/\Below w.heap.size w w':=by
 have hl:=size_data_list s;by_cases h:65536<s.size
 . have hV:putStrV s.data.toList=.tuple #[.string ⟨#[]⟩,.int .i64 12]:=by rw[putStrV,if_pos (by omega)]
   have HV:=zA hV;clear hV hl;go_enter Try.func78,Try.ntmps78;go_wp2;go_ret2;exact⟨by rw[HV.out];rfl,zB _ _⟩
 . have hV:putStrV s.data.toList=.tuple #[.string (⟨(numB s.size).toArray⟩++s),.int .i64 0]:=by
    rw[putStrV,if_neg (by omega),append_list,strB,hl]
   have HV:=zA hV;have h9:=numB_le s.size;have hz:=size_list (numB s.size);clear hV hl;go_enter Try.func78,Try.ntmps78;go_wp2_with fail;refine(numBytes_any _ _ (by omega)).mono ?_;rintro e w1 ⟨rfl,hb⟩;go_wp2;go_ret2;exact⟨by rw[HV.out];rfl,hb⟩
set_option maxHeartbeats 400000 in
theorem rPutStr_any(s:ByteArray)(w:World)(hs:s.size<=140737488355328):
 Calls Try.prog 81 #[.string s] w fun e w'=>e=.returned (putStrV s.data.toList)/\Below w.heap.size w w':=by
 have hl:=size_data_list s;by_cases h:65536<s.size
 . have hV:putStrV s.data.toList=.tuple #[.string ⟨#[]⟩,.int .i64 12]:=by rw[putStrV,if_pos (by omega)]
   have HV:=zA hV;clear hV hl;go_enter Try.func81,Try.ntmps81;go_wp2;go_ret2;exact⟨by rw[HV.out];rfl,zB _ _⟩
 . have hV:putStrV s.data.toList=.tuple #[.string (⟨(numB s.size).toArray⟩++s),.int .i64 0]:=by
    rw[putStrV,if_neg (by omega),append_list,strB,hl]
   have HV:=zA hV;have h9:=numB_le s.size;have hz:=size_list (numB s.size);clear hV hl;go_enter Try.func81,Try.ntmps81;go_wp2_with fail;refine(rPutNum_pos _ _ (by omega)).mono ?_;rintro e w1 ⟨rfl,hb⟩;go_wp2;go_ret2;exact⟨by rw[HV.out];rfl,hb⟩
theorem info9:(Try.prog.info? 9).map (fun i=>(i.zero,i.size,i.bytes))=some (some (.string ⟨#[]⟩),1,16):=by kernel_rfl
def strCs(l:List (List UInt8)):List Value:=l.map fun t=>.string ⟨t.toArray⟩
theorem strCs_snoc(l:List (List UInt8))(t:List UInt8):strCs (l++[t])=strCs l++[.string ⟨t.toArray⟩]:=by simp[strCs]
theorem extract_end(s:ByteArray)(k:Nat):(s.extract k s.size).data.toList=s.data.toList.drop k:=by
 rw[Lib.extract_data];exact zI (by rw[zN,size_data_list];exact zC _)
theorem below_grown{w w':World}(hb:Below w.heap.size w w'):w.grownBy w' none:=⟨hb.os,hb.tape,hb.output,hb.size,fun k hk _=>hb.block k hk⟩
theorem ownsRow_below{w w':World}{B n:Nat}{e:TypeId}{v:Value}{xs:List Value}(h:w.ownsRow B e 1 v n xs)(hb:Below w.heap.size w w'):w'.ownsRow B e 1 v n xs:=
 h.kept (below_grown hb) (Classical.em _)
def ListEnd(l:List UInt8)(w:World)(e:Ending)(w':World):Prop:=
 ∃v,e=.returned (.tuple #[v,.int .i64 ((listP l).2.1:Int),.int .i64 ((listP l).2.2:Int)])/\
  w'.ownsRow w.heap.size 9 1 v (listP l).1.length (strCs (listP l).1)/\Below w.heap.size w w'
theorem listEnd_of{l:List UInt8}{w w':World}{v:Value}{ts:List (List UInt8)}{k e:Nat}(h:listP l=(ts,k,e))(ho:w'.ownsRow w.heap.size 9 1 v ts.length (strCs ts))(hb:Below w.heap.size w w'):
 ListEnd l w (.returned (.tuple #[v,.int .i64 (k:Int),.int .i64 (e:Int)])) w':=by
 unfold ListEnd;rw[h];exact⟨v,rfl,ho,hb⟩
set_option maxHeartbeats 1000000 in
theorem list_any(s:ByteArray)(w:World)(hs:s.size<=140737488355328):
 Calls Try.prog 93 #[.string s] w (ListEnd s.data.toList w):=by
 have hsm:s.size<=maxLen:=by unfold maxLen;omega
 obtain⟨i0,hi,hz0,hz1,hz2⟩:=info_parts info9;obtain⟨n,k0,er,hP⟩:∃n k er,numP s.data.toList=(n,k,er):=⟨_,_,_,rfl⟩
 obtain⟨q1,q2,q3,q4⟩:=numP_used s.data.toList;have hL:listP s.data.toList=if er≠0 then ([],0,er)else if 4096<n then ([],0,12)else listLoop n s.data.toList k0 []:=by
  unfold listP;rw[hP]
 rw[hP]at q1 q2 q3 q4;simp only at q1 q2 q3 q4;rw[size_data_list]at q1;have HN:=zA (numV_of hP);clear hP;by_cases h1:er=0
 . subst h1;by_cases h2:4096<n
   . have hV:listP s.data.toList=([],0,12):=by rw[hL,if_neg (by simp),if_pos h2]
     have HV:=zA hV;clear hL hV;go_enter Try.func93,Try.ntmps93;go_wp2_with fail;refine(num_any _ _ hsm).mono ?_;rintro e w1 ⟨rfl,rfl⟩;rw[HN.out];go_wp2;go_ret3;exact listEnd_of HV.out (World.ownsRow_nil _ _ _ _) (zB _ _)
   . have hV:listP s.data.toList=listLoop n s.data.toList k0 []:=by rw[hL,if_neg (by simp),if_neg h2]
     have HV:=zA hV;clear hL hV;go_enter Try.func93,Try.ntmps93;go_wp2_with fail;refine(num_any _ _ hsm).mono ?_;rintro e w1 ⟨rfl,rfl⟩;rw[HN.out];go_wp2_with fail;go_loopw [2,3,21] (fun v u c wr=>∃(i k:Nat) (acc:List (List UInt8)),i<=n/\c=.int .i64 i/\u=.int .i64 k/\k<=s.size/\acc.length=i/\listP s.data.toList=listLoop (n-i) s.data.toList k acc/\wr.ownsRow w1.heap.size 9 1 v acc.length (strCs acc)/\Below w1.heap.size w1 wr) (fun _ _ c _=>n-(intOf c).toNat)
     case atStart=>exact⟨0,k0,[],zO _,rfl,rfl,q1,rfl,by simpa using HV.out,World.ownsRow_nil _ _ _ _,zB _ _⟩
     case round=>
      obtain⟨i,k,acc,hin,rfl,rfl,hk,hacc,hLL,hown,hb⟩:=hrel;have hsz:=hb.size;have HA:=zA hacc;have hal:acc.length<=4096:=by omega
      have HLL:=zA hLL;clear hacc hLL;by_cases hlt:i<n
      . obtain⟨t,k',e,hS⟩:∃t k' e,strP (s.data.toList.drop k)=(t,k',e):=⟨_,_,_,rfl⟩
        obtain⟨v1,v2⟩:=strP_used (s.data.toList.drop k);rw[hS]at v1 v2;simp only[zN,size_data_list]at v1 v2;have HS:=zA (strV_of hS);by_cases he:e=0
        . subst he;have hstep:=loop_ok (n:=n-i-1) (acc:=acc) hS;rw[show n-i-1+1=n-i by omega,show n-i-1=n-(i+1) by omega]at hstep;have HST:=zA (HLL.out.trans hstep);clear hS hstep;go_wp2_with fail;refine(str_any _ _ (by rw[ByteArray.size_extract];omega)).mono ?_;rintro e w2 ⟨rfl,hb2⟩;rw[extract_end,HS.out];have hown2:=ownsRow_below hown hb2;have hb12:=hb.trans (hb2.mono hsz);have hsz2:=hb12.size;clear hown hb2 hb hsz HS HLL;go_wp2_with (at_builtin;refine wpList_append_own _ rfl _ _ 27 rfl w1.heap.size 9 i0 (.string ⟨#[]⟩) 1 16 Try.underlying27 hi hz0 hz1 hz2 rfl (by decide) _ _ _ rfl (hown2.alloc _) ⟨w2.heap.size,0,none⟩ 1 1 [.string ⟨t.toArray⟩] rfl rfl (cell_one_new _ _ _) ?c2 ?c3 ?c4 ?c5 ?_)
          case c2=>intro u hu;simp at hu;subst hu;rfl
          case c3=>unfold maxLen;omega
          case c4=>omega
          case c5=>simp;omega
          intro v' w3 hown3 hgrow3 _;have hb3:Below w1.heap.size w1 w3:=(hb12.alloc hsz2 _).grown hgrow3 (by simp;omega) (fun k hk=>(hown2.lt k hk).1);have ho3:w3.ownsRow w1.heap.size 9 1 v' (acc++[t]).length (strCs (acc++[t])):=by
           rw[strCs_snoc,zE];exact hown3
          clear hown3 hgrow3 hown2 hb12 hsz2;go_wp2;go_roundw
          case rel=>exact⟨i+1,k+k',acc++[t],by omega,by go_num,by go_num,by omega,by rw[zE,HA.out];rfl,HST.out,ho3,hb3⟩
          case measure=>simp[intOf];omega
        . have hfin:listP s.data.toList=([],0,e):=by
           rw[HLL.out,show n-i=n-i-1+1 by omega,loop_err hS he]
          have HF:=zA hfin;have he':((e:Int)!=0)=true:=by rw[bne_iff_ne];omega
          clear hS hfin;go_wp2_with fail;refine(str_any _ _ (by rw[ByteArray.size_extract];omega)).mono ?_;rintro e w2 ⟨rfl,hb2⟩;rw[extract_end,HS.out];have hb12:=hb.trans (hb2.mono hsz);clear hown hb2 hb hsz;go_wp2;go_ret3;exact listEnd_of HF.out (World.ownsRow_nil _ _ _ _) hb12
      . have hie:i=n:=by omega
        have hfin:listP s.data.toList=(acc,k,0):=by
         rw[HLL.out,hie,Nat.sub_self,listLoop]
        have HF:=zA hfin;clear hfin hie;go_wp2;go_ret3;exact listEnd_of HF.out hown hb
 . have hV:listP s.data.toList=([],0,er):=by rw[hL,if_pos h1]
   have HV:=zA hV;have h1':((er:Int)!=0)=true:=by rw[bne_iff_ne];omega
   clear hL hV;go_enter Try.func93,Try.ntmps93;go_wp2_with fail;refine(num_any _ _ hsm).mono ?_;rintro e w1 ⟨rfl,rfl⟩;rw[HN.out];go_wp2;go_ret3;exact listEnd_of HV.out (World.ownsRow_nil _ _ _ _) (zB _ _)
end Go.Proofs.Ytjoddkeamboeoaa
