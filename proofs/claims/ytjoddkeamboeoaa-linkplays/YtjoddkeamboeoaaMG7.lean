/- RList, Same, PutList, Laws3. -/
import Derived.Test.YtjoddkeamboeoaaMG6
import Derived.Test.YtjoddkeamboeoaaMG2
import Derived.Deep.QuietTactic
import Derived.BigQuiet
import Derived.WalkSmall
set_option maxRecDepth 100000
namespace Go.Proofs.Ytjoddkeamboeoaa
open Go.RowKit
set_option maxHeartbeats 1000000 in
theorem rList_any(s:ByteArray)(w:World)(hs:s.size<=140737488355328):
 Calls Try.prog 85 #[.string s] w (ListEnd s.data.toList w):=by
 have hsm:s.size<=maxLen:=by unfold maxLen;omega
 obtain⟨i0,hi,hz0,hz1,hz2⟩:=info_parts info9;obtain⟨n,k0,er,hP⟩:∃n k er,numP s.data.toList=(n,k,er):=⟨_,_,_,rfl⟩
 obtain⟨q1,q2,q3,q4⟩:=numP_used s.data.toList;have hL:listP s.data.toList=if er≠0 then ([],0,er)else if 4096<n then ([],0,12)else listLoop n s.data.toList k0 []:=by
  unfold listP;rw[hP]
 rw[hP]at q1 q2 q3 q4;simp only at q1 q2 q3 q4;rw[size_data_list]at q1;have HN:=zA (numV_of hP);clear hP;by_cases h1:er=0
 . subst h1;by_cases h2:4096<n
   . have hV:listP s.data.toList=([],0,12):=by rw[hL,if_neg (by simp),if_pos h2]
     have HV:=zA hV;clear hL hV;go_enter Try.func85,Try.ntmps85;go_wp2_with fail;refine(rNum_any _ _ hsm).mono ?_;rintro e w1 ⟨rfl,rfl⟩;rw[HN.out];go_wp2;go_ret3;exact listEnd_of HV.out (World.ownsRow_nil _ _ _ _) (zB _ _)
   . have hV:listP s.data.toList=listLoop n s.data.toList k0 []:=by rw[hL,if_neg (by simp),if_neg h2]
     have HV:=zA hV;clear hL hV;go_enter Try.func85,Try.ntmps85;go_wp2_with fail;refine(rNum_any _ _ hsm).mono ?_;rintro e w1 ⟨rfl,rfl⟩;rw[HN.out];go_wp2_with fail;go_loopw [8,6,9] (fun v u c wr=>∃(i k:Nat) (acc:List (List UInt8)),i<=n/\c=.int .i64 i/\u=.int .i64 k/\k<=s.size/\acc.length=i/\listP s.data.toList=listLoop (n-i) s.data.toList k acc/\wr.ownsRow w1.heap.size 9 1 v acc.length (strCs acc)/\Below w1.heap.size w1 wr) (fun _ _ c _=>n-(intOf c).toNat)
     case atStart=>exact⟨0,k0,[],zO _,rfl,rfl,q1,rfl,by simpa using HV.out,World.ownsRow_nil _ _ _ _,zB _ _⟩
     case round=>
      obtain⟨i,k,acc,hin,rfl,rfl,hk,hacc,hLL,hown,hb⟩:=hrel;have hsz:=hb.size;have HA:=zA hacc;have hal:acc.length<=4096:=by omega
      have HLL:=zA hLL;clear hacc hLL;by_cases hlt:i<n
      . obtain⟨t,k',e,hS⟩:∃t k' e,strP (s.data.toList.drop k)=(t,k',e):=⟨_,_,_,rfl⟩
        obtain⟨v1,v2⟩:=strP_used (s.data.toList.drop k);rw[hS]at v1 v2;simp only[zN,size_data_list]at v1 v2;have HS:=zA (strV_of hS);by_cases he:e=0
        . subst he;have hstep:=loop_ok (n:=n-i-1) (acc:=acc) hS;rw[show n-i-1+1=n-i by omega,show n-i-1=n-(i+1) by omega]at hstep;have HST:=zA (HLL.out.trans hstep);clear hS hstep;go_wp2_with fail;refine(rStr_any _ _ (by rw[ByteArray.size_extract];omega)).mono ?_;rintro e w2 ⟨rfl,hw2⟩;have hb2:Below wr.heap.size wr w2:=by rw[hw2];exact zB _ _
          clear hw2;rw[extract_end,HS.out];have hown2:=ownsRow_below hown hb2;have hb12:=hb.trans (hb2.mono hsz);have hsz2:=hb12.size;clear hown hb2 hb hsz HS HLL;go_wp2_with (at_builtin;refine wpList_append_own _ rfl _ _ 27 rfl w1.heap.size 9 i0 (.string ⟨#[]⟩) 1 16 Try.underlying27 hi hz0 hz1 hz2 rfl (by decide) _ _ _ rfl (hown2.alloc _) ⟨w2.heap.size,0,none⟩ 1 1 [.string ⟨t.toArray⟩] rfl rfl (cell_one_new _ _ _) ?c2 ?c3 ?c4 ?c5 ?_)
          case c2=>intro u hu;simp at hu;subst hu;rfl
          case c3=>unfold maxLen;omega
          case c4=>omega
          case c5=>simp;omega
          intro v' w3 hown3 hgrow3 _;have hb3:Below w1.heap.size w1 w3:=(hb12.alloc hsz2 _).grown hgrow3 (by simp;omega) (fun k hk=>(hown2.lt k hk).1);have ho3:w3.ownsRow w1.heap.size 9 1 v' (acc++[t]).length (strCs (acc++[t])):=by
           rw[strCs_snoc,zE];exact hown3
          clear hown3 hgrow3 hown2 hb12 hsz2;go_wp2;go_roundw
          case rel=>exact⟨i+1,k+k',acc++[t],by omega,by go_num,by go_num,by omega,by rw[zE,HA.out];rfl,HST.out,ho3,hb3⟩
          case measure=>simp[intOf];omega
        . have hfin:listP s.data.toList=([],0,e):=by
           rw[HLL.out,show n-i=n-i-1+1 by omega,loop_err hS he]
          have HF:=zA hfin;have he':((e:Int)!=0)=true:=by rw[bne_iff_ne];omega
          clear hS hfin;go_wp2_with fail;refine(rStr_any _ _ (by rw[ByteArray.size_extract];omega)).mono ?_;rintro e w2 ⟨rfl,hw2⟩;have hb2:Below wr.heap.size wr w2:=by rw[hw2];exact zB _ _
          clear hw2;rw[extract_end,HS.out];have hb12:=hb.trans (hb2.mono hsz);clear hown hb2 hb hsz;go_wp2;go_ret3;exact listEnd_of HF.out (World.ownsRow_nil _ _ _ _) hb12
      . have hie:i=n:=by omega
        have hfin:listP s.data.toList=(acc,k,0):=by
         rw[HLL.out,hie,Nat.sub_self,listLoop]
        have HF:=zA hfin;clear hfin hie;go_wp2;go_ret3;exact listEnd_of HF.out hown hb
 . have hV:listP s.data.toList=([],0,er):=by rw[hL,if_pos h1]
   have HV:=zA hV;have h1':((er:Int)!=0)=true:=by rw[bne_iff_ne];omega
   clear hL hV;go_enter Try.func85,Try.ntmps85;go_wp2_with fail;refine(rNum_any _ _ hsm).mono ?_;rintro e w1 ⟨rfl,rfl⟩;rw[HN.out];go_wp2;go_ret3;exact listEnd_of HV.out (World.ownsRow_nil _ _ _ _) (zB _ _)
def StrsAt(w:World)(v:Value)(ss:List (List UInt8)):Prop:=
 ss.length<=9223372036854775807/\∃ao cap,v=.slice ao ss.length cap/\(ss=[]\/∃b o,ao=some ⟨b,o,none⟩/\b<w.heap.size/\∀j t,ss[j]?=some t->w.cell? ⟨b,o+j,none⟩=some (.string ⟨t.toArray⟩))
theorem StrsAt.below{w w':World}{v:Value}{ss:List (List UInt8)}(h:StrsAt w v ss)(hb:Below w.heap.size w w'):StrsAt w' v ss:=by
 obtain⟨h1,ao,cap,h2,h3⟩:=h;refine⟨h1,ao,cap,h2,?_⟩;rcases h3 with h3|⟨b,o,ha,hl,hc⟩
 . exact .inl h3
 . exact .inr ⟨b,o,ha,zF hl hb.size,fun j t hj=>(hb.cell (p:=⟨b,o+j,none⟩) hl).trans (hc j t hj)⟩
theorem strsAt_own{w:World}{B:Nat}{v:Value}{ss:List (List UInt8)}(h:w.ownsRow B 9 1 v ss.length (strCs ss))(hl:ss.length<=9223372036854775807):StrsAt w v ss:=by
 refine⟨hl,?_⟩;have h2:=h.2;rcases h2 with⟨rfl,h0⟩|⟨g,cap,cur,rfl,h2⟩
 . exact⟨none,0,by rw[h0],.inl (zU.1 h0)⟩
 . refine⟨_,cap,rfl,.inr ⟨g,0,rfl,(h.lt g rfl).2,fun j t hj=>?_⟩⟩;rw[Nat.zero_add,h.cellAt j (by have:=(zG.1 hj).1;omega),strCs,zP,hj];rfl
set_option maxHeartbeats 1000000 in
theorem same_any(va vb:Value)(xs ys:List (List UInt8))(w:World)(ha:StrsAt w va xs)(hb:StrsAt w vb ys):
 Calls Try.prog 15 #[va,vb] w fun e w'=>e=.returned (.bool (decide (xs=ys)))/\Below w.heap.size w w':=by
 obtain⟨la,aa,ca,rfl,ha⟩:=ha;obtain⟨lb,ab,cb,rfl,hb⟩:=hb;by_cases hl:xs.length=ys.length
 . rcases ha with rfl|⟨ba,oa,rfl,ha1,ha2⟩
   . have h0:ys=[]:=zU.1 (by simpa using hl.symm);subst h0;go_enter Try.func15,Try.ntmps15;go_wp2;refine wp_loop_rounds 1 ?_;rw[rounds_succ];go_wp2;go_ret;exact⟨rfl,zB _ _⟩
   . rcases hb with rfl|⟨bb,ob,rfl,hb1,hb2⟩
     . have h0:xs=[]:=zU.1 (by simpa using hl);subst h0;go_enter Try.func15,Try.ntmps15;go_wp2;refine wp_loop_rounds 1 ?_;rw[rounds_succ];go_wp2;go_ret;exact⟨rfl,zB _ _⟩
     . have HA:=zA ha2;have HB:=zA hb2;have HL:=zA hl;rw[<- hl];clear ha2 hb2 hl;go_enter Try.func15,Try.ntmps15;go_wp2;go_loopw [5] (fun c wr=>∃i:Nat,i<=xs.length/\c=.int .i64 i/\xs.take i=ys.take i/\Below w.heap.size w wr) (fun c _=>xs.length-(intOf c).toNat)
       case atStart=>exact⟨0,zO _,rfl,rfl,zB _ _⟩
       case round=>
        obtain⟨i,hi,rfl,htk,hbw⟩:=hrel;have HT:=zA htk;clear htk;by_cases hlt:i<xs.length
        . obtain⟨x,hx⟩:∃x,xs[i]?=some x:=⟨_,zD hlt⟩
          obtain⟨y,hy⟩:∃y,ys[i]?=some y:=⟨_,zD (by rw[<- HL.out];exact hlt)⟩
          have hcx:=(hbw.cell (p:=⟨ba,oa+i,none⟩) ha1).trans (HA.out i x hx);have hcy:=(hbw.cell (p:=⟨bb,ob+i,none⟩) hb1).trans (HB.out i y hy);have HX:=zA hx;have HY:=zA hy;clear hx hy;have hltI:(i:Int)<(xs.length:Int):=by omega
          by_cases hxy:x=y
          . subst hxy;have hnx:xs.take (i+1)=ys.take (i+1):=by
             rw[zW,zW,HT.out,HX.out,HY.out]
            have HN:=zA hnx;clear hnx;go_wp2;go_quiet (fail);have hbq:=below_drewN hbw nq;go_wp2;go_roundw
            case rel=>exact⟨i+1,by omega,by go_num,HN.out,hbq⟩
            case measure=>simp[intOf];omega
          . have hxy2:(x==y)=false:=by rw[beq_eq_false_iff_ne];exact hxy
            have hne:decide (xs=ys)=false:=by
             rw[decide_eq_false_iff_not];intro h;have a:=HX.out;rw[h,HY.out]at a;exact hxy (Option.some.inj a).symm
            have HN:=zA hne;clear hne;go_wp2;go_quiet (fail);have hbq:=below_drewN hbw nq;go_wp2;go_ret;exact⟨by rw[HN.out];rfl,hbq⟩
        . have hie:i=xs.length:=by omega
          have heq:decide (xs=ys)=true:=by
           rw[decide_eq_true_iff];have:=HT.out;rw[zI (by omega),zI (by rw[<- HL.out];omega)]at this;exact this
          have HN:=zA heq;clear heq hie;go_wp2;go_ret;exact⟨by rw[HN.out];rfl,hbw⟩
 . have hne:decide (xs=ys)=false:=by
    rw[decide_eq_false_iff_not];intro h;exact hl (by rw[h])
   have HN:=zA hne;have hl2:((xs.length:Int)!=(ys.length:Int))=true:=by rw[bne_iff_ne];omega
   clear hne;go_enter Try.func15,Try.ntmps15;go_wp2;go_ret;exact⟨by rw[HN.out];rfl,zB _ _⟩
theorem builder_below{w w':World}{T e:TypeId}{B b:Nat}{bs:List Value}(h:Lib.IsBuilder T e B b bs w)(hb:Below w.heap.size w w'):Lib.IsBuilder T e B b bs w':=by
 have key:∀p,Lib.BuilderAt T e B b p bs w->Lib.BuilderAt T e B b p bs w':=by
  rintro p h;have hlt:=h.lt;obtain⟨h1,v,h2,h3,h4⟩:=h;exact⟨h1,v,(hb.block b hlt).trans h2,ownsRow_below h3 hb,h4⟩
 rcases h with h|h
 . exact .inl (key _ h)
 . exact .inr (key _ h)
theorem byteCells_str(a:List UInt8)(l:List UInt8):Lib.byteCells a++Lib.strCells ⟨l.toArray⟩=Lib.byteCells (a++l):=by
 simp[Lib.byteCells,Lib.strCells]
def putListV(ls:List (List UInt8)):Value:=.tuple #[.string ⟨(putListP ls).1.toArray⟩,.int .i64 ((putListP ls).2:Int)]
theorem putListV_of{ls:List (List UInt8)}{l:List UInt8}{e:Nat}(h:putListP ls=(l,e)):putListV ls=.tuple #[.string ⟨l.toArray⟩,.int .i64 (e:Int)]:=by rw[putListV,h]
theorem putStrV_ok{t:List UInt8}(h:t.length<=65536):putStrV t=.tuple #[.string ⟨(strB t).toArray⟩,.int .i64 0]:=by rw[putStrV,if_neg (by omega)]
theorem putStrV_long{t:List UInt8}(h:65536<t.length):putStrV t=.tuple #[.string ⟨#[]⟩,.int .i64 12]:=by rw[putStrV,if_pos h]
theorem take_all{ls:List (List UInt8)}{i:Nat}{t:List UInt8}(h:∀u∈ls.take i,u.length<=65536)(hx:ls[i]?=some t)(ht:t.length<=65536):∀u∈ls.take (i+1),u.length<=65536:=by
 intro u hu;rw[zW,hx]at hu;simp at hu;rcases hu with hu|rfl
 . exact h u hu
 . exact ht
set_option maxHeartbeats 1000000 in
theorem putList_any(v:Value)(ls:List (List UInt8))(w:World)(hv:StrsAt w v ls)(hsm:ls.length<=4096->∀t∈ls,t.length<=140737488355328):
 Calls Try.prog 64 #[v] w fun e w'=>e=.returned (putListV ls)/\Below w.heap.size w w':=by
 obtain⟨hlen,ao,cap,rfl,hc⟩:=hv;by_cases hm:4096<ls.length
 . have HV:=zA (putListV_of (putListP_many ls hm));go_enter Try.func64,Try.ntmps64;go_wp2;go_ret2;exact⟨by rw[HV.out];rfl,zB _ _⟩
 . have hfb:=Lib.fresh_isBuilder 106 5 w;have HSM:=zA (hsm (by omega));clear hsm;have hn63:ls.length<2^63:=by omega
   have h9:=numB_le ls.length;rcases hc with rfl|⟨b,o,rfl,hl,hc⟩
   . have HV:=zA (putListV_of (putListP_ok [] (by simp) (by simp)));go_enter Try.func64,Try.ntmps64;go_wp2_with fail;refine(numBytes_any _ _ hn63).mono ?_;rintro e w1 ⟨rfl,hb1⟩;have hbu1:=builder_below hfb hb1;have hbw1:Below w.heap.size w w1:=((zB _ _).alloc (zC _) _).trans (hb1.mono (by simp));have hs1:=hbw1.size;clear hfb hb1;go_wp2_with fail;refine(writeString_any _ _ _ _ _ hbu1 (by rw[size_list];exact zS (Nat.add_le_add (zC _) (numB_le _)) (by decide)) hs1).mono ?_;rintro e w2 ⟨rfl,hbu2,hb2⟩;have hbw2:=hbw1.trans hb2;have hb2':Lib.IsBuilder 106 5 w.heap.size w.heap.size (Lib.byteCells (numB ([]:List (List UInt8)).length++textsB (([]:List (List UInt8)).take 0))) w2:=by
      have:=byteCells_str [] (numB ([]:List (List UInt8)).length);rw[List.nil_append]at this;rw[List.take_zero,show textsB []=[]from rfl,List.append_nil,<- this];exact .inr hbu2
     clear hbu1 hbu2 hbw1 hs1 hb2;have hs2:=hbw2.size;go_wp2_with fail;refine wp_loop_rounds 1 ?_;rw[rounds_succ];go_wp2_with fail;refine(Try.Builder_String_any _ _ _ _ hb2' hs2).mono ?_;rintro e w3 ⟨rfl,hb3⟩;have hbw3:=hbw2.trans hb3;clear hb2';go_wp2;go_ret2;exact⟨by rw[HV.out];rfl,hbw3⟩
   . have HC:=zA hc;clear hc;go_enter Try.func64,Try.ntmps64;go_wp2_with fail;refine(numBytes_any _ _ hn63).mono ?_;rintro e w1 ⟨rfl,hb1⟩;have hbu1:=builder_below hfb hb1;have hbw1:Below w.heap.size w w1:=((zB _ _).alloc (zC _) _).trans (hb1.mono (by simp));have hs1:=hbw1.size;clear hfb hb1;go_wp2_with fail;refine(writeString_any _ _ _ _ _ hbu1 (by rw[size_list];exact zS (Nat.add_le_add (zC _) (numB_le _)) (by decide)) hs1).mono ?_;rintro e w2 ⟨rfl,hbu2,hb2⟩;have hbw2:=hbw1.trans hb2;have hb2':Lib.IsBuilder 106 5 w.heap.size w.heap.size (Lib.byteCells (numB ls.length++textsB (ls.take 0))) w2:=by
      have:=byteCells_str [] (numB ls.length);rw[List.nil_append]at this;rw[List.take_zero,show textsB []=[]from rfl,List.append_nil,<- this];exact .inr hbu2
     clear hbu1 hbu2 hbw1 hs1 hb2;go_wp2_with fail;go_loopw [18] (fun c wr=>∃i:Nat,i<=ls.length/\c=.int .i64 i/\(∀u∈ls.take i,u.length<=65536)/\Lib.IsBuilder 106 5 w.heap.size w.heap.size (Lib.byteCells (numB ls.length++textsB (ls.take i))) wr/\Below w.heap.size w wr) (fun c _=>ls.length-(intOf c).toNat)
     case atStart=>exact⟨0,zO _,rfl,by simp,hb2',hbw2⟩
     case round=>
      obtain⟨i,hi,rfl,hall,hbu,hb⟩:=hrel;have HALL:=zA hall;have hsz:=hb.size;clear hall hb2' hbw2;by_cases hlt:i<ls.length
      . obtain⟨t,ht⟩:∃t,ls[i]?=some t:=⟨_,zD hlt⟩
        have hcx:=(hb.cell (p:=⟨b,o+i,none⟩) hl).trans (HC.out i t ht);have htm:t∈ls:=zJ ht;have htl:=HSM.out t htm;have HT:=zA ht;have hltI:(i:Int)<(ls.length:Int):=by omega
        have hts:(⟨t.toArray⟩:ByteArray).size<=140737488355328:=by rw[size_list];exact htl
        clear ht;by_cases h6:t.length<=65536
        . have hPV:=zA (putStrV_ok h6);have hall2:=zA (take_all HALL.out HT.out h6);have hlc:=textsB_le (ls.take i) HALL.out;rw[zQ,Nat.min_eq_left hi]at hlc;have hsb:=strB_le t h6;clear htm;go_wp2_with fail;refine(putStr_any _ _ hts).mono ?_;rintro e w3 ⟨rfl,hb3⟩;rw[data_list,hPV.out];have hbu3:=builder_below hbu hb3;have hbw3:=hb.trans (hb3.mono hsz);have hsz3:=hbw3.size;clear hbu hb hb3 hsz hcx;go_wp2_with fail;refine(writeString_any _ _ _ _ _ hbu3 (by rw[Lib.byteCells_length,zE,size_list];omega) hsz3).mono ?_;rintro e w4 ⟨rfl,hbu4,hb4⟩;have hbw4:=hbw3.trans hb4;have hbu5:Lib.IsBuilder 106 5 w.heap.size w.heap.size (Lib.byteCells (numB ls.length++textsB (ls.take (i+1)))) w4:=by
           rw[zW,HT.out,zY,textsB_snoc,<- List.append_assoc,<- byteCells_str];exact .inr hbu4
          clear hbu3 hbu4 hb4 hbw3 hsz3;go_wp2;go_roundw
          case rel=>exact⟨i+1,by omega,by go_num,hall2.out,hbu5,hbw4⟩
          case measure=>simp[intOf];omega
        . have hPV:=zA (putStrV_long (t:=t) (by omega));have HV:=zA (putListV_of (putListP_long ls t htm (by omega)));clear htm;go_wp2_with fail;refine(putStr_any _ _ hts).mono ?_;rintro e w3 ⟨rfl,hb3⟩;rw[data_list,hPV.out];have hbw3:=hb.trans (hb3.mono hsz);clear hbu hb hb3 hsz hcx;go_wp2;go_ret2;exact⟨by rw[HV.out];rfl,hbw3⟩
      . have hie:i=ls.length:=by omega
        have hall:=HALL.out;rw[hie,zI (zC _)]at hall;have HV:=zA (putListV_of (putListP_ok ls (by omega) hall));have HI:=zA hie;clear hie hall;go_wp2_with fail;refine(Try.Builder_String_any _ _ _ _ hbu hsz).mono ?_;rintro e w3 ⟨rfl,hb3⟩;have hbw3:=hb.trans hb3;clear hbu hb hb3;go_wp2;go_ret2;exact⟨by rw[HV.out,HI.out,zI (zC _)];rfl,hbw3⟩
theorem listLoop_len(n:Nat):∀(l:List UInt8) (k:Nat) (acc:List (List UInt8)),(listLoop n l k acc).1.length<=acc.length+n:=by
 induction n with
 |zero=>intro l k acc;simp[listLoop]
 |succ n ih=>
  intro l k acc;unfold listLoop;split
  . simp
  . have:=ih l (k+(strP (l.drop k)).2.1) (acc++[(strP (l.drop k)).1]);simp at this;omega
theorem listP_len(l:List UInt8):(listP l).1.length<=4096:=by
 unfold listP;split
 . simp
 . split
   . simp
   . have:=listLoop_len (numP l).1 l (numP l).2.1 [];simp at this;omega
end Go.Proofs.Ytjoddkeamboeoaa
