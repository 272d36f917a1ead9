/- WTexts. -/
import Derived.Test.YtjoddkeamboeoaaMG10
set_option maxRecDepth 100000
namespace Go.Proofs.Ytjoddkeamboeoaa
open Go.RowKit
abbrev One(w:World)(b:Nat)(t:TypeId)(v:Value):Prop:=w.heap[b]?=some (.cells #[v] t (0,0))
theorem one_other{w:World}{b c:Nat}{t:TypeId}{v u:Value}(h:One w b t v)(hne:b≠c):One (w.setCell ⟨c,0,none⟩ u) b t v:=
 (zK w ⟨c,0,none⟩ u b hne).trans h
theorem sumL_le{ls:List (List UInt8)}(h:∀u∈ls,u.length<=65536):sumL ls<=65536*ls.length:=by
 induction ls with
 |nil=>simp[sumL]
 |cons t ls ih=>
  have a:=ih (fun u hu=>h u (by simp[hu]));have b:=h t (by simp);simp only[sumL,List.map_cons,List.sum_cons,zR]at *;omega
def Fits(T Z:Nat)(ls:List (List UInt8)):Prop:=T+ls.length<=4096/\shortL ls/\Z+sumL ls<=1048576
set_option maxHeartbeats 1000000 in
theorem mayBe_any(w0 w:World)(v:Value)(ls:List (List UInt8))(bt bs T Z:Nat)(hv:StrsAt w0 v ls)(hb:Below w0.heap.size w0 w)(h1:w0.heap.size<=bt)(h2:w0.heap.size<=bs)(hne:bt≠bs)
 (ct:One w bt 3 (.int .i64 T)) (cs:One w bs 3 (.int .i64 Z)) (hT:T<=4096) (hZ:Z<=1048576) (hlen:ls.length<=4611686018427387904):
 Calls Try.prog 75 #[v,.pointer (some ⟨bt,0,none⟩),.pointer (some ⟨bs,0,none⟩)] w fun e w'=>Below w0.heap.size w0 w'/\
  ((e=.returned (.bool true)/\Fits T Z ls/\One w' bt 3 (.int .i64 ((T+ls.length:Nat):Int))/\One w' bs 3 (.int .i64 ((Z+sumL ls:Nat):Int)))\/
   (e=.returned (.bool false)/\¬Fits T Z ls)):=by
 obtain⟨_,ao,cap,rfl,hc⟩:=hv;have HC:=zA hc;clear hc;have t1:=cell_of_one ct;have t2:=free_of_one ct;have s1:=cell_of_one cs;have s2:=free_of_one cs;have hne':¬bs=bt:=fun h=>hne h.symm
 have CT:=zA ct;have CS:=zA cs;clear ct cs;by_cases hm:4096<T+ls.length
 . have hmI:(4096:Int)<(T:Int)+(ls.length:Int):=by omega
   go_enter Try.func75,Try.ntmps75;go_wp2;go_ret;exact⟨hb.setCell (p:=⟨bt,0,none⟩) h1 _,.inr ⟨rfl,fun h=>by have:=h.1;omega⟩⟩
 . have hmI:¬(4096:Int)<(T:Int)+(ls.length:Int):=by omega
   go_enter Try.func75,Try.ntmps75;go_wp2;go_loopw [15] (fun c wr=>∃i:Nat,i<=ls.length/\c=.int .i64 i/\(∀u∈ls.take i,u.length<=65536)/\Below w0.heap.size w0 wr/\One wr bt 3 (.int .i64 ((T+ls.length:Nat):Int))/\One wr bs 3 (.int .i64 ((Z+sumL (ls.take i):Nat):Int))) (fun c _=>ls.length-(intOf c).toNat)
   case atStart=>
    refine⟨0,zO _,rfl,by simp,hb.setCell (p:=⟨bt,0,none⟩) h1 _,?_,?_⟩
    . exact(one_setCell CT.out).trans (by simp)
    . exact(one_other CS.out (fun h=>hne h.symm)).trans (by simp[sumL])
   case round=>
    obtain⟨i,hi,rfl,hall,hbr,rt,rs⟩:=hrel;have HALL:=zA hall;have hsl:=sumL_le hall;rw[zQ,Nat.min_eq_left hi]at hsl;clear hall t1 t2 s1 s2;have r1:=cell_of_one rs;have r2:=free_of_one rs;have RT:=zA rt;have RS:=zA rs;clear rt rs;by_cases hlt:i<ls.length
    . obtain⟨t,ht⟩:∃t,ls[i]?=some t:=⟨_,zD hlt⟩
      rcases HC.out with hnil|⟨b,o,rfl,hl,hc⟩
      . rw[hnil]at ht;simp at ht
      . have hcx:=(hbr.cell (p:=⟨b,o+i,none⟩) hl).trans (hc i t ht);have HT:=zA ht;have hltI:(i:Int)<(ls.length:Int):=by omega
        have hts:=size_list t;have hst:=zA (sum_step ht);clear hc ht;obtain⟨S,hS⟩:∃S,S=sumL (ls.take i):=⟨_,rfl⟩
        rw[<- hS]at r1 hsl;have HS:=zA hS;clear hS;by_cases h6:t.length<=65536
        . have HA2:=zA (take_all HALL.out HT.out h6);go_wp2;go_roundw
          case rel=>
           refine⟨i+1,by omega,by go_num,HA2.out,hbr.setCell (p:=⟨bs,0,none⟩) h2 _,one_other RT.out hne,(one_setCell RS.out).trans ?_⟩;rw[hst.out,<- HS.out];exact congrArg (fun z=>some (Obj.cells #[Value.int .i64 z] 3 (0,0))) (by omega)
          case measure=>simp[intOf];omega
        . have hbad:¬Fits T Z ls:=fun h=>h6 (h.2.1 t (zJ HT.out))
          have HB:=zA hbad;clear hbad;go_wp2;go_ret;exact⟨hbr,.inr ⟨rfl,HB.out⟩⟩
    . have hall:=HALL.out;have RS2:=RS.out;rw[zI (by omega)]at hall RS2 hsl r1;have HALL2:=zA hall;have HRS:=zA RS2;clear hall RS2;obtain⟨S,hS⟩:∃S,S=sumL ls:=⟨_,rfl⟩
      rw[<- hS]at r1 hsl;have HS:=zA hS;clear hS;by_cases hz:Z+S<=1048576
      . have hzI:(Z:Int)+(S:Int)<=1048576:=by omega
        go_wp2;go_ret;refine⟨hbr,.inl ⟨?_,⟨by omega,HALL2.out,by rw[<- HS.out];exact hz⟩,RT.out,HRS.out⟩⟩;simp
      . have hzI:¬(Z:Int)+(S:Int)<=1048576:=by omega
        go_wp2;go_ret;refine⟨hbr,.inr ⟨?_,fun h=>hz (by rw[HS.out];exact h.2.2)⟩⟩;simp
def NoteD.sane(n:NoteD):Prop:=n.texts.length<=4611686018427387904/\∀r∈n.rows,r.length<=4611686018427387904
def NoteD.textsFit(n:NoteD):Prop:=n.textsOk/\n.size<=1048576
instance (n:NoteD):Decidable n.textsFit:=inferInstanceAs (Decidable (_/\_))
theorem cntR_take_le(rs:List (List (List UInt8)))(i:Nat):cntR (rs.take i)<=cntR rs/\sumR (rs.take i)<=sumR rs:=by
 induction rs generalizing i with
 |nil=>simp
 |cons r rs ih=>
  cases i with
  |zero=>simp[cntR,sumR]
  |succ i=>
   have:=ih i;simp only[cntR,sumR,List.take_succ_cons,List.map_cons,List.sum_cons]at *;omega
theorem rows_step{rs:List (List (List UInt8))}{i:Nat}{r:List (List UInt8)}(h:rs[i]?=some r):cntR (rs.take (i+1))=cntR (rs.take i)+r.length/\sumR (rs.take (i+1))=sumR (rs.take i)+sumL r:=by
 rw[zW,h,zY,cntR_snoc,sumR_snoc];exact⟨rfl,rfl⟩
theorem take_rows{P:List (List UInt8)->Prop}{ls:List (List (List UInt8))}{i:Nat}{t:List (List UInt8)}(h:∀u∈ls.take i,P u)(hx:ls[i]?=some t)(ht:P t):∀u∈ls.take (i+1),P u:=by
 intro u hu;rw[zW,hx]at hu;simp at hu;rcases hu with hu|rfl
 . exact h u hu
 . exact ht
theorem box_at(w:World)(o:Obj):(w.alloc o).heap[w.heap.size]?=some o:=heap_alloc_new w o
set_option maxHeartbeats 1000000 in
theorem textsMayBe_any(v:Value)(n:NoteD)(w:World)(h:NoteAt w v n)(hs:n.sane):
 Calls Try.prog 58 #[v] w fun e w'=>e=.returned (.bool (decide n.textsFit))/\Below w.heap.size w w':=by
 obtain⟨vn,vt,vr,rfl,_,ht,hr⟩:=h;obtain⟨kind,nums,texts,rows⟩:=n;obtain⟨hs1,hs2⟩:=hs;simp only at*;obtain⟨vs,⟨hlen,ao,cap,rfl,hc⟩,hvl,hrs⟩:=hr;rw[hvl]at hlen ⊢;have HVL:=zA hvl;clear hvl;have HC:=zA hc;have HRS:=zA hrs;have HS2:=zA hs2;clear hc hrs hs2;by_cases hm:4096<rows.length
 . have HV:Hid (decide (NoteD.mk kind nums texts rows).textsFit=false):=zA (decide_eq_false (fun h=>by have:=h.1.1;simp only at this;omega));go_enter Try.func58,Try.ntmps58;go_wp2;go_ret;exact⟨by rw[HV.out];rfl,(zB _ _).alloc (zC _) _⟩
 . have hbb:Below w.heap.size w (w.alloc (.cells #[.int .i64 kind,vn,vt,.slice ao rows.length cap] 36)):=(zB _ _).alloc (zC _) _;have ht0:=ht.below hbb;obtain⟨w0,hw0⟩:∃w0,w0=w.alloc (.cells #[.int .i64 kind,vn,vt,.slice ao rows.length cap] 36):=⟨_,rfl⟩
   rw[<- hw0]at hbb ht0;have hz0:w0.heap.size=w.heap.size+1:=by rw[hw0];simp
   have hc3:w0.cell? ⟨w.heap.size,3,none⟩=some (.slice ao rows.length cap):=by rw[hw0];simp[World.cell?_alloc_at]
   have HW0:=zA hw0;clear hw0;have key:∀w2:World,Below w0.heap.size w0 w2->Below w.heap.size w w2:=fun w2 h2=>hbb.trans (h2.mono (by omega))
   have KEY:=zA key;clear key;go_enter Try.func58,Try.ntmps58;go_wp2_with fail;rw[<- HW0.out];have e1:w0.heap.size=w.heap.size+1:=hz0;refine(mayBe_any w0 _ vt texts (w.heap.size+1) (w.heap.size+1+1) 0 0 ht0 (((zB _ _).alloc (zC _) _).alloc (by simp) _) (by omega) (by omega) (by omega) ?_ ?_ (by omega) (by omega) hs1).mono ?_
   . rw[<- e1];exact(Below.heap_alloc _ _ _ (by simp)).trans (box_at _ _)
   . have:=box_at (w0.alloc (Obj.cells #[Value.int IntKind.i64 0] 3)) (Obj.cells #[Value.int IntKind.i64 0] 3);simp only[World.size_alloc,e1]at this;exact this
   rintro e w1 ⟨hb1,⟨rfl,hf,ct,cs⟩|⟨rfl,hf⟩⟩
   . have hc31:=(hb1.cell (p:=⟨w.heap.size,3,none⟩) (by simp only;omega)).trans hc3;have HF:=zA hf;have CT:=zA ct;have CS:=zA cs;clear hf ct cs;simp only[Nat.zero_add]at CT CS;go_wp2;go_loopw [21] (fun c wr=>∃i:Nat,i<=rows.length/\c=.int .i64 i/\(∀r∈rows.take i,shortL r)/\texts.length+cntR (rows.take i)<=4096/\sumL texts+sumR (rows.take i)<=1048576/\Below w0.heap.size w0 wr/\
      One wr (w.heap.size+1) 3 (.int .i64 ((texts.length+cntR (rows.take i):Nat):Int))/\One wr (w.heap.size+1+1) 3 (.int .i64 ((sumL texts+sumR (rows.take i):Nat):Int))) (fun c _=>rows.length-(intOf c).toNat)
     case atStart=>
      have hf:=HF.out;refine⟨0,zO _,rfl,by simp,?_,?_,hb1,?_,?_⟩
      . have:=hf.1;simpa[cntR]using this
      . have:=hf.2.2;simpa[sumR]using this
      . simpa[cntR]using CT.out
      . simpa[sumR]using CS.out
     case round=>
      obtain⟨i,hi,rfl,hall,hcn,hsm,hbr,rt,rs⟩:=hrel;have HALL:=zA hall;have HCN:=zA hcn;have HSM:=zA hsm;have RT:=zA rt;have RS:=zA rs;clear hall hcn hsm rt rs hc31;by_cases hlt:i<rows.length
      . obtain⟨r,hr⟩:∃r,rows[i]?=some r:=⟨_,zD hlt⟩
        obtain⟨x,hx⟩:∃x,vs[i]?=some x:=⟨_,zD (by rw[HVL.out];exact hlt)⟩
        rcases HC.out with hnil|⟨b,o,rfl,hl,hc⟩
        . rw[hnil]at hx;simp at hx
        . have hcx:=((KEY.out _ hbr).cell (p:=⟨b,o+i,none⟩) hl).trans (hc i x hx);have hrx:=(HRS.out i x r hx hr).below hbb;have HR:=zA hr;have hltI:(i:Int)<(rows.length:Int):=by omega
          have hst:=zA (rows_step hr);have hrl:=HS2.out r (zJ hr);clear hc hr hx;go_wp2_with fail;refine(mayBe_any w0 _ x r (w.heap.size+1) (w.heap.size+1+1) _ _ hrx hbr (by omega) (by omega) (by omega) RT.out RS.out HCN.out HSM.out hrl).mono ?_;rintro e w2 ⟨hb2,⟨rfl,hf2,ct2,cs2⟩|⟨rfl,hf2⟩⟩
          . have HA2:=zA (take_rows HALL.out HR.out hf2.2.1);have HF2:=zA hf2;have CT2:=zA ct2;have CS2:=zA cs2;clear hf2 ct2 cs2 hcx;go_wp2;go_roundw
            case rel=>
             obtain⟨g1,g2⟩:=hst.out;refine⟨i+1,by omega,by go_num,HA2.out,?_,?_,hb2,?_,?_⟩
             . rw[g1];have:=HF2.out.1;omega
             . rw[g2];have:=HF2.out.2.2;omega
             . rw[g1,<- Nat.add_assoc];exact CT2.out
             . rw[g2,<- Nat.add_assoc];exact CS2.out
            case measure=>simp[intOf];omega
          . have HV:Hid (decide (NoteD.mk kind nums texts rows).textsFit=false):=zA (decide_eq_false (fun h=>by
             obtain⟨⟨_,q2,_,q4⟩,q5⟩:=h;simp only[NoteD.size]at q2 q4 q5;obtain⟨g1,g2⟩:=hst.out;have g3:=cntR_take_le rows (i+1);exact hf2 ⟨by omega,q4 r (zJ HR.out),by omega⟩))
            clear hf2 hcx;go_wp2;go_ret;exact⟨by rw[HV.out];rfl,KEY.out _ hb2⟩
      . have hall:=HALL.out;have hcn:=HCN.out;have hsm:=HSM.out;rw[zI (by omega)]at hall hcn hsm;have HV:Hid (decide (NoteD.mk kind nums texts rows).textsFit=true):=zA (zM ⟨⟨by simp only;omega,hcn,HF.out.2.1,hall⟩,hsm⟩);clear hall hcn hsm;go_wp2;go_ret;exact⟨by rw[HV.out];rfl,KEY.out _ hbr⟩
   . have HV:Hid (decide (NoteD.mk kind nums texts rows).textsFit=false):=zA (decide_eq_false (fun h=>by
      obtain⟨⟨_,q2,q3,_⟩,q5⟩:=h;simp only[NoteD.size]at q2 q3 q5;exact hf ⟨by omega,q3,by omega⟩))
     clear hf;go_wp2;go_ret;exact⟨by rw[HV.out];rfl,KEY.out _ hb1⟩
end Go.Proofs.Ytjoddkeamboeoaa
