/- WBody, WPack. -/
import Derived.Test.YtjoddkeamboeoaaMG11
import Derived.Test.YtjoddkeamboeoaaMG3
import Derived.Deep.RegionHeld
set_option maxRecDepth 100000
namespace Go.Proofs.Ytjoddkeamboeoaa
open Go.RowKit Go.Shelf
theorem writeString_k(B b:Nat)(bs:List Value)(s:ByteArray)(w:World)(h:Lib.IsBuilderF 106 5 B b bs w)(hlen:bs.length+s.size<=140737488355328)(hBw:B<=w.heap.size):
 Calls Try.prog 60 #[.pointer (some ⟨b,0,none⟩),.string s] w fun e w'=>e=.returned (.tuple #[.int .i64 s.size,.nilIface])/\(Lib.BuilderAtF 106 5 B b (.pointer (some ⟨b,0,none⟩)) (bs++Lib.strCells s) w'/\Below B w w'/\Lib.OthersKept 5 (some b) w w'):=
 Any.Builder_WriteString_k lays166 extraB B b bs s w h hlen hBw
abbrev putV(b:Nat):Value:=.func (.func 59) #[] #[.pointer (some ⟨b,0,none⟩)]
def BodyInv(w0 w:World)(out:List UInt8):Prop:=
 Lib.IsBuilderF 106 5 w0.heap.size w0.heap.size (Lib.byteCells out) w/\One w (w0.heap.size+1) 111 (putV w0.heap.size)/\Below w0.heap.size w0 w
theorem builderF_below{w w':World}{T e:TypeId}{B b:Nat}{bs:List Value}(h:Lib.IsBuilderF T e B b bs w)(hb:Below w.heap.size w w'):Lib.IsBuilderF T e B b bs w':=by
 have key:∀p,Lib.BuilderAtF T e B b p bs w->Lib.BuilderAtF T e B b p bs w':=by
  rintro p h;have hlt:=h.lt;obtain⟨h1,v,h2,h3,h4⟩:=h;refine⟨h1,v,(hb.block b hlt).trans h2,?_,h4⟩;obtain⟨g1,g2⟩:=h3;refine⟨g1,?_⟩;rcases g2 with g2|⟨g,cap,cur,fz,e1,e2,e3,e4⟩
  . exact .inl g2
  . exact .inr ⟨g,cap,cur,fz,e1,e2,(hb.block g (lt_of_block e3)).trans e3,e4⟩
 rcases h with h|h
 . exact .inl (key _ h)
 . exact .inr (key _ h)
theorem BodyInv.below{w0 w w':World}{out:List UInt8}(h:BodyInv w0 w out)(hb:Below w.heap.size w w'):BodyInv w0 w' out:=by
 obtain⟨h1,h2,h3⟩:=h;exact⟨builderF_below h1 hb,(hb.block _ (lt_of_block h2)).trans h2,h3.trans (hb.mono h3.size)⟩
theorem BodyInv.drew{w0 w:World}{out:List UInt8}(h:BodyInv w0 w out):BodyInv w0 w.drew out:=h.below (zB _ _).drew
theorem byteCells_len(l:List UInt8):(Lib.byteCells l).length=l.length:=Lib.byteCells_length l
set_option maxHeartbeats 400000 in
theorem put_any(w0 w:World)(l:List UInt8)(e:Int)(out:List UInt8)(h:BodyInv w0 w out)(hlen:out.length+l.length<=140737488355328):
 Calls Try.prog 59 #[.string ⟨l.toArray⟩,.int .i64 e,.pointer (some ⟨w0.heap.size,0,none⟩)] w fun e w'=>e=.returned (.tuple #[])/\BodyInv w0 w' (out++l):=by
 obtain⟨h1,h2,h3⟩:=h;have H2:=zA h2;clear h2;go_enter Try.func59,Try.ntmps59;go_wp2_with fail;refine(writeString_k _ _ _ _ _ h1 (by rw[byteCells_len,size_list];exact hlen) h3.size).mono ?_;rintro e w1 ⟨rfl,hb1,hl1,hk1⟩;go_wp2;go_end0;refine⟨rfl,?_,?_,h3.trans hl1⟩
 . rw[<- byteCells_str];exact .inr hb1
 . exact hk1 _ _ H2.out (by simp) (by intro c fz h;simp at h)
set_option maxHeartbeats 1000000 in
theorem numPut_any(w0 w:World)(m:Nat)(out:List UInt8)(h:BodyInv w0 w out)(hm:m<2^63)(hlen:out.length+9<=140737488355328):
 Calls Try.prog 61 #[.int .i64 m,.pointer (some ⟨w0.heap.size+1,0,none⟩)] w fun e w'=>e=.returned (.tuple #[])/\BodyInv w0 w' (out++numB m):=by
 have hc:=cell_of_one h.2.1;have H:=zA h;have h9:=numB_le m;clear h;go_enter Try.func61,Try.ntmps61;go_wp2_with fail;go_region_held (fun w'=>w'.cell? ⟨w0.heap.size+1,0,none⟩=some (putV w0.heap.size))
  (first|exact hc|(exact cell_of_one (by assumption:BodyInv _ _ _).2.1))
  (first
   |(go_at_call 62;refine(putNum_pos _ _ hm).mono ?_;rintro e w1 ⟨rfl,hb1⟩;have hi1:=H.out.drew.below hb1)
   |(go_at_call 59;refine(put_any _ _ _ _ _ (by assumption) (by omega)).mono ?_;rintro e w2 ⟨rfl,hi2⟩))
 go_end0;exact⟨rfl,hi2⟩
theorem StrsAt.drew{w:World}{v:Value}{ls:List (List UInt8)}(h:StrsAt w v ls):StrsAt w.drew v ls:=h.below (zB _ _).drew
set_option maxHeartbeats 1000000 in
theorem listPut_any(w0 w:World)(v:Value)(ls:List (List UInt8))(out:List UInt8)(h:BodyInv w0 w out)(hv:StrsAt w v ls)(hl:ls.length<=4096)(hs:shortL ls)(hlen:out.length+(listB ls).length<=140737488355328):
 Calls Try.prog 63 #[v,.pointer (some ⟨w0.heap.size+1,0,none⟩)] w fun e w'=>e=.returned (.tuple #[])/\BodyInv w0 w' (out++listB ls):=by
 have hc:=cell_of_one h.2.1;have H:=zA h;have HV:=zA hv.drew;have HP:Hid (putListV ls=.tuple #[.string ⟨(listB ls).toArray⟩,.int .i64 0]):=zA (putListV_of (putListP_ok ls hl hs));have HS:Hid (ls.length<=4096->∀t∈ls,t.length<=140737488355328):=zA (fun _ t ht=>zS (hs t ht) (by decide));clear h hs hv;go_enter Try.func63,Try.ntmps63;go_wp2_with fail;go_region_held (fun w'=>w'.cell? ⟨w0.heap.size+1,0,none⟩=some (putV w0.heap.size))
  (first|exact hc|(exact cell_of_one (by assumption:BodyInv _ _ _).2.1))
  (first
   |(go_at_call 64;refine(putList_any _ _ _ HV.out HS.out).mono ?_;rintro e w1 ⟨rfl,hb1⟩;rw[HP.out];have hi1:=H.out.drew.below hb1)
   |(go_at_call 59;refine(put_any _ _ _ _ _ (by assumption) hlen).mono ?_;rintro e w2 ⟨rfl,hi2⟩))
 go_end0;exact⟨rfl,hi2⟩
def bodyV(n:NoteD):Value:=if n.may then .tuple #[.string ⟨n.body.toArray⟩,.int .i64 0]else .tuple #[.string ⟨#[]⟩,.int .i64 1]
theorem bodyInv_start(w:World):BodyInv w ((w.alloc (.cells #[.pointer none,.slice none 0 0] 106)).alloc (.cells #[putV w.heap.size] 111)) []:=by
 have hf:=Lib.IsBuilderF.of (Lib.fresh_isBuilder 106 5 w);have hb:Below w.heap.size w (w.alloc (.cells #[.pointer none,.slice none 0 0] 106)):=(zB _ _).alloc (zC _) _;refine⟨builderF_below hf ((zB _ _).alloc (zC _) _),?_,hb.alloc (by simp) _⟩;have:=box_at (w.alloc (.cells #[.pointer none,.slice none 0 0] 106)) (.cells #[putV w.heap.size] 111);rw[show (w.alloc (.cells #[.pointer none,.slice none 0 0] 106)).heap.size=w.heap.size+1 from by simp]at this;exact this
theorem box_cells{w w1:World}{c0 c1 c2 c3:Value}{t:TypeId}(h:Below (w.alloc (.cells #[c0,c1,c2,c3] t)).heap.size (w.alloc (.cells #[c0,c1,c2,c3] t)) w1):
 w1.cell? ⟨w.heap.size,0,none⟩=some c0/\w1.cell? ⟨w.heap.size,1,none⟩=some c1/\w1.cell? ⟨w.heap.size,2,none⟩=some c2/\w1.cell? ⟨w.heap.size,3,none⟩=some c3:=by
 have key:∀i,w1.cell? ⟨w.heap.size,i,none⟩=(#[c0,c1,c2,c3])[i]?:=fun i=>(h.cell (p:=⟨w.heap.size,i,none⟩) (by simp)).trans (World.cell?_alloc_at _ _ _ _ rfl)
 exact⟨key 0,key 1,key 2,key 3⟩
theorem body_of_parts(n:NoteD)(k:Nat)(hk:n.kind=k):[]++numB k++numB n.nums.length++numsB n.nums++listB n.texts++numB n.rows.length++rowsB n.rows=n.body:=by
 simp[NoteD.body,hk]
theorem listB_le{n:NoteD}(h:n.textsFit):(listB n.texts).length<=1085450:=by
 have a:=textsB_le2 n.texts h.1.2.2.1;have b:=numB_le n.texts.length;have c:=h.1.2.1;have d:=h.2;simp only[NoteD.size]at d;rw[listB,zE];omega
theorem rowsB_take_le{n:NoteD}(h:n.textsFit)(i:Nat):(rowsB (n.rows.take i)).length<=1122304:=by
 have a:=rowsB_le (n.rows.take i) (fun r hr=>h.1.2.2.2 r (List.mem_of_mem_take hr));have b:=cntR_take_le n.rows i;have c:=h.1.2.1;have d:=h.2;have e:=h.1.1;simp only[NoteD.size]at d;rw[zQ]at a;have f:min i n.rows.length<=4096:=by omega
 omega
theorem row_le{n:NoteD}(h:n.textsFit){r:List (List UInt8)}(hr:r∈n.rows):(listB r).length<=1085450/\r.length<=4096:=by
 have a:=textsB_le2 r (h.1.2.2.2 r hr);have b:=numB_le r.length;have c:=h.1.2.1;have d:=h.2;have e:=len_le_cntR hr;have f:sumL r<=sumR n.rows:=by
  clear a b c d e;generalize n.rows=rs at*;induction rs with
  |nil=>simp at hr
  |cons t ls ih=>
   simp only[sumR,List.map_cons,List.sum_cons]at*;rcases List.mem_cons.1 hr with rfl|hr
   . omega
   . have:=ih hr;omega
 simp only[NoteD.size]at d;rw[listB,zE];omega
theorem numsB_step{ns:List Int}{i m:Nat}(h:ns[i]?=some (m:Int)):numsB (ns.take (i+1))=numsB (ns.take i)++numB m:=by
 rw[zW,h,zY,numsB_snoc,Int.toNat_natCast]
theorem rowsB_step{rs:List (List (List UInt8))}{i:Nat}{r:List (List UInt8)}(h:rs[i]?=some r):rowsB (rs.take (i+1))=rowsB (rs.take i)++listB r:=by
 rw[zW,h,zY,rowsB_snoc]
set_option maxHeartbeats 2000000 in
theorem bodyOf_any(v:Value)(n:NoteD)(w:World)(h:NoteAt w v n)(hs:n.sane):
 Calls Try.prog 47 #[v] w fun e w'=>e=.returned (bodyV n)/\Below w.heap.size w w':=by
 have hN:=h;obtain⟨vn,vt,vr,rfl,hn,ht,hr⟩:=h;have hbb:Below w.heap.size w (w.alloc (.cells #[.int .i64 n.kind,vn,vt,vr] 36)):=(zB _ _).alloc (zC _) _;have N0:=zA (hN.below hbb);have HS:=zA hs;have hsz:(w.alloc (.cells #[.int .i64 n.kind,vn,vt,vr] 36)).heap.size=w.heap.size+1:=by simp
 clear hN hs;by_cases hno:n.numsOk
 . have hd:decide n.numsOk=true:=zM hno;have HD:=zA hd;clear hd;by_cases htf:n.textsFit
   . have hd2:decide n.textsFit=true:=zM htf;have HD2:=zA hd2;clear hd2;have HNO:=zA hno;have HTF:=zA htf;clear hno htf;have HBB:=zA hbb;clear hbb;go_enter Try.func47,Try.ntmps47;go_wp2_with fail;refine(numsMayBe_any _ n _ N0.out).mono ?_;rintro e w1 ⟨rfl,hb1⟩;rw[HD.out];have N1:=zA (N0.out.below hb1);obtain⟨g0,g1,g2,g3⟩:=box_cells hb1;go_wp2_with fail;refine(textsMayBe_any _ n _ N1.out HS.out).mono ?_;rintro e w2 ⟨rfl,hb2⟩;rw[HD2.out];have hbx:=hb1.trans (hb2.mono hb1.size);have hb12:=HBB.out.trans (hbx.mono (by simp));have BOX:=zA hbx;have CELLS:Hid (∀w3 out,BodyInv w2 w3 out->w3.cell? ⟨w.heap.size,0,none⟩=some (.int .i64 n.kind)/\w3.cell? ⟨w.heap.size,1,none⟩=some vn/\w3.cell? ⟨w.heap.size,2,none⟩=some vt/\w3.cell? ⟨w.heap.size,3,none⟩=some vr):=
      zA (fun w3 out h3=>box_cells (BOX.out.trans (h3.2.2.mono BOX.out.size)))
     have KEEP:Hid (∀w3 out,BodyInv w2 w3 out->Below w.heap.size w w3):=zA (fun w3 out h3=>hb12.trans (h3.2.2.mono hb12.size));have HI:=zA (bodyInv_start w2);have HW2:Hid (w.heap.size<=w2.heap.size):=zA hb12.size;clear hb1 hb2 g0 g1 g2 g3 hbx hb12 N1 N0 HD HD2 HBB BOX;obtain⟨k,hk⟩:∃k:Nat,n.kind=(k:Int):=⟨n.kind.toNat,(Int.toNat_of_nonneg (by have:=HNO.out.1;omega)).symm⟩
     have hk255:k<=255:=by have:=HNO.out.2.1;omega
     have HK:=zA hk;obtain⟨g0,g1,g2,g3⟩:=CELLS.out _ _ HI.out;rw[hk]at g0;obtain⟨hlen,ao,cap,rfl,hc⟩:=hn;rw[intCs_len]at*;have hl64:=HNO.out.2.2.1;have hk9:=numB_le k;have hn9:=numB_le n.nums.length;clear hk;have hst:∀(a:Addr) (m:Mode) (w:World) (fn:Fn) (f c:Array Value),(store a (.func fn f c) m).run Try.prog w=stored Try.prog w a (.func fn f c) m:=fun a m w fn f c=>run_store Try.prog w a _ m rfl
     go_wp2_with fail;refine(numPut_any w2 _ k [] HI.out (by omega) (by simp)).mono ?_;rintro e w3 ⟨rfl,hi3⟩;have H3:=zA hi3;clear hi3 g0 g1 g2 g3 HI;obtain⟨g0,g1,g2,g3⟩:=CELLS.out _ _ H3.out;clear hst;go_wp2_with fail;refine(numPut_any w2 _ n.nums.length ([]++numB k) H3.out (by omega) (by simp;omega)).mono ?_;rintro e w4 ⟨rfl,hi4⟩;have H4:=zA hi4;clear hi4 g0 g1 g2 g3 H3;obtain⟨g0,g1,g2,g3⟩:=CELLS.out _ _ H4.out;have HC:=zA hc;clear hc;go_wp2;clear g0 g1 g2 g3;go_loopw [35] (fun c wr=>∃i:Nat,i<=n.nums.length/\c=.int .i64 i/\BodyInv w2 wr ([]++numB k++numB n.nums.length++numsB (n.nums.take i))) (fun c _=>n.nums.length-(intOf c).toNat)
     case atStart=>exact⟨0,zO _,rfl,by simpa[numsB]using H4.out⟩
     case round=>
      obtain⟨i,hi,rfl,hir⟩:=hrel;have hbr:=KEEP.out _ _ hir;have HR:=zA hir;clear hir H4;by_cases hlt:i<n.nums.length
      . obtain⟨x,hx⟩:∃x,n.nums[i]?=some x:=⟨_,zD hlt⟩
        have hg:=HNO.out.2.2.2 x (zJ hx);obtain⟨m,rfl⟩:∃m:Nat,x=(m:Int):=⟨x.toNat,(Int.toNat_of_nonneg hg.1).symm⟩
        have hm63:m<2^63:=by have:=hg.2;omega
        rcases HC.out with hnil|⟨b,o,rfl,hl,hc⟩
        . exfalso;have:=intCs_len n.nums;rw[hnil]at this;simp at this;omega
        . have hcx:=(hbr.cell (p:=⟨b,o+i,none⟩) hl).trans (hc i (.int .i64 m) (by rw[intCs,zP,hx];rfl));have HX:=zA (numsB_step hx);have hltI:(i:Int)<(n.nums.length:Int):=by omega
          have hnl:=numsB_le (n.nums.take i);rw[zQ,Nat.min_eq_left hi]at hnl;clear hc hx hg;go_wp2_with fail;refine(numPut_any w2 _ m _ HR.out hm63 (by simp only[zE,List.length_nil];omega)).mono ?_;rintro e w5 ⟨rfl,hi5⟩;have H5:=zA hi5;clear hi5 hcx hbr HR;go_wp2;go_roundw
          case rel=>exact⟨i+1,by omega,by go_num,by rw[HX.out,<- List.append_assoc];exact H5.out⟩
          case measure=>simp[intOf];omega
      . have hir:=HR.out;rw[zI (by omega)]at hir;have HR2:=zA hir;clear hir HR;obtain⟨W5,hW5⟩:∃W,W=wr:=⟨_,rfl⟩
        subst hW5;obtain⟨g0,g1,g2,g3⟩:=CELLS.out _ _ HR2.out;have hT:=ht.below hbr;have HT:=zA hT;have hnl:=numsB_le n.nums;have hL:=listB_le HTF.out;have hro:=HTF.out.1.1;obtain⟨O1,hO1⟩:∃O,O=[]++numB k++numB n.nums.length++numsB n.nums:=⟨_,rfl⟩
        have hO1l:O1.length<=594:=by rw[hO1];simp only[zE,List.length_nil];omega
        rw[<- hO1]at HR2;have HO1:=zA hO1;clear hT hO1 hk9 hn9 hnl;go_wp2_with fail;refine(listPut_any w2 _ vt n.texts O1 HR2.out HT.out (by have:=HTF.out.1.2.1;omega) HTF.out.1.2.2.1 (by omega)).mono ?_;rintro e w6 ⟨rfl,hi6⟩;have H6:=zA hi6;clear hi6 g0 g1 g2 g3 HR2 HT;obtain⟨g0,g1,g2,g3⟩:=CELLS.out _ _ H6.out;obtain⟨hlen2,ao2,cap2,vs,rfl,hvl,hc2,hrs⟩:=hr.parts;have HVL:=zA hvl;have HC2:=zA hc2;have HRS:=zA hrs;have hr9:=numB_le n.rows.length;clear hvl hc2 hrs;go_wp2_with fail;refine(numPut_any w2 _ n.rows.length (O1++listB n.texts) H6.out (by omega) (by simp only[zE];omega)).mono ?_;rintro e w7 ⟨rfl,hi7⟩;have H7:=zA hi7;clear hi7 g0 g1 g2 g3 H6;obtain⟨g0,g1,g2,g3⟩:=CELLS.out _ _ H7.out;go_wp2;clear g0 g1 g2 g3;go_loopw [55] (fun c wr=>∃i:Nat,i<=n.rows.length/\c=.int .i64 i/\BodyInv w2 wr (O1++listB n.texts++numB n.rows.length++rowsB (n.rows.take i))) (fun c _=>n.rows.length-(intOf c).toNat)
        case atStart=>exact⟨0,zO _,rfl,by simpa[rowsB]using H7.out⟩
        case round=>
         clear hi;obtain⟨i,hi,rfl,hir⟩:=hrel;have hbr2:=KEEP.out _ _ hir;have HR:=zA hir;clear hir H7 hbr;by_cases hlt2:i<n.rows.length
         . obtain⟨r,hx⟩:∃x,n.rows[i]?=some x:=⟨_,zD hlt2⟩
           obtain⟨x,hy⟩:∃x,vs[i]?=some x:=⟨_,zD (by rw[HVL.out];exact hlt2)⟩
           have hrm:=zJ hx;rcases HC2.out with hnil|⟨b,o,rfl,hl,hc⟩
           . rw[hnil]at hy;simp at hy
           . have hcx:=(hbr2.cell (p:=⟨b,o+i,none⟩) hl).trans (hc i x hy);have HX:=zA (rowsB_step hx);have hX:=(HRS.out i x r hy hx).below hbr2;have HXS:=zA hX;have hltI:(i:Int)<(n.rows.length:Int):=by omega
             have hnl:=rowsB_take_le HTF.out i;obtain⟨hrl,hrc⟩:=row_le HTF.out hrm;have HSH:=zA (HTF.out.1.2.2.2 r hrm);clear hc hx hy hX hrm;go_wp2_with fail;refine(listPut_any w2 _ x r _ HR.out HXS.out hrc HSH.out (by simp only[zE];omega)).mono ?_;rintro e w8 ⟨rfl,hi8⟩;have H8:=zA hi8;clear hi8 hcx hbr2 HR;go_wp2;go_roundw
             case rel=>exact⟨i+1,by omega,by go_num,by rw[HX.out,<- List.append_assoc];exact H8.out⟩
             case measure=>simp[intOf];omega
         . have hir:=HR.out;rw[zI (by omega),HO1.out,body_of_parts n k HK.out]at hir;have HR2:=zA hir;clear hir HR;have hbl:(Lib.byteCells n.body).length=n.body.length:=byteCells_len _;obtain⟨W8,hW8⟩:∃W,W=wr:=⟨_,rfl⟩
           subst hW8;by_cases hmb:1048576<n.body.length
           . have HV:Hid (bodyV n=.tuple #[.string ⟨#[]⟩,.int .i64 1]):=zA (if_neg (fun hm=>by have:=hm.2.2;omega));have hmbI:(1048576:Int)<(n.body.length:Int):=by omega
             go_wp2_with fail;refine(Try.Builder_Len_f _ _ _ _ HR2.out.1).mono ?_;rintro e w9 ⟨rfl,rfl⟩;rw[hbl];go_wp2;go_ret2;exact⟨by rw[HV.out];rfl,hbr2⟩
           . have HV:Hid (bodyV n=.tuple #[.string ⟨n.body.toArray⟩,.int .i64 0]):=zA (if_pos ⟨HNO.out,HTF.out.1,by omega⟩);have hmbI:¬(1048576:Int)<(n.body.length:Int):=by omega
             go_wp2_with fail;refine(Try.Builder_Len_f _ _ _ _ HR2.out.1).mono ?_;rintro e w9 ⟨rfl,rfl⟩;rw[hbl];clear hbl hmb hlt2 hlt hlen hlen2 hl64 hL hro hO1l hr9 hk255;obtain⟨L,hL⟩:∃L:Int,L=(n.body.length:Int):=⟨_,rfl⟩
             rw[<- hL]at hmbI ⊢;clear hL;go_wp2_with fail;refine(Try.Builder_String_any_f _ _ _ _ HR2.out.1 HR2.out.2.2.size).mono ?_;rintro e w10 ⟨rfl,_,hb10⟩;have HB10:Hid (Below w.heap.size w w10):=zA (hbr2.trans (hb10.mono (by have:=HW2.out;omega)));clear hb10;go_wp2;go_ret2;exact⟨by rw[HV.out];rfl,HB10.out⟩
   . have hd2:decide n.textsFit=false:=decide_eq_false htf;have HD2:=zA hd2;have HV:Hid (bodyV n=.tuple #[.string ⟨#[]⟩,.int .i64 1]):=zA (if_neg (fun hm=>htf ⟨hm.2.1,zS (size_le_body n) hm.2.2⟩));clear hd2 htf hno;have HBB:=zA hbb;clear hbb;go_enter Try.func47,Try.ntmps47;go_wp2_with fail;refine(numsMayBe_any _ n _ N0.out).mono ?_;rintro e w1 ⟨rfl,hb1⟩;rw[HD.out];have N1:=zA (N0.out.below hb1);obtain⟨g0,g1,g2,g3⟩:=box_cells hb1;go_wp2_with fail;refine(textsMayBe_any _ n _ N1.out HS.out).mono ?_;rintro e w2 ⟨rfl,hb2⟩;rw[HD2.out];have hb12:=HBB.out.trans ((hb1.trans (hb2.mono hb1.size)).mono (by simp));clear hb1 hb2 g0 g1 g2 g3;go_wp2;go_ret2;exact⟨by rw[HV.out];rfl,hb12⟩
 . have hd:decide n.numsOk=false:=decide_eq_false hno;have HD:=zA hd;have HV:Hid (bodyV n=.tuple #[.string ⟨#[]⟩,.int .i64 1]):=zA (if_neg (fun hm=>hno hm.1));clear hd hno;have HBB:=zA hbb;clear hbb;go_enter Try.func47,Try.ntmps47;go_wp2_with fail;refine(numsMayBe_any _ n _ N0.out).mono ?_;rintro e w1 ⟨rfl,hb1⟩;rw[HD.out];go_wp2;go_ret2;exact⟨by rw[HV.out];rfl,HBB.out.trans (hb1.mono (by simp))⟩
end Go.Proofs.Ytjoddkeamboeoaa
namespace Go.Proofs.Ytjoddkeamboeoaa
open Go.RowKit
theorem four_conv(n:Nat)(w:World)(hn:n<4294967296):
 (convert 104 9 (.slice (some ⟨w.heap.size,0,none⟩) 4 4)).run Try.prog (w.alloc (.cells #[.int .u8 ((n:Int)/16777216),.int .u8 ((n:Int)/65536%256),.int .u8 ((n:Int)/256%256),.int .u8 ((n:Int)%256)] 5))
  =.ok (.string ⟨(fourB n).toArray⟩) (w.alloc (.cells #[.int .u8 ((n:Int)/16777216),.int .u8 ((n:Int)/65536%256),.int .u8 ((n:Int)/256%256),.int .u8 ((n:Int)%256)] 5)):=by
 refine run_convert_bytes_back (P:=Try.prog) _ 104 9 5 ⟨w.heap.size,0,none⟩ 4 (fourB n) Try.underlying104 Try.underlying5 Try.underlying9 (fun j hj=>?_);rw[show (⟨w.heap.size,0,none⟩:Addr).add j=⟨w.heap.size,j,none⟩from by cases j<;>simp[Addr.add],World.cell?_alloc_at _ _ _ _ rfl];have hj4:j<4:=hj
 match j,hj4 with
 |0,_=>simp[fourB];omega
 |1,_=>simp[fourB]
 |2,_=>simp[fourB]
 |3,_=>simp[fourB]
set_option maxHeartbeats 1000000 in
theorem putFour_any(n:Nat)(w:World)(hn:n<4294967296):
 Calls Try.prog 48 #[.int .i64 n] w fun e w'=>e=.returned (.string ⟨(fourB n).toArray⟩)/\Below w.heap.size w w':=by
 have hcv:=four_conv n w hn;go_enter Try.func48,Try.ntmps48;go_wp2;go_ret;exact⟨rfl,(zB _ _).alloc (zC _) _⟩
theorem i64_or_nat(q y k K:Nat)(hK:K=2^k)(hy:y<K)(h:K*q+y<9223372036854775808):bits .or .i64 ((K*q:Nat):Int) (y:Int)=((K*q+y:Nat):Int):=by
 show IntKind.i64.wrap ((BitVec.ofInt 64 ((K*q:Nat):Int) ||| BitVec.ofInt 64 (y:Int)).toNat:Int)=_;have e:K*q ||| y=K*q+y:=by subst hK;exact(Nat.two_pow_add_eq_or_of_lt hy q).symm
 rw[BitVec.toNat_or,ofInt_i64 _ (by omega),ofInt_i64 y (by omega),e,IntKind.wrap_i64];generalize K*q=x at*;omega
theorem wrap_in(n:Int)(h1: -9223372036854775808<=n)(h2:n<=9223372036854775807):wrap64 n=n:=by unfold wrap64;omega
theorem wrap_byte(a:UInt8)(k:Nat)(hk:k<=16777216):wrap64 (wrap64 (a.toNat:Int)*(k:Int))=((k*a.toNat:Nat):Int):=by
 have ha:=a.toNat_lt;have hm:k*a.toNat<=16777216*255:=Nat.mul_le_mul hk (by omega);rw[wrap_in (a.toNat:Int) (by omega) (by omega),<- Int.natCast_mul,Nat.mul_comm a.toNat k];generalize k*a.toNat=x at*;exact wrap_in _ (by omega) (by omega)
theorem or_four(a b c d:UInt8):
 bits BinOp.or IntKind.i64 (bits BinOp.or IntKind.i64 (bits BinOp.or IntKind.i64 (wrap64 (wrap64 (a.toNat:Int)*16777216)) (wrap64 (wrap64 (b.toNat:Int)*65536))) (wrap64 (wrap64 (c.toNat:Int)*256))) (wrap64 (d.toNat:Int))
  =((beVal [a,b,c,d]:Nat):Int):=by
 have e1:=wrap_byte a 16777216 (by omega);have e2:=wrap_byte b 65536 (by omega);have e3:=wrap_byte c 256 (by omega);have ha:=a.toNat_lt;have hb:=b.toNat_lt;have hc:=c.toNat_lt;have hd:=d.toNat_lt;have e4:wrap64 (d.toNat:Int)=(d.toNat:Int):=wrap_in _ (by omega) (by omega);have e5:beVal [a,b,c,d]=256*(65536*a.toNat+256*b.toNat+c.toNat)+d.toNat:=by
  simp only[beVal,List.foldl_cons,List.foldl_nil];omega
 rw[e5,e4];rw[show ((16777216:Nat):Int)=16777216 from rfl]at e1;rw[show ((65536:Nat):Int)=65536 from rfl]at e2;rw[show ((256:Nat):Int)=256 from rfl]at e3;rw[e1,e2,e3];generalize a.toNat=x at*;generalize b.toNat=y at*;generalize c.toNat=z at*;generalize d.toNat=u at*;rw[i64_or_nat x (65536*y) 24 16777216 rfl (by omega) (by omega)];have g1:16777216*x+65536*y=65536*(256*x+y):=by omega
 rw[g1,i64_or_nat (256*x+y) (256*z) 16 65536 rfl (by omega) (by omega)];have g2:65536*(256*x+y)+256*z=256*(65536*x+256*y+z):=by omega
 rw[g2,i64_or_nat (65536*x+256*y+z) u 8 256 rfl (by omega) (by omega)]
theorem take_four(s:ByteArray)(h:3<s.size):s.data.toList.take 4=[s[0],s[1],s[2],s[3]]:=by
 have e3:s.data.toList.take 4=_:=take_snoc s 3 h;have e2:s.data.toList.take 3=_:=take_snoc s 2 (by omega);have e1:s.data.toList.take 2=_:=take_snoc s 1 (by omega);have e0:s.data.toList.take 1=_:=take_snoc s 0 (by omega);rw[e3,e2,e1,e0];rfl
set_option maxHeartbeats 1000000 in
theorem four_any(s:ByteArray)(w:World)(hs:4<=s.size):
 Calls Try.prog 82 #[.string s] w fun e w'=>e=.returned (.int .i64 (fourN s.data.toList))/\Below w.heap.size w w':=by
 have h0:0<s.size:=by omega
 have h1:1<s.size:=by omega
 have h2:2<s.size:=by omega
 have h3:3<s.size:=by omega
 have h1I:(1:Int)<(s.size:Int):=by omega
 have h2I:(2:Int)<(s.size:Int):=by omega
 have h3I:(3:Int)<(s.size:Int):=by omega
 go_enter Try.func82,Try.ntmps82;go_wp2_with fail;go_quiet (fail);have hbq:Below w.heap.size w (w.drewN nq):=below_drewN (zB _ _) nq;have hor:=or_four (s[0]'h0) (s[1]'h1) (s[2]'h2) (s[3]'h3);go_wp2;go_ret;exact⟨(congrArg (fun z=>Ending.returned (Value.int .i64 z)) hor).trans (by rw[fourN,take_four s h3]),hbq⟩
def packV(n:NoteD):Value:=if n.may then .tuple #[.string ⟨(sealB n.body).toArray⟩,.int .i64 0]else .tuple #[.string ⟨#[]⟩,.int .i64 1]
theorem seal_join(b:List UInt8):(⟨(fourB b.length).toArray⟩:ByteArray)++⟨(fourB (sumN b)).toArray⟩++⟨b.toArray⟩=⟨(sealB b).toArray⟩:=by
 apply bytes_ext;rw[append_data,append_data,data_list,data_list,data_list,data_list,sealB,List.append_assoc]
set_option maxHeartbeats 1000000 in
theorem pack_any(v:Value)(n:NoteD)(w:World)(h:NoteAt w v n)(hs:n.sane):
 Calls Try.prog 32 #[v] w fun e w'=>e=.returned (packV n)/\Below w.heap.size w w':=by
 have hN:=h;obtain⟨vn,vt,vr,rfl,hn,ht,hr⟩:=h;have hbb:Below w.heap.size w (w.alloc (.cells #[.int .i64 n.kind,vn,vt,vr] 36)):=(zB _ _).alloc (zC _) _;have N0:=zA (hN.below hbb);have HS:=zA hs;clear hN hs hn ht hr;have HBB:=zA hbb;clear hbb;by_cases hm:n.may
 . have HV:Hid (bodyV n=.tuple #[.string ⟨n.body.toArray⟩,.int .i64 0]):=zA (if_pos hm);have HP:Hid (packV n=.tuple #[.string ⟨(sealB n.body).toArray⟩,.int .i64 0]):=zA (if_pos hm);have hbl:=hm.2.2;have HJ:=zA (seal_join n.body);have HSUM:=fun w=>sum_any ⟨n.body.toArray⟩ w (by rw[size_list];omega)
   rw[data_list]at HSUM;have HSUM:=zA HSUM;have hsl:=sumN_lt n.body;have hsz:=size_list n.body;clear hm;obtain⟨X,hX⟩:∃X,X=sumN n.body:=⟨_,rfl⟩
   rw[<- hX]at HSUM hsl HJ;clear hX;go_enter Try.func32,Try.ntmps32;go_wp2_with fail;refine(bodyOf_any _ n _ N0.out HS.out).mono ?_;rintro e w1 ⟨rfl,hb1⟩;rw[HV.out];have B1:=zA (HBB.out.trans (hb1.mono (by simp)));clear hb1;go_wp2_with fail;refine(putFour_any _ _ (by omega)).mono ?_;rintro e w2 ⟨rfl,hb2⟩;have B2:=zA (B1.out.trans (hb2.mono B1.out.size));clear hb2;go_wp2_with fail;refine(HSUM.out _).mono ?_;rintro e w3 ⟨rfl,hb3⟩;have B3:=zA (B2.out.trans (hb3.mono B2.out.size));clear hb3;go_wp2_with fail;refine(putFour_any _ _ hsl).mono ?_;rintro e w4 ⟨rfl,hb4⟩;have B4:=zA (B3.out.trans (hb4.mono B3.out.size));clear hb4;have q1:=fourB_len n.body.length;have q2:=fourB_len X;go_wp2;go_ret2;exact⟨by rw[HP.out,<- HJ.out];rfl,B4.out⟩
 . have HV:Hid (bodyV n=.tuple #[.string ⟨#[]⟩,.int .i64 1]):=zA (if_neg hm);have HP:Hid (packV n=.tuple #[.string ⟨#[]⟩,.int .i64 1]):=zA (if_neg hm);go_enter Try.func32,Try.ntmps32;go_wp2_with fail;refine(bodyOf_any _ n _ N0.out HS.out).mono ?_;rintro e w1 ⟨rfl,hb1⟩;rw[HV.out];go_wp2;go_ret2;exact⟨by rw[HP.out];rfl,HBB.out.trans (hb1.mono (by simp))⟩
end Go.Proofs.Ytjoddkeamboeoaa
