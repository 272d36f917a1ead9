/- EAwk, EPay, EBits, ELineM. -/
import Derived.Test.YtjoddkeamboeoaaMG32
set_option maxRecDepth 100000
namespace Go.Proofs.Ytjoddkeamboeoaa
open Go.RowKit Go.Shelf
theorem takeE_car{e f:En}(hf:f.ok)(hw:f.wt<=4611686018427387903){k:Nat}(hk:k<=4611686018427387903){n:NoteD}(hn:fitsN n):
 takeE e (carB f k (sealB n.body))=if f.ep<e.ot then (e,[],[],false)else metE (seeE e f.ep) ⟨f.ep,f.ot,f.wt,true,k,n⟩:=by
 rw[takeE,heardP_car hf hw hk hn.1 hn.2];have:=hf.ep1;simp only[Int.toNat_natCast];by_cases h:f.ep<e.ot
 . rw[if_pos (.inr (by omega)),if_pos h]
 . rw[if_neg (by omega),if_neg h]
theorem takeE_tel{e f:En}(hf:f.ok)(hw:f.wt<=4611686018427387903):
 takeE e (telB f)=if f.ep<e.ot then (e,[],[],false)else metE (seeE e f.ep) ⟨f.ep,f.ot,f.wt,false,0,.none⟩:=by
 rw[takeE,heardP_tel hf hw];have:=hf.ep1;simp only[Int.toNat_natCast];by_cases h:f.ep<e.ot
 . rw[if_pos (.inr (by omega)),if_pos h]
 . rw[if_neg (by omega),if_neg h]
theorem metE_not{m:En×Bool}{h:Hd}(ho:h.ot≠(m.1.ep:Int)):metE m h=(m.1,[],[telB m.1],m.2):=by rw[metE,if_pos ho]
theorem metE_yes{m:En×Bool}{h:Hd}(ho:h.ot=(m.1.ep:Int)):metE m h=tookE (dropE m.1 h.wt.toNat) h m.2:=by rw[metE,if_neg (by simpa using ho)]
theorem dropE_none{e:En}{k:Nat}(h:k<=e.fs):dropE e k=e:=by
 have:goneE e k=0:=by unfold goneE;omega
 simp[dropE,this]
def n7:NoteD:=⟨7,[],[],[]⟩
theorem n7_fits:fitsN n7:=⟨by decide +kernel,by decide +kernel⟩
theorem n7_at(w:World):NoteAt w (.agg #[.int .i64 7,.slice none 0 0,.slice none 0 0,.slice none 0 0]) n7:=
 ⟨_,_,_,rfl,⟨by simp[intCs,n7],none,0,rfl,.inl rfl⟩,strs_nil _,rows_nil _⟩
theorem newE1:(newE 1).ok:=newE_ok (by omega) (by omega)
def s7:List UInt8:=sealB n7.body
theorem s7_len:s7.length<=32768:=n7_fits.2
theorem aw1:putE (newE 1) n7=(⟨1,0,1,1,[s7]⟩,[carB (newE 1) 1 s7],0):=by
 rw[putE,if_neg (fun h=>h n7_fits),if_neg (by simp[newE]),if_neg (by simp[newE])];rfl
theorem aw2:takeE (newE 1) (carB (newE 1) 1 s7)=(⟨1,1,1,1,[]⟩,[],[telB ⟨1,1,1,1,[]⟩],false):=by
 rw[s7,takeE_car newE1 (by simp[newE]) (by omega) n7_fits,if_neg (by simp[newE]),metE_not (by simp[newE,seeE,meetE])];rfl
theorem okA(q:List (List UInt8))(f v:Nat)(hq:q.length<=4096)(hp:∀p∈q,p.length<=32768)(hf:1<=f/\f<=10)(hv:1<=v/\v<=10):(En.mk 1 1 f v q).ok:=
 ⟨by simp,by simp,by simp,hf.1,by simp only;omega,hv.1,by simp only;omega,hq,hp⟩
theorem ok1:(En.mk 1 1 1 1 []).ok:=okA [] 1 1 (by simp) (by simp) (by omega) (by omega)
theorem ok2:(En.mk 1 1 1 1 [s7]).ok:=okA [s7] 1 1 (by simp) (fun p hp=>by rw[zX.1 hp];exact s7_len) (by omega) (by omega)
theorem ok3:(En.mk 1 1 1 2 []).ok:=okA [] 1 2 (by simp) (by simp) (by omega) (by omega)
theorem aw3:(takeE ⟨1,0,1,1,[s7]⟩ (telB ⟨1,1,1,1,[]⟩)).1=⟨1,1,1,1,[s7]⟩:=by
 rw[takeE_tel ok1 (by simp),if_neg (by simp)];have h1:seeE ⟨1,0,1,1,[s7]⟩ 1=(⟨1,1,1,1,[s7]⟩,false):=rfl;simp only;rw[h1,metE_yes rfl];simp only[Int.toNat_natCast];rw[dropE_none (by simp),tookE,if_pos rfl]
theorem aw4:carC ⟨1,1,1,1,[s7]⟩ ⟨1,1,1,1,[]⟩=(⟨1,1,2,1,[]⟩,⟨1,1,1,2,[]⟩,[n7],false):=by
 have h0:tickE ⟨1,1,1,1,[s7]⟩=[carB ⟨1,1,1,1,[s7]⟩ 1 s7]:=rfl;have h1:takeE ⟨1,1,1,1,[]⟩ (carB ⟨1,1,1,1,[s7]⟩ 1 s7)=(⟨1,1,1,2,[]⟩,[n7],[telB ⟨1,1,1,2,[]⟩],false):=by
  rw[show carB ⟨1,1,1,1,[s7]⟩ 1 s7=carB ⟨1,1,1,1,[s7]⟩ 1 (sealB n7.body)from rfl,takeE_car ok2 (by simp) (by omega) n7_fits,if_neg (by simp)];have h1:seeE ⟨1,1,1,1,[]⟩ 1=(⟨1,1,1,1,[]⟩,false):=rfl;simp only;rw[h1,metE_yes rfl];simp only[Int.toNat_natCast];rw[dropE_none (by simp),tookE,if_neg (by simp),if_pos rfl]
 have h2:(takeE ⟨1,1,1,1,[s7]⟩ (telB ⟨1,1,1,2,[]⟩)).1=⟨1,1,2,1,[]⟩:=by
  rw[takeE_tel ok3 (by simp),if_neg (by simp)];have h1:seeE ⟨1,1,1,1,[s7]⟩ 1=(⟨1,1,1,1,[s7]⟩,false):=rfl;simp only;rw[h1,metE_yes rfl];simp only[Int.toNat_natCast];rw[tookE,if_pos rfl];rfl
 rw[carC,carS,h0,List.foldl_cons,List.foldl_nil,stepR];simp only[h1,backs,List.foldl_cons,List.foldl_nil,h2];rfl
set_option maxHeartbeats 1000000 in
theorem awake_any(w:World):Calls Try.prog 11 #[] w fun e w'=>e=.returned (.bool true)/\Below w.heap.size w w':=by
 have C1:Hid (∀W:World,Calls Try.prog 9 #[.int .i64 1] W (NewE 1 W)):=zA (fun W=>new_any 1 W);unfold NewE at C1;have hE:EpOk 1:=⟨by omega,by omega⟩
 have HEP:=zA hE;clear hE;go_enter Try.func11,Try.ntmps11;go_wp2_with fail;refine(C1.out _).mono ?_;rintro x w1 ⟨hb1,⟨h,-⟩|⟨-,b1,rfl,hlo1,hk1⟩⟩
 . exact absurd HEP.out h
 have HB1:=zA hb1;have HK1:=zA hk1;have HL1:=zA hlo1;clear hb1 hk1 hlo1;go_wp2_with fail;refine(C1.out _).mono ?_;rintro x w2 ⟨hb2,⟨h,-⟩|⟨-,b2,rfl,hlo2,hk2⟩⟩
 . exact absurd HEP.out h
 have hb1lt:=lt_of_block HK1.out;have HT:Hid (Two (fun k=>k<w.heap.size) w2 b1 (newE 1) b2 (newE 1)):=zA (two_new (kpB hb2 HK1.out) hk2 newE1 newE1 (by have:=HL1.out;omega) (by have:=HB1.out.size;omega) (by omega));have HBL:Hid (Below w.heap.size w w2):=zA (HB1.out.trans (hb2.mono HB1.out.size));have HLW:Hid (Low (fun k=>k<w.heap.size) w2):=zA (fun k hk=>zF hk (zS HB1.out.size hb2.size));clear hb2 hk2 hlo2 HB1 HK1 HL1 C1 hb1lt;have CP:=zA (putT_any HT.out HLW.out _ n7 (n7_at w2) ⟨by simp[n7],by simp[n7]⟩);unfold PtT at CP;rw[aw1]at CP;obtain⟨p1,hp1⟩:∃p,carB (newE 1) 1 s7=p:=⟨_,rfl⟩
 have HT2:=aw2;rw[hp1]at HT2;simp only[hp1]at CP;have HP1:Hid (p1.length<=1048584):=zA (by rw[<- hp1];exact packN_len _);have HAW2:=zA HT2;clear hp1 HT2;go_wp2_with fail;refine CP.out.mono ?_;clear CP;rintro x w3 ⟨⟨a0,l0,c0,rfl,ho⟩,ht3,hf3⟩;obtain⟨e1,e2,e3⟩:=oneT_cells ho;obtain⟨g,rfl,hg,hbk,-⟩:=e3 0 p1 rfl;obtain rfl:l0=1:=e1;have HT3:=zA ht3.swap;have HB3:Hid (Below w.heap.size w w3):=zA (HBL.out.trans (hf3.below (fun _ h=>h)));have HL3:=zA (HLW.out.fr hf3);have hc3:w3.cell? ⟨g,0,none⟩=some (.string ⟨p1.toArray⟩):=by simp only[World.cell?,hbk];rfl
 have CK:=zA (takT_any HT3.out HL3.out p1 (by have:=HP1.out;omega));unfold TakT at CK;rw[HAW2.out]at CK;obtain⟨p2,hp2⟩:∃p,telB ⟨1,1,1,1,[]⟩=p:=⟨_,rfl⟩
 have HT3':=aw3;rw[hp2]at HT3';simp only[hp2]at CK;have HP2:Hid (p2.length<=1048584):=zA (by rw[<- hp2];exact packN_len _);have HAW3:=zA HT3';clear hp2 HT3' e2 e3 ho ht3 hf3 hbk hg HBL HLW HT HAW2;go_wp2_with fail;refine CK.out.mono ?_;clear CK;rintro x w4 ⟨⟨b0,m0,d0,b1',m1,d1,rfl,hN,ho⟩,ht4,hf4⟩;obtain⟨us,e0,-⟩:=oneN_cells (T:=fun _=>True) hN (fun _ _ _=>trivial);obtain rfl:m0=0:=e0;obtain⟨e1,e2,e3⟩:=oneT_cells ho;obtain⟨g2,rfl,hg2,hbk2,-⟩:=e3 0 p2 rfl;obtain rfl:m1=1:=e1;have ba:Below w4.heap.size w4 (w4.alloc (.cells #[.slice b0 0 d0,.slice (some ⟨g2,0,none⟩) 1 d1,.bool false] 50)):=(zB _ _).alloc (zC _) _;have HT4:=zA ((ht4.below ba).swap.sub (T:=fun k=>k<w.heap.size) (fun k hk=>.inl hk));have hF4:Below w.heap.size w w4:=HB3.out.trans (hf4.below (fun _ h=>h));have HB4:Hid (Below w.heap.size w (w4.alloc (.cells #[.slice b0 0 d0,.slice (some ⟨g2,0,none⟩) 1 d1,.bool false] 50))):=zA (hF4.trans (ba.mono hF4.size));have HL4:Hid (Low (fun k=>k<w.heap.size) (w4.alloc (.cells #[.slice b0 0 d0,.slice (some ⟨g2,0,none⟩) 1 d1,.bool false] 50))):=zA (fun k hk=>zF hk HB4.out.size);have hc4:(w4.alloc (.cells #[.slice b0 0 d0,.slice (some ⟨g2,0,none⟩) 1 d1,.bool false] 50)).cell? ⟨g2,0,none⟩=some (.string ⟨p2.toArray⟩):=by
  have h:=kpB ba hbk2;simp only[World.cell?,h];rfl
 obtain⟨⟨x0,x1,x2⟩,-⟩:=three_cells (box_at w4 (.cells #[.slice b0 0 d0,.slice (some ⟨g2,0,none⟩) 1 d1,.bool false] 50));have CK:=zA (takT_any HT4.out HL4.out p2 (by have:=HP2.out;omega));unfold TakT at CK;rw[HAW3.out]at CK;clear e2 e3 ho hN ht4 hf4 hbk2 hg2 ba hF4 hc3 HT3 HB3 HL3;go_wp2_with fail;refine CK.out.mono ?_;clear CK;rintro x w5 ⟨⟨f0,n0,k0,f1,n1,k1,rfl,-,-⟩,ht5,hf5⟩;have HB5:Hid (Below w.heap.size w w5):=zA (HB4.out.trans (hf5.below (fun _ h=>h)));have HL5:=zA (HL4.out.fr hf5);have HT5:=zA (ht5.sub (T:=fun k=>k<w.heap.size) (fun k hk=>.inl hk));have CC:=zA (carry_law HT5.out HL5.out);unfold CarE at CC;rw[aw4]at CC;clear ht5 hf5 x0 x1 x2 hc4 HB4 HL4 HT4;go_wp2_with fail;refine CC.out.mono ?_;clear CC;rintro x w6 ⟨v,T,rfl,ht6,hsub6,hlow6,hf6,hpay⟩;obtain⟨cs,hrow,hrT,hcs⟩:=hpay;obtain⟨k1,-⟩:=hcs 0 n7 rfl;have hv:∃g cap,v=.slice (some ⟨g,0,none⟩) 1 cap/\w6.cell? ⟨g,0,none⟩=some (.int .i64 7):=by
  rcases hrow.2 with⟨_,h0⟩|⟨g,cap,cur,e1,_⟩
  . cases h0
  . refine⟨g,cap,e1,?_⟩;rw[e1]at hrow;have:=hrow.cellAt 0 (by simp);rw[this];exact k1
 obtain⟨g6,cap6,rfl,hc6⟩:=hv;have HB6:Hid (Below w.heap.size w w6):=zA (HB5.out.trans (hf6.below (fun _ h=>h)));have CW:=zA (waitsT_any ht6);have CO:=zA (otherT_any ht6);clear k1 hcs hrow hrT hf6 hsub6 hlow6 ht6 HB5 HL5 HT5;go_wp2_with fail;refine CW.out.mono ?_;rintro x w7 ⟨rfl,hw⟩;rw[hw];clear hw CW w7;go_wp2_with fail;refine CO.out.mono ?_;rintro x w7 ⟨rfl,hw⟩;rw[hw];clear hw CO w7;go_wp2;go_ret;exact⟨rfl,HB6.out⟩
end Go.Proofs.Ytjoddkeamboeoaa
namespace Go.Proofs.Ytjoddkeamboeoaa
open Go.RowKit
def nk(k i:Nat):NoteD:=⟨(k:Int),[(i:Int)],[],[]⟩
theorem nk_fits{k i:Nat}(hk:1<=k/\k<=255)(hi:i<=4611686018427387903):fitsN (nk k i):=by
 have hlen:(nk k i).body.length<=1000:=by
  have a1:=numsB_le (nk k i).nums;have a2:=rowsB_le (nk k i).rows (by simp[nk]);have a3:=textsB_le2 (nk k i).texts (by simp[nk,shortL]);have b1:(numB (nk k i).kind.toNat).length<=9:=by have:=numsB_le [(nk k i).kind];simpa[numsB]using this
  have b2:(numB (nk k i).nums.length).length<=9:=by have:=numsB_le [((nk k i).nums.length:Int)];simpa[numsB]using this
  have b3:(numB (nk k i).texts.length).length<=9:=by have:=numsB_le [((nk k i).texts.length:Int)];simpa[numsB]using this
  have b4:(numB (nk k i).rows.length).length<=9:=by have:=numsB_le [((nk k i).rows.length:Int)];simpa[numsB]using this
  simp only[NoteD.body,listB,zE];have c1:(nk k i).nums.length=1:=rfl;have c2:(nk k i).texts=[]:=rfl;have c3:(nk k i).rows=[]:=rfl;rw[c2]at a3 b3 ⊢;rw[c3]at a2 b4 ⊢;rw[c1]at a1;simp only[sumL,sumR,cntR,List.map_nil,List.sum_nil,List.length_nil]at a1 a2 a3;omega
 refine⟨⟨⟨by simp only[nk];omega,by simp only[nk];omega,by simp[nk],fun x hx=>?_⟩,⟨by simp[nk],by simp[nk,cntR],by simp[nk,shortL],by simp[nk]⟩,by omega⟩,by rw[sealB_len];omega⟩;simp only[nk,zX]at hx;subst hx;exact⟨by omega,by omega⟩
def pk(k i:Nat):List UInt8:=sealB (nk k i).body
def qs(k a b:Nat):List (List UInt8):=(List.range' a (b-a)).map (pk k)
theorem qs_len(k a b:Nat):(qs k a b).length=b-a:=by simp[qs]
theorem qs_snoc{k a b:Nat}(h:a<=b):qs k a (b+1)=qs k a b++[pk k b]:=by
 have h1:b+1-a=(b-a)+1:=by omega
 have h2:a+1*(b-a)=b:=by omega
 rw[qs,h1,List.range'_concat,List.map_append,h2];rfl
theorem i64_maskE(n:Int)(k:Nat)(m M:Int)(hk:k<=62)(hm:(BitVec.ofInt 64 m).toNat=2^k-1)(hM:M=((2^k:Nat):Int)):bits .and .i64 n m=n%M:=by
 have key:(BitVec.ofInt 64 n &&& BitVec.ofInt 64 m).toNat=(n%((2^64:Nat):Int)).toNat%2^k:=by
  rw[BitVec.toNat_and,BitVec.toNat_ofInt,hm,Nat.and_two_pow_sub_one_eq_mod]
 show IntKind.i64.wrap ((BitVec.ofInt 64 n &&& BitVec.ofInt 64 m).toNat:Nat)=n%M;have hd:(2^64:Nat)=2^k*2^(64-k):=by rw[<- Nat.pow_add];congr 1;omega
 have e:((n%((2^64:Nat):Int)).toNat%2^k:Nat)=(n%((2^k:Nat):Int)).toNat:=by
  apply Int.ofNat.inj;show (((n%((2^64:Nat):Int)).toNat%2^k:Nat):Int)=((n%((2^k:Nat):Int)).toNat:Int);rw[Int.natCast_emod,Int.toNat_of_nonneg (Int.emod_nonneg _ (by omega)),Int.toNat_of_nonneg (Int.emod_nonneg _ (by have:=Nat.two_pow_pos k;omega))];exact Int.emod_emod_of_dvd _ (Int.natCast_dvd_natCast.2 ⟨2^(64-k),hd⟩)
 have hlt:(2^k:Nat)<=2^62:=Nat.pow_le_pow_right (by omega) hk;have hp:=Nat.two_pow_pos k;have h1:0<=n%((2^k:Nat):Int):=Int.emod_nonneg _ (by omega);have h2:n%((2^k:Nat):Int)<((2^k:Nat):Int):=Int.emod_lt_of_pos _ (by omega);rw[key,e,IntKind.wrap_i64,hM];omega
theorem mask_nat(z:Int)(k:Nat)(m M:Int)(hk:k<=62)(hm:(BitVec.ofInt 64 m).toNat=2^k-1)(hM:M=((2^k:Nat):Int)):∃n:Nat,bits .and .i64 z m=(n:Int)/\n<2^k:=by
 have h:=i64_maskE z k m M hk hm hM;have hp:=Nat.two_pow_pos k;have h1:=Int.emod_nonneg z (show M≠0 by omega);have h2:=Int.emod_lt_of_pos z (show (0:Int)<M by omega);exact⟨(z%M).toNat,by rw[h];omega,by omega⟩
def Und(ep n wt:Nat)(p:List UInt8):Prop:=
 ∃h,heardP p=some h/\h.ep=(ep:Int)/\h.wt<=(wt:Int)/\(h.ca=true->∃k:Nat,h.nr=(k:Int)+1/\k<n/\h.pl=nk 5 k)
theorem Und.more{ep n n' wt wt':Nat}{p:List UInt8}(h:Und ep n wt p)(hn:n<=n')(hw:wt<=wt'):Und ep n' wt' p:=by
 obtain⟨x,h1,h2,h3,h4⟩:=h;exact⟨x,h1,h2,by omega,fun hc=>by obtain⟨k,k1,k2,k3⟩:=h4 hc;exact⟨k,k1,by omega,k3⟩⟩
structure Half (e f:En) (n c:Nat) (u:List (List UInt8)):Prop where
 q:e.q=qs 5 (e.fs-1) n
 fs:1<=e.fs/\e.fs<=n+1
 wt:f.wt=c+1
 cn:c<=n
 fc:e.fs<=c+1
 o0:f.ot=0->c=0
 ot:f.ot=0\/f.ot=e.ep
 und:∀p∈u,Und e.ep n e.wt p
 ok:e.ok
 n2:n<=1000
theorem Half.sub{e f:En}{n c:Nat}{u v:List (List UInt8)}(h:Half e f n c u)(hv:∀p∈v,p∈u):Half e f n c v:={ h with und:=fun p hp=>h.und p (hv p hp) }
theorem Half.add{e f:En}{n c:Nat}{u v:List (List UInt8)}(h:Half e f n c u)(hv:∀p∈v,Und e.ep n e.wt p):Half e f n c (u++v):=
 { h with und:=fun p hp=>(zZ.1 hp).elim (h.und p) (hv p) }
theorem und_car{e:En}(h:e.ok){n k j:Nat}(hw:e.wt<=1001)(hk:k=j+1)(hj:j<n)(hn:n<=1000):Und e.ep n e.wt (carB e k (pk 5 j)):=by
 have hf:=nk_fits (k:=5) (i:=j) (by omega) (by omega);refine⟨_,heardP_car h (by omega) (by omega) hf.1 hf.2,rfl,Int.le_refl _,fun _=>⟨j,by simp only;omega,hj,rfl⟩⟩
theorem half_put{e f:En}{n c:Nat}{u:List (List UInt8)}(h:Half e f n c u)(hn:n<1000)(hw:e.wt<=1001):
 ∃ps,putE e (nk 5 n)=(pushE e (pk 5 n),ps,0)/\Half (pushE e (pk 5 n)) f (n+1) c (u++ps):=by
 have hf:=nk_fits (k:=5) (i:=n) (by omega) (by omega);have h1:=h.fs;have hql:e.q.length=n-(e.fs-1):=by rw[h.q,qs_len]
 have hok:(pushE e (pk 5 n)).ok:=pushE_ok h.ok (by omega) hf.2;have hq:(pushE e (pk 5 n)).q=qs 5 (e.fs-1) (n+1):=by
  rw[pushE];simp only;rw[qs_snoc (by omega),h.q]
 have hH:∀ps,(∀p∈ps,Und e.ep (n+1) e.wt p)->Half (pushE e (pk 5 n)) f (n+1) c (u++ps):=fun ps hps=>
  {q:=hq,fs:=⟨h1.1,by simp only[pushE];omega⟩,wt:=h.wt,cn:=by have:=h.cn;omega,fc:=h.fc,o0:=h.o0,ot:=h.ot,und:=fun p hp=>(zZ.1 hp).elim (fun hp=>(h.und p hp).more (by omega) (zC _)) (hps p),ok:=hok,n2:=by omega }
 rw[putE,if_neg (fun x=>x hf),if_neg (by omega)];by_cases h64:64<e.q.length+1
 . rw[if_pos h64];exact⟨[],rfl,hH [] (by simp)⟩
 . rw[if_neg h64];refine⟨_,rfl,hH _ (fun p hp=>?_)⟩;rw[zX.1 hp];exact und_car h.ok hw (by omega) (by omega) (by omega)
theorem half_put2{e f:En}{n c:Nat}{u:List (List UInt8)}(h:Half e f n c u)(p:List UInt8):Half e (pushE f p) n c u:={ h with wt:=h.wt,o0:=h.o0,ot:=h.ot }
end Go.Proofs.Ytjoddkeamboeoaa
