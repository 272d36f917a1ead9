/- EMade, ERPlN. -/
import Derived.Test.YtjoddkeamboeoaaMG37
set_option maxRecDepth 100000
namespace Go.Proofs.Ytjoddkeamboeoaa
open Go.RowKit Go.Shelf
theorem ints_own{w:World}{B:Nat}{v:Value}{L:List Int}(h:w.ownsRow B 3 1 v L.length (intCs L))(hl:L.length<=100):IntsAt w v L:=by
 rcases h.2 with⟨rfl,h0⟩|⟨g,cap,cur,e1,e2,e3,e4⟩
 . have:L=[]:=zU.1 h0;subst this;exact⟨by simp[intCs],none,0,rfl,.inl rfl⟩
 . refine⟨by rw[intCs_len];omega,some ⟨g,0,none⟩,cap,by rw[intCs_len];exact e1,.inr ⟨g,0,rfl,lt_of_block e3,fun j x hj=>?_⟩⟩;have hjl:j<L.length:=by have:=(zG.1 hj).1;rwa[intCs_len]at this
   subst e1;rw[Nat.zero_add,h.cellAt j (by omega),hj]
theorem infoIM:(Try.prog.info? 3).map (fun i=>(i.zero,i.size,i.bytes))=some (some (.int .i64 0),1,8):=by kernel_rfl
structure MdI (w:World) (b:Nat) (o:OpL) (x1 x2 x3:Value) (ia:Option Addr) (m icap:Nat) (kd:Int) (i:Nat) (L:List Int) (v:Value) (W:World):Prop where
 len:L.length=i
 blk:W.heap[b+1]?=some (.cells #[.int .i64 kd,v,.slice none 0 0,.slice none 0 0] 36 (0,0))
 row:W.ownsRow (b+1+1) 3 1 v i (intCs L)
 bel:Below w.heap.size w W
 opb:W.heap[b]?=some (.cells #[.int .i64 o.kind,.int .i64 o.n.kind,x1,x2,x3,.string ⟨o.text.toArray⟩,.slice ia m icap,.int .i64 o.number] 38 (0,0))
def SomeT(w:World)(x:Ending)(w':World):Prop:=(∃t:List UInt8,t.length<=1048584/\x=.returned (.string ⟨t.toArray⟩))/\Below w.heap.size w w'
set_option maxHeartbeats 1000000 in
theorem made_any(v:Value)(o:OpL)(w:World)(h:OpLAt w v o):Calls Try.prog 18 #[v] w (SomeT w):=by
 obtain⟨i0,hi0,hz0,hz1,hz2⟩:=info_partsE infoIM;obtain⟨x1,x2,x3,vi,rfl,hN,-,hI,-⟩:=h;obtain⟨hil,ia,icap,rfl,hic⟩:=hI;rw[intCs_len]at hil ⊢;obtain⟨m,hm⟩:∃m,o.nums.length=m:=⟨_,rfl⟩
 obtain⟨b,hb⟩:∃b,w.heap.size=b:=⟨_,rfl⟩
 obtain⟨k,hk,hk2⟩:=mask_nat o.number 1 1 2 (by decide) (by decide) (by decide);have HM:=zA hm;have hk1:k<=1:=by omega
 obtain⟨q,hq⟩:∃q,4-k=q:=⟨_,rfl⟩
 have hw1:wrap64 (5-(1+(k:Int)))=(q:Int):=by unfold wrap64;omega
 have hw2:(5:Int)-(1+(k:Int))=(q:Int):=by omega
 have hq4:q<=4:=by omega
 have HQ:=zA hq;have H0:Hid (MdI w b o x1 x2 x3 ia m icap (1+(k:Int)) 0 [] (.slice none 0 0) ((w.alloc (.cells #[.int .i64 o.kind,.int .i64 o.n.kind,x1,x2,x3,.string ⟨o.text.toArray⟩,.slice ia m icap,.int .i64 o.number] 38)).alloc (.cells #[.int .i64 (1+(k:Int)),.slice none 0 0,.slice none 0 0,.slice none 0 0] 36))):=zA (by
  have hs:(w.alloc (.cells #[.int .i64 o.kind,.int .i64 o.n.kind,x1,x2,x3,.string ⟨o.text.toArray⟩,.slice ia m icap,.int .i64 o.number] 38)).heap.size=b+1:=by simp;omega
  refine { len:=rfl,blk:=?_,opb:=?_,row:=by simpa[intCs]using World.ownsRow_nil _ _ _ _,bel:=((zB _ _).alloc (zC _) _).alloc (by simp) _ }
  . have h:=box_at (w.alloc (.cells #[.int .i64 o.kind,.int .i64 o.n.kind,x1,x2,x3,.string ⟨o.text.toArray⟩,.slice ia m icap,.int .i64 o.number] 38)) (.cells #[.int .i64 (1+(k:Int)),.slice none 0 0,.slice none 0 0,.slice none 0 0] 36);rw[hs]at h;exact h
  . rw[<- hb];exact(Below.heap_alloc _ _ _ (by simp)).trans (box_at w _))
 have HN:=zA hN;have HIC:=zA hic;rw[hm];clear hN hic hm hq;go_enter Try.func18,Try.ntmps18;go_wp2_with fail;go_loopw [4,5] (fun iv xv wr=>∃(i:Nat) (L:List Int) (vr:Value),i<=q/\iv=.int .i64 i/\MdI w b o x1 x2 x3 ia m icap (1+(k:Int)) i L vr wr) (fun iv _ _=>q-(intOf iv).toNat)
 case atStart=>exact⟨0,[],_,zO _,rfl,H0.out⟩
 case round=>
  obtain⟨i,L,vr,hi,rfl,md⟩:=hrel;obtain⟨wx,hwx⟩:∃wx,wx=wr:=⟨_,rfl⟩
  subst hwx;clear H0;obtain⟨va,vc,hvr⟩:=own_slice md.row;subst hvr;obtain⟨⟨m0,m1,m2,m3⟩,-⟩:=four_cells md.blk;have p6:wx.cell? ⟨b,6,none⟩=some (.slice ia m icap):=by simp only[World.cell?,md.opb];rfl
  have HR:=zA md.row;have HMD:=zA md;have hsx:b+1+1<=wx.heap.size:=lt_of_block md.blk;have HSX:=zA hsx;clear md;by_cases hlt:i<q
  . have hltI:(i:Int)<(q:Int):=by omega
    by_cases him:i<m
    . have himI:(i:Int)<(m:Int):=by omega
      obtain⟨g,off,z,rfl,hc⟩:∃g off z,ia=some ⟨g,off,none⟩/\wx.cell? ⟨g,off+i,none⟩=some (.int .i64 z):=by
       rcases HIC.out with h0|⟨g,off,e1,e2,e3⟩
       . have:=intCs_len o.nums;rw[h0,HM.out]at this;simp at this;omega
       . obtain⟨z,hzz⟩:∃z,o.nums[i]?=some z:=⟨_,zD (by rw[HM.out];exact him)⟩
         have h:=e3 i (.int .i64 z) (by rw[intCs,zP,hzz];rfl);exact⟨g,off,z,e1,(HMD.out.bel.cell (p:=⟨g,off+i,none⟩) e2).trans h⟩
      go_wp2_with (refine wpList_append_lies _ rfl _ _ _ rfl (b+1+1) 3 i0 _ 1 8 Try.underlying33 hi0 hz0 hz1 hz2 rfl (by decide) (.slice va i vc) _ _ (by rfl) (HR.out.alloc _) ⟨wx.heap.size,0,none⟩ 1 1 [.int .i64 z] (by rfl) (by rfl) ?d1 ?d2 (by decide) ?d3 ?d4 ?d5 (wx.heap.size+1) (by simp) ?_)
      case d1=>exact World.news_of_block (cs:=#[.int .i64 z]) (t:=3) (fr:=(0,0)) (heap_alloc_new wx _)
      case d2=>simp[Value.oneCell']
      case d3=>unfold maxLen;omega
      case d4=>omega
      case d5=>(try simp);omega
      intro gg cap2 w9 hown9 hgrow9 hat9 hlt9;have ba:Below wx.heap.size wx (wx.alloc (.cells #[.int .i64 z] 3)):=(zB _ _).alloc (zC _) _;have hbw9:Below (b+1+1) wx w9:=(ba.mono HSX.out).grown hgrow9 (by simp;omega) (fun k e=>(HR.out.lt k e).1);have hb1:w9.heap[b+1]?=_:=(hbw9.block (b+1) (by omega)).trans HMD.out.blk;have hb0:w9.heap[b]?=_:=(hbw9.block b (by omega)).trans HMD.out.opb;obtain⟨⟨-,n1,-,-⟩,⟨-,fn1,-,-⟩⟩:=four_cells hb1;have HNX:Hid (MdI w b o x1 x2 x3 (some ⟨g,off,none⟩) m icap (1+(k:Int)) (i+1) (L++[z]) (.slice (some ⟨gg,0,none⟩) (i+1) cap2) (w9.setCell ⟨b+1,1,none⟩ (.slice (some ⟨gg,0,none⟩) (i+1) cap2))):=zA (by
       have hgb:b+1+1<=gg:=(hown9.lt gg rfl).1;refine { len:=by rw[zE,HMD.out.len];rfl,blk:=four_set1 hb1,opb:=(set1_other (by omega) _).trans hb0,row:=?_,bel:=?_ }
       . rw[intCs_snoc];exact own_keep hown9 (fun g cur hg ho=>(set1_other (by have hgg:gg=g:=(by simpa[Value.ownBlock]using hg);omega) _).trans ho)
       . exact(HMD.out.bel.trans (hbw9.mono (by omega))).setCell (p:=⟨b+1,1,none⟩) (by simp;omega) _)
      clear hown9 hgrow9 hat9 hlt9 ba hb1 hb0 hbw9;go_wp2;go_roundw
      case rel=>exact⟨i+1,_,_,by omega,by go_num,HNX.out⟩
      case measure=>simp[intOf];omega
    . have himI:¬(i:Int)<(m:Int):=by omega
      go_wp2_with (refine wpList_append_lies _ rfl _ _ _ rfl (b+1+1) 3 i0 _ 1 8 Try.underlying33 hi0 hz0 hz1 hz2 rfl (by decide) (.slice va i vc) _ _ (by rfl) (HR.out.alloc _) ⟨wx.heap.size,0,none⟩ 1 1 [.int .i64 1] (by rfl) (by rfl) ?d1 ?d2 (by decide) ?d3 ?d4 ?d5 (wx.heap.size+1) (by simp) ?_)
      case d2=>simp[Value.oneCell']
      case d3=>unfold maxLen;omega
      case d4=>omega
      case d5=>(try simp);omega
      intro gg cap2 w9 hown9 hgrow9 hat9 hlt9;have ba:Below wx.heap.size wx (wx.alloc (.cells #[.int .i64 1] 3)):=(zB _ _).alloc (zC _) _;have hbw9:Below (b+1+1) wx w9:=(ba.mono HSX.out).grown hgrow9 (by simp;omega) (fun k e=>(HR.out.lt k e).1);have hb1:w9.heap[b+1]?=_:=(hbw9.block (b+1) (by omega)).trans HMD.out.blk;have hb0:w9.heap[b]?=_:=(hbw9.block b (by omega)).trans HMD.out.opb;obtain⟨⟨-,n1,-,-⟩,⟨-,fn1,-,-⟩⟩:=four_cells hb1;have HNX:Hid (MdI w b o x1 x2 x3 ia m icap (1+(k:Int)) (i+1) (L++[1]) (.slice (some ⟨gg,0,none⟩) (i+1) cap2) (w9.setCell ⟨b+1,1,none⟩ (.slice (some ⟨gg,0,none⟩) (i+1) cap2))):=zA (by
       have hgb:b+1+1<=gg:=(hown9.lt gg rfl).1;refine { len:=by rw[zE,HMD.out.len];rfl,blk:=four_set1 hb1,opb:=(set1_other (by omega) _).trans hb0,row:=?_,bel:=?_ }
       . rw[intCs_snoc];exact own_keep hown9 (fun g cur hg ho=>(set1_other (by have hgg:gg=g:=(by simpa[Value.ownBlock]using hg);omega) _).trans ho)
       . exact(HMD.out.bel.trans (hbw9.mono (by omega))).setCell (p:=⟨b+1,1,none⟩) (by simp;omega) _)
      clear hown9 hgrow9 hat9 hlt9 ba hb1 hb0 hbw9;go_wp2;go_roundw
      case rel=>exact⟨i+1,_,_,by omega,by go_num,HNX.out⟩
      case measure=>simp[intOf];omega
  . have hltI:¬(i:Int)<(q:Int):=by omega
    have hkk:k=0\/k=1:=by omega
    rcases hkk with rfl|rfl
    . have CN:=zA (rPack_any _ o.n wx (HN.out.below HMD.out.bel));obtain⟨y,hy⟩:=packV_ex o.n;rw[hy]at CN;have p1:wx.cell? ⟨b,1,none⟩=some (.int .i64 o.n.kind):=by simp only[World.cell?,HMD.out.opb];rfl
      have p2:wx.cell? ⟨b,2,none⟩=some x1:=by simp only[World.cell?,HMD.out.opb];rfl
      have p3:wx.cell? ⟨b,3,none⟩=some x2:=by simp only[World.cell?,HMD.out.opb];rfl
      have p4:wx.cell? ⟨b,4,none⟩=some x3:=by simp only[World.cell?,HMD.out.opb];rfl
      have hlL:L.length<=100:=by have:=HMD.out.len;omega
      have hrL:wx.ownsRow (b+1+1) 3 1 (.slice va i vc) L.length (intCs L):=by rw[HMD.out.len];exact HR.out
      have HIN:=zA (ints_own hrL hlL);clear hlL hrL hy;go_wp2_with fail;refine CN.out.mono ?_;clear CN;rintro y w2 ⟨rfl,hb2⟩;obtain⟨s,hs⟩:∃s,packN o.n=s:=⟨_,rfl⟩
      rw[hs];have hlt2:b+1<w2.heap.size:=zF (by omega) hb2.size;have hbk2:w2.heap[b+1]?=_:=(hb2.block (b+1) (by omega)).trans HMD.out.blk;obtain⟨⟨n0,n1,n2,n3⟩,⟨-,-,f2,-⟩⟩:=four_cells hbk2;have hba:Below w2.heap.size w2 (w2.alloc (.cells #[.string ⟨s.toArray⟩] 9)):=(zB _ _).alloc (zC _) _;obtain⟨W4,hW4⟩:∃W4,(w2.setCell ⟨b+1,2,none⟩ (.slice (some ⟨w2.heap.size,0,none⟩) 1 1)).alloc (.cells #[.string ⟨s.toArray⟩] 9)=W4:=⟨_,rfl⟩
      have HW4:=zA hW4;have HB4:Hid (Below w.heap.size w W4):=zA (by
       rw[<- hW4];exact((HMD.out.bel.trans (hb2.mono (by omega))).setCell (p:=⟨b+1,2,none⟩) (by simp;omega) _).alloc (by simp;omega) _)
      have hblk4:W4.heap[b+1]?=some (.cells #[.int .i64 1,.slice va i vc,.slice (some ⟨w2.heap.size,0,none⟩) 1 1,.slice none 0 0] 36 (0,0)):=by
       rw[<- hW4,Below.heap_alloc _ _ _ (by simp;omega)];exact four_set2 hbk2
      have hstr4:W4.heap[w2.heap.size]?=some (.cells #[.string ⟨s.toArray⟩] 9 (0,0)):=by
       rw[<- hW4];have h:=box_at (w2.setCell ⟨b+1,2,none⟩ (.slice (some ⟨w2.heap.size,0,none⟩) 1 1)) (.cells #[.string ⟨s.toArray⟩] 9);simpa using h
      have hin4:IntsAt W4 (.slice va i vc) L:=by
       have h1:wx.ownsRow (b+1+1) 3 1 (.slice va i vc) L.length (intCs L):=by rw[HMD.out.len];exact HR.out
       refine ints_own (own_keep h1 (fun g cur hg ho=>?_)) (by have:=HMD.out.len;omega);have hgl:=lt_of_block ho;have hgb:b+1+1<=g:=(h1.lt g hg).1;rw[<- hW4,Below.heap_alloc _ _ _ (by simp;have:=hb2.size;omega),set1_other (by omega)];exact(hb2.block g hgl).trans ho
      have CP:=zA (rPack_any _ ⟨1,L,[s],[]⟩ W4 ⟨_,_,_,rfl,hin4,strs_new hstr4,rows_nil _⟩);obtain⟨y2,hy2⟩:=packV_ex ⟨1,L,[s],[]⟩;rw[hy2]at CP;obtain⟨⟨k0,k1,k2,k3⟩,-⟩:=four_cells hblk4;have hpl:=packN_len ⟨1,L,[s],[]⟩;obtain⟨t,ht⟩:∃t,packN ⟨1,L,[s],[]⟩=t:=⟨_,rfl⟩
      rw[ht]at CP hpl;have HPL:=zA hpl;clear hW4 hba hbk2 hb2 hblk4 hstr4 hin4 hy2 hs ht hpl m0 m1 m2 m3 p1 p2 p3 p4 p6;go_upto_region 12 with fail;rw[HW4.out];clear HW4 n0 n1 n2 n3 f2;go_wp2_with fail;refine CP.out.mono ?_;rintro y w5 ⟨rfl,hb5⟩;have HE:Hid (SomeT w (.returned (.string ⟨t.toArray⟩)) w5):=zA ⟨⟨t,HPL.out,rfl⟩,HB4.out.trans (hb5.mono HB4.out.size)⟩;clear hb5 CP k0 k1 k2 k3;go_wp2;go_ret;exact HE.out
    . have hlL:L.length<=100:=by have:=HMD.out.len;omega
      have hrL:wx.ownsRow (b+1+1) 3 1 (.slice va i vc) L.length (intCs L):=by rw[HMD.out.len];exact HR.out
      have CP:=zA (rPack_any _ ⟨2,L,[],[]⟩ wx ⟨_,_,_,rfl,ints_own hrL hlL,strs_nil _,rows_nil _⟩);obtain⟨y2,hy2⟩:=packV_ex ⟨2,L,[],[]⟩;rw[hy2]at CP;have hpl:=packN_len ⟨2,L,[],[]⟩;obtain⟨t,ht⟩:∃t,packN ⟨2,L,[],[]⟩=t:=⟨_,rfl⟩
      rw[ht]at CP hpl;have HPL:=zA hpl;clear hlL hrL hy2 ht hpl;go_wp2_with fail;refine CP.out.mono ?_;rintro y w5 ⟨rfl,hb5⟩;have HE:Hid (SomeT w (.returned (.string ⟨t.toArray⟩)) w5):=zA ⟨⟨t,HPL.out,rfl⟩,HMD.out.bel.trans (hb5.mono HMD.out.bel.size)⟩;clear hb5 CP;go_wp2;go_ret;exact HE.out
theorem OneN.at_{w:World}{B:Nat}{v:Value}{ns:List NoteD}(h:OneN w B v ns):NotesAt w v ns:=by
 rcases h with⟨rfl,rfl⟩|⟨g,n,a0,l0,c0,a1,l1,c1,a2,l2,c2,rfl,rfl,-,h4,h5⟩
 . exact⟨by simp,none,0,rfl,.inl rfl⟩
 . refine⟨by simp,some ⟨g,0,none⟩,1,rfl,.inr ⟨g,0,rfl,lt_of_block h4,fun j m hj=>?_⟩⟩
   match j with
   |0=>
    simp only[List.getElem?_cons_zero,Option.some.injEq]at hj;subst hj;exact⟨_,_,_,by simp[World.cell?,h4],by simp[World.cell?,h4],by simp[World.cell?,h4],by simp[World.cell?,h4],h5.at_⟩
   |j+1=>simp at hj
theorem NtR.at_{w:World}{B:Nat}{v:Value}{ns:List NoteD}(h:NtR w B v ns):NotesAt w v ns:=by
 rcases h with⟨rfl,rfl⟩|⟨g,cap,n,a0,l0,c0,a1,l1,c1,a2,l2,c2,rfl,rfl,h3,h4⟩
 . exact⟨by simp,none,0,rfl,.inl rfl⟩
 . refine NotesOwn.at_ (B:=B) ⟨_,h3,fun j m hj=>?_⟩ (by simp)
   match j with
   |0=>
    simp only[List.getElem?_cons_zero,Option.some.injEq]at hj;subst hj;exact⟨_,_,_,rfl,rfl,rfl,rfl,h4⟩
   |j+1=>simp at hj
end Go.Proofs.Ytjoddkeamboeoaa
