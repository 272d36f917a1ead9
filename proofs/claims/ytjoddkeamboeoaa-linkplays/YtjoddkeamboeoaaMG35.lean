/- ERTick, ERTic2, ELAllM, ELRight, ELDoM. -/
import Derived.Test.YtjoddkeamboeoaaMG34
set_option maxRecDepth 100000
namespace Go.Proofs.Ytjoddkeamboeoaa
open Go.RowKit Go.Shelf
section
variable {T:Nat->Prop} {w:World} {e:En} {vq:Value}
set_option maxHeartbeats 1000000 in
theorem rPacket_any(hq:TxR T w vq e.q){k:Nat}{t:List UInt8}(ht:e.q[k]?=some t)(hf:e.fs<=4611686018427387904)(hk:k<=100000):
 Calls Try.prog 37 #[rvE e vq,.int .i64 (k:Int)] w fun x w'=>x=.returned (.string ⟨(carB e (e.fs+k) t).toArray⟩)/\Below w.heap.size w w':=by
 obtain⟨m,hm⟩:∃m,e.fs+k=m:=⟨_,rfl⟩
 have hwr:wrap64 ((e.fs:Int)+(k:Int))=(m:Int):=by unfold wrap64;omega
 have hwr2:IntKind.i64.wrap ((e.fs:Int)+(k:Int))=(m:Int):=by rw[IntKind.wrap_i64];omega
 have hkl:k<e.q.length:=(zG.1 ht).1;have hq0:=hq;obtain⟨ao,cap,rfl,-,-,-⟩:=txr_cells hq;obtain⟨g,o,rfl,hc⟩:=hq0.get ht;obtain⟨n,hn⟩:∃n,e.q.length=n:=⟨_,rfl⟩
 rw[hn]at hkl ⊢;have hkI:(k:Int)<(n:Int):=by omega
 obtain⟨W,hW⟩:∃W,W=boxR w e (.slice (some ⟨g,o,none⟩) n cap):=⟨_,rfl⟩
 have hb0:Below w.heap.size w W:=by rw[hW];exact(zB _ _).alloc (zC _) _
 have hbk:W.heap[w.heap.size]?=some (.cells #[.int .i64 e.ep,.int .i64 e.ot,.int .i64 e.fs,.int .i64 e.wt,.slice (some ⟨g,o,none⟩) n cap] 29 (0,0)):=by rw[hW];exact box_at w _
 have hcW:W.cell? ⟨g,o+k,none⟩=some (.string ⟨t.toArray⟩):=(hb0.cell (p:=⟨g,o+k,none⟩) (World.block_lt_of_cell? _ _ hc)).trans hc;obtain⟨b,hb⟩:∃b,w.heap.size=b:=⟨_,rfl⟩
 rw[hb]at hbk;have KS:Hid (∀u,Below W.heap.size W u->u.cell? ⟨b,0,none⟩=some (.int .i64 e.ep)/\u.cell? ⟨b,1,none⟩=some (.int .i64 e.ot)/\u.cell? ⟨b,2,none⟩=some (.int .i64 e.fs)/\u.cell? ⟨b,3,none⟩=some (.int .i64 e.wt)/\u.cell? ⟨b,4,none⟩=some (.slice (some ⟨g,o,none⟩) n cap)/\u.cell? ⟨g,o+k,none⟩=some (.string ⟨t.toArray⟩)):=zA (fun u hu=>by
  obtain⟨⟨k0,k1,k2,k3,k4⟩,-⟩:=five_cells ((hu.block b (lt_of_block hbk)).trans hbk);exact⟨k0,k1,k2,k3,k4,(hu.cell (p:=⟨g,o+k,none⟩) (World.block_lt_of_cell? _ _ hcW)).trans hcW⟩)
 obtain⟨oi,HOI⟩:∃oi,Hid (oi=Obj.cells #[.int .i64 e.ep,.int .i64 e.ot,.int .i64 (m:Int),.int .i64 e.wt] 3):=⟨_,zA rfl⟩
 obtain⟨os,HOS⟩:∃os,Hid (os=Obj.cells #[.string ⟨t.toArray⟩] 9):=⟨_,zA rfl⟩
 have bi:Below W.heap.size W (W.alloc oi):=(zB _ _).alloc (zC _) _;have bs:Below W.heap.size W (W.alloc os):=(zB _ _).alloc (zC _) _;have bis:Below W.heap.size W ((W.alloc oi).alloc os):=bi.alloc bi.size _;have bsi:Below W.heap.size W ((W.alloc os).alloc oi):=bs.alloc bs.size _;have HB1:=zA (below_drewE bi);have HB2:=zA (below_drewE bs);have HB3:=zA (below_drewE bis);have HB4:=zA (below_drewE bsi);have n1:((W.alloc oi).alloc os).heap[W.heap.size]?=some oi:=(Below.heap_alloc _ _ _ (by simp)).trans (box_at W _);have n2:((W.alloc oi).alloc os).heap[W.heap.size+1]?=some os:=by have:=box_at (W.alloc oi) os;simpa using this
 have n3:((W.alloc os).alloc oi).heap[W.heap.size]?=some os:=(Below.heap_alloc _ _ _ (by simp)).trans (box_at W _);have n4:((W.alloc os).alloc oi).heap[W.heap.size+1]?=some oi:=by have:=box_at (W.alloc os) oi;simpa using this
 have C1:=zA (rPack_any (.agg #[.int .i64 1,.slice (some ⟨W.heap.size,0,none⟩) 4 4,.slice (some ⟨W.heap.size+1,0,none⟩) 1 1,.slice none 0 0]) (carN e m t) ((W.alloc oi).alloc os).drew
  ⟨_,_,_,rfl,ints_new (n1.trans (by rw[HOI.out];rfl)) (by simp[carN]),strs_new (n2.trans (by rw[HOS.out])),rows_nil _⟩)
 have C2:=zA (rPack_any (.agg #[.int .i64 1,.slice (some ⟨W.heap.size+1,0,none⟩) 4 4,.slice (some ⟨W.heap.size,0,none⟩) 1 1,.slice none 0 0]) (carN e m t) ((W.alloc os).alloc oi).drew
  ⟨_,_,_,rfl,ints_new (n4.trans (by rw[HOI.out];rfl)) (by simp[carN]),strs_new (n3.trans (by rw[HOS.out])),rows_nil _⟩)
 obtain⟨y,hy⟩:=packV_ex (carN e m t);rw[hy]at C1 C2;rw[HOI.out,HOS.out]at C1 C2 HB3 HB4;rw[HOI.out]at HB1;rw[HOS.out]at HB2;have HB0:Hid (Below b w W):=zA (by rw[<- hb];exact hb0);have HBZ:Hid (b<=W.heap.size):=zA (by rw[<- hb];exact HB0.out.size);have HW:Hid (w.alloc (.cells #[.int .i64 e.ep,.int .i64 e.ot,.int .i64 e.fs,.int .i64 e.wt,.slice (some ⟨g,o,none⟩) n cap] 29)=W):=zA hW.symm;have HBB:=zA hb;rw[carB,hm];clear hq hq0 ht hc hcW hbk hb0 bi bs bis bsi n1 n2 n3 n4 HOI HOS hy hn hf hk hm hW;go_enter Try.func37,Try.ntmps37;go_wp2_with fail;rw[HW.out];clear HW;go_region_held3 (fun u=>u.cell? ⟨b,0,none⟩=some (.int .i64 e.ep)/\u.cell? ⟨b,1,none⟩=some (.int .i64 e.ot)/\u.cell? ⟨b,2,none⟩=some (.int .i64 e.fs)/\u.cell? ⟨b,3,none⟩=some (.int .i64 e.wt)/\u.cell? ⟨b,4,none⟩=some (.slice (some ⟨g,o,none⟩) n cap)/\u.cell? ⟨g,o+k,none⟩=some (.string ⟨t.toArray⟩))
  (first|with_reducible exact KS.out _ (HB3.out.trans (hb3.mono HB3.out.size))|with_reducible exact KS.out _ (HB4.out.trans (hb4.mono HB4.out.size))|with_reducible exact KS.out _ (below_drewE (zB _ _))|with_reducible exact KS.out _ HB1.out|with_reducible exact KS.out _ HB2.out|with_reducible exact KS.out _ HB3.out|with_reducible exact KS.out _ HB4.out)
  (first|(with_reducible refine C1.out.mono ?_;rintro x w1 ⟨rfl,hb3⟩)|(with_reducible refine C2.out.mono ?_;rintro x w1 ⟨rfl,hb4⟩))
 . have HE:Hid (Below w.heap.size w w1):=zA (by
    rw[HBB.out];first
     |exact HB0.out.trans ((HB3.out.trans (hb3.mono HB3.out.size)).mono HBZ.out)
     |exact HB0.out.trans ((HB4.out.trans (hb4.mono HB4.out.size)).mono HBZ.out))
   go_wp2;go_ret;exact⟨rfl,HE.out⟩
 . have HE:Hid (Below w.heap.size w w1):=zA (by
    rw[HBB.out];first
     |exact HB0.out.trans ((HB3.out.trans (hb3.mono HB3.out.size)).mono HBZ.out)
     |exact HB0.out.trans ((HB4.out.trans (hb4.mono HB4.out.size)).mono HBZ.out))
   go_wp2;go_ret;exact⟨rfl,HE.out⟩
end
section
variable {T:Nat->Prop} {w:World} {e:En} {vq:Value}
theorem TxR.below{w':World}{v:Value}{l:List (List UInt8)}(h:TxR T w v l)(hb:Below w.heap.size w w'):TxR T w' v l:=h.keep (fun g _ hg ho=>⟨hg,(hb.block g (lt_of_block ho)).trans ho⟩)
theorem own_less{B B' m k:Nat}{t:TypeId}{v:Value}{xs:List Value}(h:w.ownsRow B t k v m xs)(hB:B'<=B):w.ownsRow B' t k v m xs:=by
 refine⟨h.1,?_⟩;rcases h.2 with h0|⟨g,cap,cur,e1,e2,e3⟩
 . exact .inl h0
 . exact .inr ⟨g,cap,cur,e1,zS hB e2,e3⟩
set_option maxHeartbeats 1000000 in
theorem rTick_any(hq:TxR T w vq e.q)(hok:e.ok):Calls Try.prog 17 #[rvE e vq] w (TckE w e):=by
 obtain⟨i0,hi0,hz0,hz1,hz2⟩:=info_partsE infoT;have hfs:=hok.fs2;have hqb:=hok.ql;obtain⟨ao,cap,rfl,-,-,-⟩:=txr_cells hq;obtain⟨n,hn⟩:∃n,e.q.length=n:=⟨_,rfl⟩
 rw[hn]at hqb;obtain⟨m,hm⟩:∃m,min n 64=m:=⟨_,rfl⟩
 obtain⟨l,hl⟩:∃l,l=e.q.take 64:=⟨_,rfl⟩
 have hlm:l.length=m:=by rw[hl,zQ,<- hm,hn];omega
 have hb0:Below w.heap.size w (w.alloc (.cells #[.int .i64 e.ep,.int .i64 e.ot,.int .i64 e.fs,.int .i64 e.wt,.slice ao n cap] 29)):=(zB _ _).alloc (zC _) _;have hbk:=box_at w (.cells #[.int .i64 e.ep,.int .i64 e.ot,.int .i64 e.fs,.int .i64 e.wt,.slice ao n cap] 29);obtain⟨W,hW⟩:∃W,W=w.alloc (.cells #[.int .i64 e.ep,.int .i64 e.ot,.int .i64 e.fs,.int .i64 e.wt,.slice ao n cap] 29):=⟨_,rfl⟩
 have hWs:W.heap.size=w.heap.size+1:=by rw[hW];simp
 rw[<- hW]at hb0 hbk;obtain⟨b,hb⟩:∃b,w.heap.size=b:=⟨_,rfl⟩
 rw[hb]at hbk;have hqW:TxR T W (.slice ao e.q.length cap) e.q:=hq.below hb0;have KC:Hid (∀u,Below W.heap.size W u->u.cell? ⟨b,0,none⟩=some (.int .i64 e.ep)/\u.cell? ⟨b,1,none⟩=some (.int .i64 e.ot)/\u.cell? ⟨b,2,none⟩=some (.int .i64 e.fs)/\u.cell? ⟨b,3,none⟩=some (.int .i64 e.wt)/\u.cell? ⟨b,4,none⟩=some (.slice ao n cap)):=zA (fun u hu=>(five_cells ((hu.block b (lt_of_block hbk)).trans hbk)).1);have CP:Hid (∀u k t,Below W.heap.size W u->e.q[k]?=some t->Calls Try.prog 37 #[rvE e (.slice ao n cap),.int .i64 ((k:Nat):Int)] u fun x w'=>x=.returned (.string ⟨(carB e (e.fs+k) t).toArray⟩)/\Below u.heap.size u w'):=zA (fun u k t hu ht=>by
  have h:=rPacket_any (hqW.below hu) ht hfs (by have:=(zG.1 ht).1;omega);rw[hn]at h;exact h)
 have HTL:Hid (tickE e=tickF e e.fs l):=zA (by rw[tickE,hl]);have HLQ:Hid (∀i,i<m->∃t,l[i]?=some t/\e.q[i]?=some t):=zA (fun i hi=>by
  obtain⟨t,ht⟩:∃t,l[i]?=some t:=⟨_,zD (by omega)⟩
  refine⟨t,ht,?_⟩;rw[hl,List.getElem?_take]at ht;split at ht
  . exact ht
  . cases ht)
 have HW:Hid (w.alloc (.cells #[.int .i64 e.ep,.int .i64 e.ot,.int .i64 e.fs,.int .i64 e.wt,.slice ao n cap] 29)=W):=zA hW.symm;have HB0:Hid (Below b w W):=zA (by rw[<- hb];exact hb0);have HBB:=zA hb;have hbW:b<=W.heap.size:=by omega
 have HN:=zA hn;have HM:=zA hm;have HLM:=zA hlm;rw[hn];clear hq hqW hb0 hbk hW hWs hb hn hm hlm hl hfs;go_enter Try.func17,Try.ntmps17;go_wp2_with fail;rw[HBB.out,HW.out];clear HW;go_loopw [3,4] (fun vl c wr=>∃(i:Nat) (u:Value),u=vl/\i<=m/\c=.int .i64 i/\wr.ownsRow W.heap.size 9 1 u i (strCs (tickF e e.fs (l.take i)))/\Below W.heap.size W wr) (fun _ c _=>m-(intOf c).toNat)
 case atStart=>exact⟨0,_,rfl,zO _,rfl,by simpa[tickF,strCs]using World.ownsRow_nil _ _ _ _,zB _ _⟩
 case round=>
  obtain⟨i,u,rfl,hi,rfl,hrow,hbq⟩:=hrel;obtain⟨wx,hwx⟩:∃wx,wx=wr:=⟨_,rfl⟩
  subst hwx;obtain⟨ua,uc,hu⟩:=own_slice hrow;subst hu;have HROW:=zA hrow;have HBQ:=zA hbq;have hsx:W.heap.size<=wx.heap.size:=hbq.size;obtain⟨k0,k1,k2,k3,k4⟩:=KC.out wx hbq;clear hrow hbq;by_cases hlt:i<m
  . have hltI:(i:Int)<(n:Int):=by have:=HM.out;omega
    have hltJ:(i:Int)<64:=by have:=HM.out;omega
    obtain⟨t,ht,htq⟩:=HLQ.out i hlt;have C:=zA (CP.out wx i t HBQ.out htq);have HT:=zA ht;have him:i<=64:=by have:=HM.out;omega
    obtain⟨p,HP⟩:∃p,Hid (p=carB e (e.fs+i) t):=⟨_,zA rfl⟩
    rw[<- HP.out]at C;clear ht htq;go_wp2_with fail;refine C.out.mono ?_;rintro x w2 ⟨rfl,hb2⟩;have HB2:Hid (Below W.heap.size W w2):=zA (HBQ.out.trans (hb2.mono HBQ.out.size));have HR2:=zA (ownsRow_below HROW.out hb2);have hs2:W.heap.size<=w2.heap.size:=HB2.out.size;clear hb2 C k0 k1 k2 k3 k4;go_wp2_with (refine wpList_append_lies _ rfl _ _ _ rfl W.heap.size 9 i0 _ 1 16 Try.underlying27 hi0 hz0 hz1 hz2 rfl (by decide) (.slice ua i uc) _ _ (by rfl) (HR2.out.alloc _) ⟨w2.heap.size,0,none⟩ 1 1 [.string ⟨p.toArray⟩] (by rfl) (by rfl) ?d1 ?d2 (by decide) ?d3 ?d4 ?d5 (w2.heap.size+1) (by simp) ?_)
    case d1=>exact World.news_of_block (cs:=#[.string ⟨p.toArray⟩]) (t:=9) (fr:=(0,0)) (heap_alloc_new w2 _)
    case d2=>simp[Value.oneCell']
    case d3=>unfold maxLen;omega
    case d4=>omega
    case d5=>simp;omega
    intro gg cap2 w9 hown9 hgrow9 hat9 hlt9;have ba:Below w2.heap.size w2 (w2.alloc (.cells #[.string ⟨p.toArray⟩] 9)):=(zB _ _).alloc (zC _) _;have HB9:Hid (Below W.heap.size W w9):=zA ((HB2.out.trans (ba.mono HB2.out.size)).grown hgrow9 (by simp;omega) (fun k e=>(HR2.out.lt k e).1));have HR9:Hid (w9.ownsRow W.heap.size 9 1 (.slice (some ⟨gg,0,none⟩) (i+1) cap2) (i+1) (strCs (tickF e e.fs (l.take (i+1))))):=zA (by
     have h1:tickF e e.fs (l.take (i+1))=tickF e e.fs (l.take i)++[p]:=by
      rw[zW,HT.out,HP.out,zY,tickF_snoc,zQ,Nat.min_eq_left (by have:=HLM.out;omega)]
     rw[h1,strCs_snoc];exact hown9)
    clear hown9 hgrow9 hat9 hlt9 ba;go_wp2;go_roundw
    case rel=>exact⟨i+1,_,rfl,by omega,by go_num,HR9.out,HB9.out⟩
    case measure=>simp[intOf];omega
  . have HE:Hid (TckE w e (.returned (.slice ua i uc)) wx):=zA (by
     have hil:l.take i=l:=by rw[zI (by have:=HLM.out;omega)]
     have hr:=HROW.out;rw[hil,<- HTL.out]at hr;have hli:(tickE e).length=i:=by rw[HTL.out,tickF_len,HLM.out];omega
     refine⟨⟨_,rfl,?_⟩,?_⟩
     . rw[hli,HBB.out];exact own_less hr hbW
     . rw[HBB.out];exact HB0.out.trans (HBQ.out.mono hbW))
    have hor:¬(i:Int)<(n:Int)\/((i:Int)<(n:Int)/\¬(i:Int)<64):=by have:=HM.out;omega
    rcases hor with h1|⟨h1,h2⟩
    all_goals
     clear k0 k1 k2 k3;go_wp2;go_ret;exact HE.out
end
end Go.Proofs.Ytjoddkeamboeoaa
namespace Go.Proofs.Ytjoddkeamboeoaa
open Go.RowKit
def caP(p:List UInt8):Bool:=match heardP p with|some h=>h.ca|none=>false
def wgP(p:List UInt8):Nat:=if caP p=true then 2 else 1
def wgU(u:List (List UInt8)):Nat:=(u.map wgP).sum
structure Calm (e:Nat->En) (U:Nat->List (List UInt8)) (n c F:Nat->Nat) (Kn:Prop) (B:Nat):Prop where
 ln:LnI e U n c
 wg:wgU (U 0)+wgU (U 1)<=B
 tel:∀k,k<2->∀p∈U k,∀x,heardP p=some x->x.ca=false->x.ot=((e k).ep:Int)
 fs:∀k,k<2->F k<=(e k).fs
 met:∀k,k<2->F k<=n k->(∃p∈U (1-k),caP p=true)\/((e (1-k)).ot≠0/\((e k).ot≠0\/U k≠[]))
 kn:Kn->∀k,k<2->(e k).ot≠0
 prg:Kn->∀k,k<2->F k<=n k->F k<(e k).fs\/(∃p∈U k,∃x,heardP p=some x/\x.ot=((e k).ep:Int)/\(F k:Int)<x.wt)\/(∃p∈U (1-k),∃x,heardP p=some x/\x.ca=true/\x.nr=(F k:Int)/\x.ot=((e (1-k)).ep:Int))
section
variable {e:Nat->En} {U:Nat->List (List UInt8)} {n c F:Nat->Nat} {Kn:Prop} {B k:Nat}
theorem both{P:Nat->Prop}(hk:k<2)(h1:P k)(h2:P (1-k)):∀j,j<2->P j:=by
 intro j hj;by_cases e:j=k
 . rw[e];exact h1
 . have:j=1-k:=by omega
   rw[this];exact h2
def RndP(e:Nat->En)(n:Nat->Nat)(r:Nat):Prop:=r=0\/(∀k,k<2->n k+1<=(e k).fs)\/((∀k,k<2->(e k).ot≠0)/\∀k,k<2->n k+1<=(e k).fs\/n k+r<=(e k).fs+150)
theorem RndP.next{e0:Nat->En}{r:Nat}(hr:RndP e0 n r)(hn:∀k,k<2->n k<=150)(h:Calm e U n c (fun k=>(e0 k).fs) (∀k,k<2->(e0 k).ot≠0) B)(h0:U 0=[])(h1:U 1=[]):RndP e n (r+1):=by
 have hU:∀k,k<2->U k=[]:=fun k hk=>by
  match k,hk with
  |0,_=>exact h0
  |1,_=>exact h1
 have hmet:∀k,k<2->(e0 k).fs<=n k->∀j,j<2->(e j).ot≠0:=fun k hk hF=>by
  rcases h.met k hk hF with⟨p,hp,_⟩|⟨ha,hb⟩
  . rw[hU (1-k) (by omega)]at hp;cases hp
  . exact both hk (hb.resolve_right (fun hb=>hb (hU k hk))) ha
 have hdone:(∀k,k<2->n k+1<=(e0 k).fs)->RndP e n (r+1):=fun hd=>.inr (.inl (fun k hk=>by have:=hd k hk;have h2:(e0 k).fs<=(e k).fs:=h.fs k hk;omega))
 have hfs1:∀k,k<2->1<=(e k).fs:=fun k hk=>(h.ln.at_k hk).1.fs.1
 rcases hr with rfl|hd|⟨hK,hp⟩
 . by_cases hd:∀k,k<2->n k+1<=(e0 k).fs
   . exact hdone hd
   . have:∃k,k<2/\(e0 k).fs<=n k:=by
      apply Classical.byContradiction;intro hne;exact hd (fun k hk=>Nat.lt_of_not_le (fun hle=>hne ⟨k,hk,hle⟩))
     obtain⟨k,hk,hF⟩:=this;exact .inr (.inr ⟨hmet k hk hF,fun j hj=>.inr (by have:=hn j hj;have:=hfs1 j hj;omega)⟩)
 . exact hdone hd
 . refine .inr (.inr ⟨h.kn hK,fun k hk=>?_⟩);have hfk:(e0 k).fs<=(e k).fs:=h.fs k hk;by_cases hF:(e0 k).fs<=n k
   . rcases h.prg hK k hk hF with ha|⟨p,hp,_⟩|⟨p,hp,_⟩
     . rcases hp k hk with hq|hq
       . exact .inl (by omega)
       . exact .inr (by omega)
     . rw[hU k hk]at hp;cases hp
     . rw[hU (1-k) (by omega)]at hp;cases hp
   . exact .inl (by omega)
theorem RndP.done(hr:RndP e n 200)(hn:∀k,k<2->n k<=150):∀k,k<2->n k+1<=(e k).fs:=by
 rcases hr with h|hd|⟨_,hp⟩
 . cases h
 . exact hd
 . intro k hk;rcases hp k hk with h|h
   . exact h
   . have:=hn k hk;omega
end
end Go.Proofs.Ytjoddkeamboeoaa
namespace Go.Proofs.Ytjoddkeamboeoaa
open Go.RowKit Go.Shelf
section
variable {w0:World} {T:Nat->Prop} {W W':World} {x:Nat} {V:LV} {e:Nat->En} {U:Nat->List (List UInt8)} {n c:Nat->Nat}
theorem LnB.drew(h:LnB w0 T W x V e U n c):LnB w0 T W.drew x V e U n c:=
 h.fr (fr_below h.low (below_drewE (zB _ _))) (fun _ hk=>hk) (h.two.below (below_drewE (zB _ _))) (fun k hk=>h.low k hk)
end
section
variable {N:Nat} {w0:World} {T:Nat->Prop} {W W':World} {x:Nat} {V:LV} {e:Nat->En} {U:Nat->List (List UInt8)} {n c:Nat->Nat}
structure LnS (w0:World) (T:Nat->Prop) (W:World) (x:Nat) (V:LV) (e:Nat->En) (U:Nat->List (List UInt8)) (n c:Nat->Nat) (N:Nat):Prop where
 b:LnB w0 T W x V e U n c
 i:LnI e U n c
 u:∀k,k<2->(U k).length<=363
 N:n 0+n 1<=N
theorem LnS.nk(h:LnS w0 T W x V e U n c N){k:Nat}(hk:k<2):n k<=N:=by
 have:=h.N
 match k,hk with
 |0,_=>show n 0<=N;omega
 |1,_=>show n 1<=N;omega
end
end Go.Proofs.Ytjoddkeamboeoaa
