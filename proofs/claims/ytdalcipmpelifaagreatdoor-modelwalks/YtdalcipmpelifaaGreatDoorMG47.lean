/- NAwakeX, NFlat, NWalkM. -/
import Derived.Test.YtdalcipmpelifaaGreatDoorMG46
set_option maxRecDepth 100000
namespace Go.Proofs.YtdalcipmpelifaaGreatDoor
open Go.RowKit Go.Shelf
theorem RowsM.slice{w:World}{v:Value}{L:List Rw}(h:RowsM w v L):∃a n c,v=.slice a n c:=by
 obtain⟨rs,hr,_⟩:=h;obtain⟨a,c,e,_⟩:=hr.cap;exact⟨a,_,c,e⟩
set_option maxHeartbeats 4000000 in
theorem awake_any{w:World}(hT:TabG w):Calls Tryz.prog 8 #[] w fun e w'=>e=.returned (.bool true)/\Below w.heap.size w w':=by
 have HT:=zA hT;have hz0:0<w.heap.size:=World.block_lt_of_cell? _ _ (hT 0 (by decide));obtain⟨A,hA⟩:∃A:Obj,A=.cells #[.string ⟨#[97]⟩,.string ⟨#[112]⟩,.string ⟨#[98]⟩,.string ⟨#[98]⟩,.string ⟨#[112]⟩,.string ⟨#[99]⟩] 32 (0,0):=⟨_,rfl⟩
 obtain⟨X,hX⟩:∃X:Obj,X=.cells #[.string ⟨#[120]⟩] 9 (0,0):=⟨_,rfl⟩
 have HA:=zA hA;have HXX:=zA hX;have HK:Hid (∀u:World,Below ((w.alloc A).alloc X).heap.size ((w.alloc A).alloc X) u->Below w.heap.size w u/\w.heap.size+2<=u.heap.size/\u.heap[w.heap.size]?=some A/\u.heap[w.heap.size+1]?=some X):=zA (fun u hu=>by
  have h:=hu.size;simp at h;refine⟨(((zF _ _).alloc (zD _) A).alloc (by simp) X).trans (hu.mono (by simp;omega)),h,?_,?_⟩
  . rw[hu.block _ (by simp;omega)];exact get_atG [A,X] w 0 (by simp)
  . rw[hu.block _ (by simp)];exact get_atG [A,X] w 1 (by simp))
 clear hT;go_enter Tryz.func8,Tryz.ntmps8;go_wp2_with fail;refine(wordN_any [112] _).mono ?_;rintro e w1 ⟨rfl,hb1⟩;rw[<- HA.out,<- HXX.out]at hb1;have HB1:=zA hb1;obtain⟨k1,z1,a1,x1⟩:=HK.out _ hb1;have HK1:=zA (And.intro k1 (And.intro z1 (And.intro a1 x1)));clear hb1 k1 z1 a1 x1 hA hX;go_wp2_with fail;refine(awR_any (g:=w.heap.size) (x:=w.heap.size+1) (k:=w1.heap.size) (a:=w1.heap.size+1) ?a0 ?a1 ?a2 ?a3 ?a4).mono ?_
 case a0=>exact(HK.out _ (((HB1.out.alloc HB1.out.size _).alloc (by have:=HB1.out.size;simp at this ⊢;omega) _).alloc (by have:=HB1.out.size;simp at this ⊢;omega) _)).1 |> HT.out.below hz0
 case a1=>rw[<- HA.out];exact(HK.out _ (((HB1.out.alloc HB1.out.size _).alloc (by have:=HB1.out.size;simp at this ⊢;omega) _).alloc (by have:=HB1.out.size;simp at this ⊢;omega) _)).2.2.1
 case a2=>rw[<- HXX.out];exact(HK.out _ (((HB1.out.alloc HB1.out.size _).alloc (by have:=HB1.out.size;simp at this ⊢;omega) _).alloc (by have:=HB1.out.size;simp at this ⊢;omega) _)).2.2.2
 case a3=>exact get_atG [_,_,_] w1 0 (by simp)
 case a4=>exact get_atG [_,_,_] w1 1 (by simp)
 rintro e w2 ⟨v2,rfl,hr2,hb2⟩;have HB2:Hid (Below ((w.alloc A).alloc X).heap.size ((w.alloc A).alloc X) w2):=zA ((((HB1.out.alloc HB1.out.size _).alloc (by have:=HB1.out.size;simp at this ⊢;omega) _).alloc (by have:=HB1.out.size;simp at this ⊢;omega) _).trans (hb2.mono (by have:=HB1.out.size;simp at this ⊢;omega)));obtain⟨ra,rn,rc,rfl⟩:=hr2.slice;have HR2:=zA hr2;clear hr2 hb2 HB1 HK1;go_wp2_with fail;refine(wordN_any [112] _).mono ?_;rintro e w3 ⟨rfl,hb3⟩;have HB3:=zA (HB2.out.trans (hb3.mono HB2.out.size));have HR3:=zA (HR2.out.below hb3);clear hb3 HB2 HR2;go_wp2_with fail;refine(awP_any (g:=w.heap.size) ?b0 ?b1).mono ?_
 case b0=>exact(HK.out _ HB3.out).1 |> HT.out.below hz0
 case b1=>rw[<- HA.out];exact(HK.out _ HB3.out).2.2.1
 rintro e w4 ⟨v4,rfl,hr4,hb4⟩;have HB4:=zA (HB3.out.trans (hb4.mono HB3.out.size));have HR4:=zA (HR3.out.below hb4);obtain⟨pa,pn,pc,rfl⟩:=hr4.slice;have HP4:=zA hr4;clear hr4 hb4 HB3 HR3;go_wp2_with fail;refine(rSameRows_any (L1:=[[[98]],[[99]]]) (L2:=[[[98]],[[99]]]) ?c0 ?c1 (by simp)).mono ?_
 case c0=>exact HR4.out.below ((((zF _ _).alloc (zD _) _).alloc (by simp) _).alloc (by simp;omega) _)
 case c1=>
  refine rows_lit (rs:=[(w4.heap.size,[[98]]),(w4.heap.size+1,[[99]])]) (get_atG [_,_,_] w4 2 (by simp)) rfl (fun p hp=>?_);simp at hp;rcases hp with rfl|rfl
  . exact⟨get_atG [_,_,_] w4 0 (by simp),by simp⟩
  . exact⟨get_atG [_,_,_] w4 1 (by simp),by simp⟩
 rintro e w5 ⟨rfl,hb5⟩;rw[yC rfl];have hb45:Below w4.heap.size w4 w5:=((((zF _ _).alloc (zD _) _).alloc (by simp) _).alloc (by simp;omega) _).trans (hb5.mono (by simp;omega));have HB5:=zA (HB4.out.trans (hb45.mono HB4.out.size));have HP5:=zA (HP4.out.below hb45);clear hb45 hb5 HB4 HR4 HP4;go_wp2_with fail;refine(rSameRows_any (L1:=[[[97],[98]],[[98],[99]]]) (L2:=[[[97],[98]],[[98],[99]]]) ?d0 ?d1 (by simp)).mono ?_
 case d0=>exact HP5.out.below ((((zF _ _).alloc (zD _) _).alloc (by simp) _).alloc (by simp;omega) _)
 case d1=>
  refine rows_lit (rs:=[(w5.heap.size,[[97],[98]]),(w5.heap.size+1,[[98],[99]])]) (get_atG [_,_,_] w5 2 (by simp)) rfl (fun p hp=>?_);simp at hp;rcases hp with rfl|rfl
  . exact⟨get_atG [_,_,_] w5 0 (by simp),by simp⟩
  . exact⟨get_atG [_,_,_] w5 1 (by simp),by simp⟩
 rintro e w6 ⟨rfl,hb6⟩;rw[yC rfl];have hb56:Below w5.heap.size w5 w6:=((((zF _ _).alloc (zD _) _).alloc (by simp) _).alloc (by simp;omega) _).trans (hb6.mono (by simp;omega));have HB6:=zA (HB5.out.trans (hb56.mono HB5.out.size));clear hb56 hb6 HB5 HP5;go_wp2_with fail;refine(awV_any (g:=w.heap.size) ?e1).mono ?_
 case e1=>rw[<- HA.out];exact(HK.out _ HB6.out).2.2.1
 rintro e w7 ⟨v7,rfl,hr7,hb7⟩;have HB7:=zA (HB6.out.trans (hb7.mono HB6.out.size));obtain⟨va,vc,rfl⟩:=hr7.slice;have HV7:=zA hr7;clear hr7 hb7 HB6;go_wp2_with fail;refine(rSameW_any (S:=fun _=>True) (T:=fun _=>True) (L1:=[[97],[98],[99]]) (L2:=[[97],[98],[99]]) ?f0 ?f1 (by simp)).mono ?_
 case f0=>exact HV7.out.below ((zF _ _).alloc (zD _) _)
 case f1=>exact sl_litN (enc:=csT) (k:=1) (fun _=>rfl) (get_atG [_] w7 0 (by simp)) (by rfl) (by rfl)
 rintro e w8 ⟨rfl,hb8⟩;rw[yC rfl];have HB8:=zA ((HB7.out.alloc HB7.out.size _).trans (hb8.mono (by have:=HB7.out.size;simp at this ⊢;omega)));clear hb8 HB7;go_wp2_with fail;refine bodyPost_ret (v:=.bool true) ?_ rfl ⟨rfl,(HK.out _ HB8.out).1⟩;simp[results,Tryz.results8,go_sem]
def FlatF(n:Nat)(e:Ending):Prop:=∃b:Bool,e=.returned (.bool b)/\(b=true->n<=40)
set_option maxHeartbeats 4000000 in
theorem flat_any{S:Nat->Prop}{w:World}{vf:Value}{fs:List Fa}{t:Vt}(hf:FasS S w vf fs)(hlf:fs.length<=9223372036854775807)(hok:VOk (fun _=>True) w t):
 Calls Tryz.prog 4 #[vf,encN t] w fun e w'=>FlatF fs.length e/\Below w.heap.size w w':=by
 obtain⟨fa,fc,rfl⟩:=hf.slice;obtain⟨n,hn⟩:∃n,n=fs.length:=⟨_,rfl⟩
 rw[<- hn]at hlf ⊢;clear hf hn;obtain⟨kind,word,val,kids⟩:=t;have hv:=hok;have HV:=zA hv;have HC:Hid (∀(u:World) (a:Nat),Below w.heap.size w u->u.heap[a]?=some (.cells #[.bool false,.string ⟨#[]⟩,.int .i64 kind,.string ⟨word.toArray⟩,val,.bool false,.string ⟨#[]⟩] 44 (0,0))->
  Calls Tryz.prog 12 #[.agg #[.int .i64 0,.slice none 0 0,.slice (some ⟨a,0,none⟩) 1 1,.slice none 0 0]] u fun e w'=>(∃b:Bool,e=.returned (.bool b))/\Below u.heap.size u w'):=zA (fun u a hu ha=>by
  have hq:QOk (fun _=>True) u ⟨.slice none 0 0,[],.slice (some ⟨a,0,none⟩) 1 1,[((false,[]),⟨kind,word,val,kids⟩,(false,[]))]⟩:=by
   refine⟨SlS.nil _ _,by simp,by simp,⟨_,_,rfl,zD _⟩,sl_litN csA_len ha (by rfl) (by rfl),fun b hb=>?_,fun b hb=>?_,by simp⟩
   . rw[zJ.1 hb];exact HV.out.below hu
   . rw[zJ.1 hb];exact⟨by simp,by simp⟩
  refine(rFlatQ_any hq).mono ?_;rintro e w' ⟨⟨b,h,_⟩,hb⟩;exact⟨⟨b,h⟩,hb⟩)
 clear hv hok;go_enter Tryz.func4,Tryz.ntmps4;go_wp2_with fail;rotate_left
 . refine bodyPost_ret (v:=.bool false) ?_ rfl ⟨⟨false,rfl,by simp⟩,(zF _ _).alloc (zD _) _⟩;simp[results,Tryz.results4,go_sem]
 . rename_i hle;have hn:n<=40:=by omega
   have HB:Hid (∀a b:Obj,Below w.heap.size w ((w.alloc a).alloc b)):=zA (fun a b=>((zF _ _).alloc (zD _) a).alloc (by simp) b);refine(HC.out _ (w.heap.size+1) (HB.out _ _) (get_atG [_,_] w 1 (by simp))).mono ?_;rintro e w1 ⟨⟨b,rfl⟩,hb1⟩;have HB1:=zA ((HB.out _ _).trans (hb1.mono (by simp;omega)));clear hb1;go_wp2_with fail;refine bodyPost_ret (v:=.bool b) ?_ rfl ⟨⟨b,rfl,fun _=>hn⟩,HB1.out⟩;simp[results,Tryz.results4,go_sem]
end Go.Proofs.YtdalcipmpelifaaGreatDoor
namespace Go.Proofs.YtdalcipmpelifaaGreatDoor
open Go.RowKit
def vxC(i:Nat):Wd:=[UInt8.ofNat (97+i)]
theorem vxC_inj{i j:Nat}(hi:i<=5)(hj:j<=5)(h:vxC i=vxC j):i=j:=by
 unfold vxC at h;injection h with h _;have:=congrArg UInt8.toNat h;rw[UInt8.toNat_ofNat',UInt8.toNat_ofNat']at this;omega
def chF(l:List Wd):List Fa:=(List.range l.length).map fun i=>(vxC i,l.getD i [],vxC (i+1))
theorem mem_chF{l:List Wd}{f:Fa}:f∈chF l↔∃i w,l[i]?=some w/\f=(vxC i,w,vxC (i+1)):=by
 unfold chF;rw[zR];constructor
 . rintro⟨i,hi,rfl⟩;have hi:=yA.1 hi;exact⟨i,_,zB hi,by rw[List.getD,zB hi];rfl⟩
 . rintro⟨i,w,hi,rfl⟩;exact⟨i,yA.2 (zE.1 hi).1,by rw[List.getD,hi];rfl⟩
def cutC(l:List Wd)(i k:Nat):List Wd:=(l.drop i).take (k-i)
theorem go_chain{l:List Wd}(h5:l.length<=5):∀(a:List Wd) (i:Nat) (y:Wd),i<=l.length->(goF (chF l) (vxC i) a y↔∃k,i<=k/\k<=l.length/\y=vxC k/\a=cutC l i k)
 |[],i,y,hi=>by
  constructor
  . intro h;have h:vxC i=y:=h;exact⟨i,zD _,hi,h.symm,by simp[cutC]⟩
  . rintro⟨k,h1,h2,rfl,h3⟩;have hl:=congrArg List.length h3;unfold cutC at hl;rw[yL,List.length_drop]at hl;simp at hl;show vxC i=vxC k;rw[show k=i by omega]
 |w::a,i,y,hi=>by
  constructor
  . rintro⟨z,hf,hg⟩;obtain⟨j,v,hj,e⟩:=mem_chF.1 hf;have hjl:=(zE.1 hj).1;injection e with e1 e2;injection e2 with e2 e3;have:=vxC_inj (by omega) (by omega) e1;subst this;subst e2 e3;obtain⟨k,h1,h2,h3,h4⟩:=(go_chain h5 a (i+1) y (by omega)).1 hg;refine⟨k,by omega,h2,h3,?_⟩;unfold cutC at h4 ⊢;rw[List.drop_eq_getElem_cons hjl,show k-i=(k-(i+1))+1 by omega,List.take_succ_cons,<- h4];have:=(zE.1 hj).2;rw[this]
  . rintro⟨k,h1,h2,h3,h4⟩;have hik:i<k:=by
     rcases Nat.lt_or_ge i k with h|h
     . exact h
     . have:k=i:=by omega
       subst this;simp[cutC]at h4
    have hil:i<l.length:=by omega
    unfold cutC at h4;rw[List.drop_eq_getElem_cons hil,show k-i=(k-(i+1))+1 by omega,List.take_succ_cons]at h4;injection h4 with h4 h5';refine⟨vxC (i+1),mem_chF.2 ⟨i,w,by rw[zB hil,h4],rfl⟩,(go_chain h5 a (i+1) y (by omega)).2 ⟨k,by omega,h2,h3,h5'⟩⟩
theorem vert_chain{l:List Wd}(h0:l≠[])(x:Wd):x∈vertsL (chF l)↔∃i,i<=l.length/\x=vxC i:=by
 rw[mem_verts];constructor
 . rintro⟨f,hf,h⟩;obtain⟨i,w,hi,rfl⟩:=mem_chF.1 hf;have:=(zE.1 hi).1;rcases h with rfl|rfl
   . exact⟨i,by omega,rfl⟩
   . exact⟨i+1,by omega,rfl⟩
 . rintro⟨i,hi,rfl⟩;have hp:0<l.length:=List.length_pos_iff.2 h0;rcases Nat.lt_or_ge i l.length with h|h
   . exact⟨_,mem_chF.2 ⟨i,_,zB h,rfl⟩,.inl rfl⟩
   . obtain⟨m,rfl⟩:∃m,i=m+1:=⟨i-1,by omega⟩
     exact⟨_,mem_chF.2 ⟨m,_,zB (by omega),rfl⟩,.inr rfl⟩
theorem lead_chain{l:List Wd}(h5:l.length<=5)(h0:l≠[])(p:Pt)(x y:Wd):leadP (chF l) p x y↔∃i k,i<=k/\k<=l.length/\x=vxC i/\y=vxC k/\willL p (cutC l i k):=by
 unfold leadP leadF;constructor
 . rintro⟨hx,a,hw,hg⟩;obtain⟨i,hi,rfl⟩:=(vert_chain h0 x).1 hx;obtain⟨k,h1,h2,h3,rfl⟩:=(go_chain h5 a i y hi).1 hg;exact⟨i,k,h1,h2,rfl,h3,hw⟩
 . rintro⟨i,k,h1,h2,rfl,rfl,hw⟩;exact⟨(vert_chain h0 _).2 ⟨i,by omega,rfl⟩,_,hw,(go_chain h5 _ i _ (by omega)).2 ⟨k,h1,h2,rfl,rfl⟩⟩
theorem less_vxC:∀i<6,∀j<6,i<j->less (vxC i) (vxC j)=true:=by decide
theorem verts_chain{l:List Wd}(h5:l.length<=5)(h0:l≠[]):vertsL (chF l)=(List.range (l.length+1)).map vxC:=by
 refine riseL_ext ordW (verts_rise _) ?_ (fun x=>?_)
 . unfold RiseL;rw[List.pairwise_map];exact(List.pairwise_lt_range (n:=l.length+1)).imp_of_mem (fun ha hb h=>less_vxC _ (by have:=yA.1 ha;omega) _ (by have:=yA.1 hb;omega) h)
 . rw[vert_chain h0,zR];constructor
   . rintro⟨i,hi,rfl⟩;exact⟨i,yA.2 (by omega),rfl⟩
   . rintro⟨i,hi,rfl⟩;exact⟨i,by have:=yA.1 hi;omega,rfl⟩
theorem pairs_chain{l:List Wd}(h5:l.length<=5)(h0:l≠[]){p:Pt}(hp:mayP p=true){W:Nat->Nat->Bool}(hW:∀i k,W i k=true↔i<=k/\willL p (cutC l i k)):
 pairsL (chF l) p=pairsTo ((List.range (l.length+1)).map vxC) W (l.length+1):=by
 have hV:RiseL less ((List.range (l.length+1)).map vxC):=by rw[<- verts_chain h5 h0];exact verts_rise _
 have hs:SpecM ((List.range (l.length+1)).map vxC) W (leadP (chF l) p):=fun i j x y hx hy=>by
  rw[zI]at hx hy;obtain⟨i',hi,rfl⟩:=Option.map_eq_some_iff.1 hx;obtain⟨j',hj,rfl⟩:=Option.map_eq_some_iff.1 hy;have hi1:=(zE.1 hi)
  have hj1:=(zE.1 hj)
  obtain⟨hi2,hi3⟩:=hi1;obtain⟨hj2,hj3⟩:=hj1;rw[List.getElem_range]at hi3 hj3;subst hi3 hj3;rw[List.length_range]at hi2 hj2;rw[hW,lead_chain h5 h0];constructor
  . rintro⟨h1,h2⟩;exact⟨i,j,h1,by omega,rfl,rfl,h2⟩
  . rintro⟨a,b,h1,h2,e1,e2,h3⟩;have ha:=vxC_inj (by omega) (by omega) e1;have hb:=vxC_inj (by omega) (by omega) e2;subst ha hb;exact⟨h1,h3⟩
 obtain⟨a1,a2⟩:=pairs_spec hV hs;rw[zH,List.length_range]at a1 a2;obtain⟨b1,b2⟩:=pairsL_spec (chF l) hp;refine riseL_ext ordR b1 a1 (fun r=>?_);rw[b2,a2];constructor
 . rintro⟨x,y,rfl,h⟩;exact⟨x,y,rfl,by rw[<- verts_chain h5 h0];exact h.1,by rw[<- verts_chain h5 h0];exact lead_vert h,h⟩
 . rintro⟨x,y,rfl,_,_,h⟩;exact⟨x,y,rfl,h⟩
theorem pairs_nochain{p:Pt}(hp:mayP p=true):pairsL (chF []) p=[]:=by
 obtain⟨_,b2⟩:=pairsL_spec (chF []) hp;cases h:pairsL (chF []) p with
 |nil=>rfl
 |cons r s=>
  have:=(b2 r).1 (by rw[h];simp);obtain⟨x,y,_,hx,_⟩:=this;obtain⟨f,hf,_⟩:=mem_verts.1 hx;simp[chF]at hf
end Go.Proofs.YtdalcipmpelifaaGreatDoor
