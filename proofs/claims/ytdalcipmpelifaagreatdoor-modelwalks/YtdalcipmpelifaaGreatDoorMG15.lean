/- MPutR, MPairs, MSame, MOpen. -/
import Derived.Test.YtdalcipmpelifaaGreatDoorMG10
set_option maxRecDepth 100000
namespace Go.Proofs.YtdalcipmpelifaaGreatDoor
open Go.RowKit Go.Shelf
abbrev csRw(p:Value×Rw):List Value:=[p.1]
theorem csRw_len(x:Value×Rw):(csRw x).length=1:=rfl
structure RowsS (w:World) (v:Value) (rs:List (Value×Rw)):Prop where
 src:Src csRw 1 w v rs
 cap:CapS v rs.length
 rows:∀p∈rs,TxtS (fun _=>True) w p.1 p.2/\p.2.length<=1000000
def RowsM(w:World)(v:Value)(L:List Rw):Prop:=∃rs:List (Value×Rw),RowsS w v rs/\rs.map (·.2)=L
theorem RowsS.below{w w':World}{v:Value}{rs:List (Value×Rw)}(h:RowsS w v rs)(hb:Below w.heap.size w w'):RowsS w' v rs:=⟨h.src.below hb,h.cap,fun p hp=>⟨(h.rows p hp).1.below hb,(h.rows p hp).2⟩⟩
theorem RowsM.below{w w':World}{v:Value}{L:List Rw}(h:RowsM w v L)(hb:Below w.heap.size w w'):RowsM w' v L:=by
 obtain⟨rs,h1,h2⟩:=h;exact⟨rs,h1.below hb,h2⟩
theorem rowsM_nil(w:World):RowsM w (.slice none 0 0) []:=⟨[],⟨⟨SlS.nil _ _,fun m c e=>by injection e with _ e2 e3;exact⟨e2.symm,e3.symm⟩⟩,⟨none,0,rfl,zD _⟩,by simp⟩,rfl⟩
theorem infoRw:(Tryz.prog.info? 22).map (fun i=>(i.zero,i.size,i.bytes))=some (some (.slice none 0 0),1,24):=by kernel_rfl
abbrev csGr(p:Nat×Rw):List Value:=[.slice (some ⟨p.1,0,none⟩) p.2.length p.2.length]
def RBlk(w:World)(p:Nat×Rw):Prop:=w.heap[p.1]?=some (.cells (p.2.map fun s=>Value.string ⟨s.toArray⟩).toArray 9 (0,0))
structure RowO (B:Nat) (w:World) (u:Value) (gs:List (Nat×Rw)):Prop where
 row:w.ownsRow B 22 1 u gs.length (gs.flatMap csGr)
 blk:∀p∈gs,RBlk w p
theorem RBlk.txt{w:World}{p:Nat×Rw}(h:RBlk w p):TxtS (fun _=>True) w (.slice (some ⟨p.1,0,none⟩) p.2.length p.2.length) p.2:=by
 have h:w.heap[p.1]?=_:=h;refine⟨_,_,rfl,.inr ⟨p.1,0,rfl,trivial,lt_of_block h,fun j x hx c u hu=>?_⟩⟩;have hc:c=0:=by
  have:=(zE.1 hu).1;simp at this;exact this
 subst hc;simp at hu;subst hu;have hj:(p.2.map fun s=>Value.string ⟨s.toArray⟩).toArray[j]?=some (.string ⟨x.toArray⟩):=by simp[hx]
 simp only[World.cell?,h,Nat.zero_add,yK,yF];exact hj
theorem RowO.rows{B:Nat}{w:World}{u:Value}{gs:List (Nat×Rw)}(h:RowO B w u gs)(hl:∀p∈gs,p.2.length<=1000000):RowsM w u (gs.map (·.2)):=by
 refine⟨gs.map (fun p=>(.slice (some ⟨p.1,0,none⟩) p.2.length p.2.length,p.2)),⟨?_,by rw[zH];exact own_capM h.row,fun p hp=>?_⟩,by rw[List.map_map];rfl⟩
 . refine Src.own csRw_len (B:=B) (e:=22) (n:=gs.length) ?_ (by simp);have e:(gs.map (fun p=>((Value.slice (some ⟨p.1,0,none⟩) p.2.length p.2.length,p.2):Value×Rw))).flatMap csRw=gs.flatMap csGr:=by rw[List.flatMap_map]
   rw[e];exact h.row
 . obtain⟨q,hq,rfl⟩:=zR.1 hp;exact⟨(h.blk q hq).txt,hl q hq⟩
theorem RowO.below{B:Nat}{w w':World}{u:Value}{gs:List (Nat×Rw)}(h:RowO B w u gs)(hb:Below w.heap.size w w'):RowO B w' u gs:=⟨owns_below h.row hb,fun p hp=>(hb.block p.1 (lt_of_block (h.blk p hp))).trans (h.blk p hp)⟩
def pairRow(V:List Wd)(m:Mt)(i k:Nat):List Rw:=((List.range k).filter fun j=>m i j).map fun j=>[V.getD i [],V.getD j []]
def pairsTo(V:List Wd)(m:Mt)(i:Nat):List Rw:=(List.range i).flatMap fun i'=>pairRow V m i' V.length
theorem pairRow_succ(V:List Wd)(m:Mt)(i k:Nat):pairRow V m i (k+1)=pairRow V m i k++(if m i k=true then [[V.getD i [],V.getD k []]]else []):=by
 unfold pairRow;rw[List.range_succ,List.filter_append,yP];congr 1;by_cases h:m i k=true
 . simp[h]
 . simp[h]
theorem pairsTo_succ(V:List Wd)(m:Mt)(i:Nat):pairsTo V m (i+1)=pairsTo V m i++pairRow V m i V.length:=by
 unfold pairsTo;rw[List.range_succ,zY];simp
theorem pairRow_len(V:List Wd)(m:Mt)(i k:Nat):(pairRow V m i k).length<=k:=by
 unfold pairRow;rw[zH];exact zQ (yD _ _) (by simp)
theorem pairsTo_len(V:List Wd)(m:Mt):∀i,(pairsTo V m i).length<=i*V.length
 |0=>by simp[pairsTo]
 |i+1=>by
  rw[pairsTo_succ,zG,Nat.succ_mul];have:=pairsTo_len V m i;have:=pairRow_len V m i V.length;omega
theorem pairs_spec{V:List Wd}(hV:RiseL less V){m:Mt}{R:Wd->Wd->Prop}(h:SpecM V m R):RiseL lessR (pairsTo V m V.length)/\∀r,r∈pairsTo V m V.length↔∃x y,r=[x,y]/\x∈V/\y∈V/\R x y:=by
 have hget:∀i,i<V.length->V[i]?=some (V.getD i []):=fun i hi=>by
  rw[List.getD,zB hi];rfl
 constructor
 . unfold RiseL pairsTo;rw[List.pairwise_flatMap];constructor
   . intro i hi;have hi:=yA.1 hi;unfold pairRow;rw[List.pairwise_map];refine List.Pairwise.filter _ ?_;refine List.Pairwise.imp_of_mem ?_ (List.pairwise_lt_range (n:=V.length));intro a b ha hb hab;have ha:=yA.1 ha;have hb:=yA.1 hb;rw[lessR,if_pos rfl,lessR];have hl:=hV.lt_at ordW (hget a ha) (hget b hb) hab;rw[if_neg (ordW.ne hl)];exact hl
   . refine List.Pairwise.imp_of_mem ?_ (List.pairwise_lt_range (n:=V.length));intro a b ha hb hab r hr s hs;have ha:=yA.1 ha;have hb:=yA.1 hb;obtain⟨j,_,rfl⟩:=zR.1 hr;obtain⟨k,_,rfl⟩:=zR.1 hs;have hl:=hV.lt_at ordW (hget a ha) (hget b hb) hab;rw[lessR,if_neg (ordW.ne hl)];exact hl
 . intro r;constructor
   . intro hr;obtain⟨i,hi,h2⟩:=List.mem_flatMap.1 hr;have hi:=yA.1 hi;obtain⟨k,hk,rfl⟩:=zR.1 h2;rw[zV]at hk;have hk1:=yA.1 hk.1;exact⟨_,_,rfl,zC (hget i hi),zC (hget k hk1),(h i k _ _ (hget i hi) (hget k hk1)).1 hk.2⟩
   . rintro⟨x,y,rfl,hx,hy,hR⟩;obtain⟨i,hi⟩:=List.getElem?_of_mem hx;obtain⟨k,hk⟩:=List.getElem?_of_mem hy;have hi1:=(zE.1 hi).1;have hk1:=(zE.1 hk).1;refine List.mem_flatMap.2 ⟨i,yA.2 hi1,zR.2 ⟨k,?_,?_⟩⟩
     . rw[zV];exact⟨yA.2 hk1,(h i k x y hi hk).2 hR⟩
     . have e1:=hget i hi1;have e2:=hget k hk1;rw[hi]at e1;rw[hk]at e2;injection e1 with e1;injection e2 with e2;rw[<- e1,<- e2]
def pairsL(fs:List Fa)(p:Pt):List Rw:=pairsTo (vertsL fs) (leadsM fs (vertsL fs) p) (vertsL fs).length
theorem pairsL_spec(fs:List Fa){p:Pt}(h:mayP p=true):RiseL lessR (pairsL fs p)/\∀r,r∈pairsL fs p↔∃x y,r=[x,y]/\leadP fs p x y:=by
 simp only[mayP,Bool.and_eq_true,decide_eq_true_eq]at h;obtain⟨h1,h2⟩:=pairs_spec (verts_rise fs) (spec_leads fs p 12 h.1);refine⟨h1,fun r=>?_⟩;rw[pairsL,h2];constructor
 . rintro⟨x,y,e,_,_,h⟩;exact⟨x,y,e,h⟩
 . rintro⟨x,y,e,h⟩;exact⟨x,y,e,h.1,lead_vert h,h⟩
set_option maxHeartbeats 4000000 in
theorem rSameW_any{S T:Nat->Prop}{w:World}{v1 v2:Value}{L1 L2:List Wd}(h1:TxtS S w v1 L1)(h2:TxtS T w v2 L2)(hl1:L1.length<=100000000):
 Calls Tryz.prog 11 #[v1,v2] w fun e w'=>e=.returned (.bool (decide (L1=L2)))/\Below w.heap.size w w':=by
 obtain⟨a1,c1,rfl⟩:=h1.slice;obtain⟨a2,c2,rfl⟩:=h2.slice;have H1:=zA h1;have H2:=zA h2;obtain⟨n1,hn1⟩:∃n,n=L1.length:=⟨_,rfl⟩
 obtain⟨n2,hn2⟩:∃n,n=L2.length:=⟨_,rfl⟩
 rw[<- hn1]at H1 hl1 ⊢;rw[<- hn2]at H2 ⊢;have HN1:=zA hn1;have HN2:=zA hn2;obtain⟨r,hr⟩:∃r,r=decide (L1=L2):=⟨_,rfl⟩
 rw[<- hr];have HR:=zA hr;clear h1 h2 hn1 hn2 hr;by_cases hnn:(n1:Int)=(n2:Int)
 . obtain rfl:n1=n2:=by omega
   clear hnn;go_enter Tryz.func11,Tryz.ntmps11;go_wp2_with fail;go_loopw [5] (fun c wr=>∃i:Nat,i<=n1/\c=.int .i64 i/\L1.take i=L2.take i/\Below w.heap.size w wr) (fun c _=>n1-(intOf c).toNat)
   case atStart=>exact⟨0,zS _,rfl,rfl,zF _ _⟩
   case round=>
    obtain⟨i,hi,rfl,htk,hbq⟩:=hrel;have HBQ:=zA hbq;have HTK:=zA htk;clear hbq htk;by_cases hlt:i<n1
    . have hltI:(i:Int)<(n1:Int):=by omega
      obtain⟨x,hx⟩:∃x,L1[i]?=some x:=⟨_,zB (by rw[<- HN1.out];exact hlt)⟩
      obtain⟨y,hy⟩:∃y,L2[i]?=some y:=⟨_,zB (by rw[<- HN2.out];exact hlt)⟩
      obtain⟨g1,o1,e1,_,_,hc1⟩:=(H1.out.below HBQ.out).get hx;obtain⟨g2,o2,e2,_,_,hc2⟩:=(H2.out.below HBQ.out).get hy;subst e1 e2;have q1:=hc1 0 _ rfl;have q2:=hc2 0 _ rfl;rw[yK,yF]at q1 q2;have HX:=zA (And.intro hx hy);clear hx hy hc1 hc2;by_cases exy:x=y
      . have HT2:Hid (L1.take (i+1)=L2.take (i+1)):=zA (by rw[zT,zT,HX.out.1,HX.out.2,HTK.out,exy]);subst exy;go_wp2_with fail;go_quiet (fail);have HB9:=zA (below_drewN HBQ.out nq);go_wp2;go_roundw
        case rel=>exact⟨i+1,by omega,by go_num,HT2.out,HB9.out⟩
        case measure=>simp[intOf];omega
      . obtain⟨e1,e2⟩:=not_bothW exy;have HT:Hid (r=false):=zA (by
         rw[HR.out];refine decide_eq_false (fun h=>exy ?_);have:=HX.out;rw[h]at this;rw[this.1]at this;injection this.2)
        clear exy;go_wp2_with fail;go_quiet (fail);have HB9:=zA (below_drewN HBQ.out nq);go_wp2;go_ret;exact⟨by rw[HT.out];rfl,HB9.out⟩
    . have hltI:¬(i:Int)<(n1:Int):=by omega
      have HT:Hid (r=true):=zA (by
       rw[HR.out];refine yC ?_;have h:=HTK.out;rw[zK (by rw[<- HN1.out];omega),zK (by rw[<- HN2.out];omega)]at h;exact h)
      go_wp2;go_ret;exact⟨by rw[HT.out];rfl,HBQ.out⟩
 . obtain⟨e1,e2⟩:=not_both hnn;have HT:Hid (r=false):=zA (by
    rw[HR.out];refine decide_eq_false (fun h=>hnn ?_);rw[HN1.out,HN2.out,h])
   clear hnn;go_enter Tryz.func11,Tryz.ntmps11;go_wp2;go_ret;exact⟨by rw[HT.out];rfl,zF _ _⟩
set_option maxHeartbeats 4000000 in
theorem rSameRows_any{w:World}{v1 v2:Value}{L1 L2:List Rw}(h1:RowsM w v1 L1)(h2:RowsM w v2 L2)(hl1:L1.length<=1000000000):
 Calls Tryz.prog 16 #[v1,v2] w fun e w'=>e=.returned (.bool (decide (L1=L2)))/\Below w.heap.size w w':=by
 obtain⟨r1,hr1,m1⟩:=h1;obtain⟨r2,hr2,m2⟩:=h2;obtain⟨a1,c1,e1,_⟩:=hr1.cap;obtain⟨a2,c2,e2,_⟩:=hr2.cap;subst e1 e2;have H1:=zA hr1;have H2:=zA hr2;obtain⟨n1,hn1⟩:∃n,n=r1.length:=⟨_,rfl⟩
 obtain⟨n2,hn2⟩:∃n,n=r2.length:=⟨_,rfl⟩
 have HL1:Hid (n1=L1.length):=zA (by rw[hn1,<- m1,zH]);have HL2:Hid (n2=L2.length):=zA (by rw[hn2,<- m2,zH]);have hnb:n1<=1000000000:=by rw[HL1.out];exact hl1
 rw[<- hn1]at H1 ⊢;rw[<- hn2]at H2 ⊢;have HN1:=zA hn1;have HN2:=zA hn2;have HM1:=zA m1;have HM2:=zA m2;obtain⟨r,hr⟩:∃r,r=decide (L1=L2):=⟨_,rfl⟩
 rw[<- hr];have HR:=zA hr;clear hr1 hr2 hn1 hn2 hr m1 m2 hl1;by_cases hnn:(n1:Int)=(n2:Int)
 . obtain rfl:n1=n2:=by omega
   clear hnn;go_enter Tryz.func16,Tryz.ntmps16;go_wp2_with fail;go_loopw [5] (fun c wr=>∃i:Nat,i<=n1/\c=.int .i64 i/\L1.take i=L2.take i/\Below w.heap.size w wr) (fun c _=>n1-(intOf c).toNat)
   case atStart=>exact⟨0,zS _,rfl,rfl,zF _ _⟩
   case round=>
    obtain⟨i,hi,rfl,htk,hbq⟩:=hrel;have HBQ:=zA hbq;have HTK:=zA htk;clear hbq htk;by_cases hlt:i<n1
    . have hltI:(i:Int)<(n1:Int):=by omega
      obtain⟨⟨xv,x⟩,hx⟩:∃x,r1[i]?=some x:=⟨_,zB (by rw[<- HN1.out];exact hlt)⟩
      obtain⟨⟨yv,y⟩,hy⟩:∃y,r2[i]?=some y:=⟨_,zB (by rw[<- HN2.out];exact hlt)⟩
      have hxL:L1[i]?=some x:=by rw[<- HM1.out,zI,hx];rfl
      have hyL:L2[i]?=some y:=by rw[<- HM2.out,zI,hy];rfl
      have k1:=H1.out.rows _ (zC hx);have k2:=H2.out.rows _ (zC hy);obtain⟨g1,o1,e1,_,l1,hc1⟩:=H1.out.src.sl.get hx;obtain⟨g2,o2,e2,_,l2,hc2⟩:=H2.out.src.sl.get hy;subst e1 e2;have q1:=hc1 0 _ rfl;have q2:=hc2 0 _ rfl;rw[yK,yF]at q1 q2;obtain⟨z,hz⟩:∃z,z=decide (x=y):=⟨_,rfl⟩
      have KC:Hid (∀u,Below w.heap.size w u->u.cell? ⟨g1,o1+i,none⟩=some xv/\u.cell? ⟨g2,o2+i,none⟩=some yv):=zA (fun u hu=>⟨(hu.cell (p:=⟨g1,o1+i,none⟩) l1).trans q1,(hu.cell (p:=⟨g2,o2+i,none⟩) l2).trans q2⟩);have C:Hid (∀u,Below w.heap.size w u->Calls Tryz.prog 11 #[xv,yv] u fun e w'=>e=.returned (.bool z)/\Below u.heap.size u w'):=zA (fun u hu=>by rw[hz];exact rSameW_any (k1.1.below hu) (k2.1.below hu) (by have:=k1.2;dsimp only at this ⊢;omega));have HXL:=zA (And.intro hxL hyL);have HZ:=zA hz;have HPA:Hid (Below w.heap.size w wr.drew):=zA HBQ.out.drew;clear hx hy hxL hyL k1 k2 hc1 hc2 q1 q2 hz;obtain⟨q1,q2⟩:=KC.out _ HBQ.out;cases z with
      |true=>
       have HT2:Hid (L1.take (i+1)=L2.take (i+1)):=zA (by rw[zT,zT,HXL.out.1,HXL.out.2,HTK.out,of_decide_eq_true HZ.out.symm]);go_wp2_with fail;go_region_held3 (fun u=>u.cell? ⟨g1,o1+i,none⟩=some xv/\u.cell? ⟨g2,o2+i,none⟩=some yv)
        (first|with_reducible exact KC.out _ HPA.out|with_reducible exact KC.out _ h4)
        (first|(go_at_call 11;with_reducible refine (C.out _ HPA.out).mono ?_;rintro e w4 ⟨rfl,hb4⟩;have h4:=HPA.out.trans (hb4.mono HPA.out.size)))
       all_goals (
        have HB9:=zA h4;clear h4 hb4;go_wp2;go_roundw
        case rel=>exact⟨i+1,by omega,by go_num,HT2.out,HB9.out⟩
        case measure=>simp[intOf];omega)
      |false=>
       have HT:Hid (r=false):=zA (by
        rw[HR.out];refine decide_eq_false (fun h=>of_decide_eq_false HZ.out.symm ?_);have:=HXL.out;rw[h]at this;rw[this.1]at this;injection this.2)
       go_wp2_with fail;go_region_held3 (fun u=>u.cell? ⟨g1,o1+i,none⟩=some xv/\u.cell? ⟨g2,o2+i,none⟩=some yv)
        (first|with_reducible exact KC.out _ HPA.out|with_reducible exact KC.out _ h4)
        (first|(go_at_call 11;with_reducible refine (C.out _ HPA.out).mono ?_;rintro e w4 ⟨rfl,hb4⟩;have h4:=HPA.out.trans (hb4.mono HPA.out.size)))
       all_goals (
        have HB9:=zA h4;clear h4 hb4;go_wp2;go_ret;exact⟨by rw[HT.out];rfl,HB9.out⟩)
    . have hltI:¬(i:Int)<(n1:Int):=by omega
      have HT:Hid (r=true):=zA (by
       rw[HR.out];refine yC ?_;have h:=HTK.out;rw[zK (by rw[<- HL1.out];omega),zK (by rw[<- HL2.out];omega)]at h;exact h)
      go_wp2;go_ret;exact⟨by rw[HT.out];rfl,HBQ.out⟩
 . obtain⟨e1,e2⟩:=not_both hnn;have HT:Hid (r=false):=zA (by
    rw[HR.out];refine decide_eq_false (fun h=>hnn ?_);rw[HL1.out,HL2.out,h])
   clear hnn;go_enter Tryz.func16,Tryz.ntmps16;go_wp2;go_ret;exact⟨by rw[HT.out];rfl,zF _ _⟩
end Go.Proofs.YtdalcipmpelifaaGreatDoor
namespace Go.Proofs.YtdalcipmpelifaaGreatDoor
open Go.RowKit
theorem cellsMT:Tryz.prog.cellsOf 32=3:=by kernel_rfl
theorem open_fact{H:Type}{enc:TypeId×Value->H}{W:World}{fuel:Nat}{cs:List Value}{x:DataW H×List MemPlace}
 (hf:DataW.trod enc Tryz.prog W 0 (fun _=>true) true fuel 32 cs=some x) (hw:∀m∈x.1.weights Tryz.prog 32,m<=reachBytes):∃t:Fa,cs=csF t/\t.1.length<=140737488351232/\t.2.1.length<=140737488351232/\t.2.2.length<=140737488351232:=by
 obtain⟨y0,y1,y2,n,hx,hlen,h0,h1,h2⟩:=Go.Deep.trod_struct3 Tryz.underlying32 hf;rw[cellsMT]at hlen;obtain⟨c0,c1,c2,rfl⟩:∃c0 c1 c2,cs=[c0,c1,c2]:=by
  match cs,hlen with
  |[c0,c1,c2],_=>exact⟨c0,c1,c2,rfl⟩
 simp only[cellsQS,List.drop_zero,List.drop_succ_cons,List.take_succ_cons,List.take_zero]at h0 h1 h2;obtain⟨s0,k0,e0,l0⟩:=DataW.trod_string Tryz.underlying9 h0;obtain⟨s1,k1,e1,l1⟩:=DataW.trod_string Tryz.underlying9 h1;obtain⟨s2,k2,e2,l2⟩:=DataW.trod_string Tryz.underlying9 h2;simp only[List.cons.injEq,and_true]at k0 k1 k2;subst k0 k1 k2;rw[hx]at hw;simp only[DataW.weights,Tryz.underlying32,List.map_cons,List.map_nil,DataW.weightsEach,List.append_nil]at hw;refine⟨(s0.data.toList,s1.data.toList,s2.data.toList),rfl,?_,?_,?_⟩
 . exact hw _ (by rw[e0];simp[DataW.weights])
 . exact hw _ (by rw[e1];simp[DataW.weights])
 . exact hw _ (by rw[e2];simp[DataW.weights])
theorem open_facts{H:Type}{enc:TypeId×Value->H}{W:World}{fuel:Nat}{v:Value}{x:DataW H×List MemPlace}
 (hf:DataW.trod enc Tryz.prog W 0 (fun _=>true) true fuel 30 [v]=some x) (hw:∀m∈x.1.weights Tryz.prog 30,m<=reachBytes):
 ∃L:List Fa,FasS (fun _=>True) W v L/\(∀t∈L,t.1.length<=140737488351232/\t.2.1.length<=140737488351232/\t.2.2.length<=140737488351232)/\L.length<=maxLen/\CapS v L.length:=
 open_slN (en:=csF) ([],[],[]) csF_len (by decide) Tryz.underlying30 cellsMT (fun t=>t.1.length<=140737488351232/\t.2.1.length<=140737488351232/\t.2.2.length<=140737488351232) (fun _ cs y _ h hq=>open_fact h hq) hf hw
def FinF(v:Value)(L:List Fa):Prop:=L.length<=9223372036854775807/\(∀t∈L,t.1.length<=140737488351232/\t.2.1.length<=140737488351232/\t.2.2.length<=140737488351232)/\CapS v L.length
end Go.Proofs.YtdalcipmpelifaaGreatDoor
