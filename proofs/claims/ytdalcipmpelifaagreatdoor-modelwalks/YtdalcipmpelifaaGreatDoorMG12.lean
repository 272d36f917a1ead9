/- GEnds, GNewS. -/
import Derived.Test.YtdalcipmpelifaaGreatDoorMG11
import Derived.Deep.OwnRows
import Derived.Deep.DeepCutAuto
set_option maxRecDepth 100000
namespace Go.Proofs.YtdalcipmpelifaaGreatDoor
open Go.RowKit Go.Shelf
def VRow(w:World)(g:Nat)(t:TypeId)(l:List Value):Prop:=w.heap[g]?=some (.cells l.toArray t (0,0))
theorem VRow.cell{w:World}{g i:Nat}{t:TypeId}{l:List Value}{v:Value}(h:VRow w g t l)(hi:l[i]?=some v):w.cell? ⟨g,i,none⟩=some v/\w.frozen? ⟨g,i,none⟩=false:=by
 have h:w.heap[g]?=_:=h;constructor
 . simp[World.cell?,h,hi]
 . simp[World.frozen?,h]
theorem VRow.set{w:World}{g:Nat}{t:TypeId}{l:List Value}(h:VRow w g t l)(i:Nat)(v:Value):VRow (w.setCell ⟨g,i,none⟩ v) g t (l.set i v):=by
 unfold VRow at h ⊢;simp[World.setCell,Array.getElem?_modify,h]
theorem VRow.sl{α:Type}{enc:α->List Value}(hk:∀x,(enc x).length=1){w:World}{g n:Nat}{t:TypeId}{L:List α}(h:VRow w g t (L.flatMap enc))(hn:n=L.length):SlS enc 1 (fun k=>k=g) w (.slice (some ⟨g,0,none⟩) n n) L:=by
 refine⟨_,n,by rw[hn],.inr ⟨g,0,rfl,rfl,lt_of_block h,fun j x hx c u hu=>?_⟩⟩;have hc:c=0:=by have:=(zE.1 hu).1;rw[hk]at this;omega
 subst hc;have h1:=flat_at hk L j 0 x hx (by omega);rw[hu]at h1;have:=(h.cell h1).1;rw[show 0+j*1+0=j*1+0 by omega];exact this
theorem VRow.below{w w':World}{g:Nat}{t:TypeId}{l:List Value}(h:VRow w g t l)(hb:Below w.heap.size w w'):VRow w' g t l:=(hb.block g (lt_of_block h)).trans h
theorem made_list(z:Value)(n:Nat):madeCells #[z] n=(List.replicate n z).toArray:=by
 apply Array.ext_getElem?;intro j;by_cases hj:j<n
 . simp[madeCells,hj,Nat.mod_one]
 . rw[Array.getElem?_eq_none (by simp[madeCells];omega),Array.getElem?_eq_none (by simp;omega)]
theorem made_row(w:World)(z:Value)(n:Nat)(t:TypeId):VRow (w.alloc (.cells (madeCells #[z] n) t)) w.heap.size t (List.replicate n z):=by
 unfold VRow;rw[made_list];exact heap_alloc_new _ _
def NatC(S:Nat->Prop)(w:World)(v:Value)(l:List Nat):Prop:=NatS S w v l/\∃ao cap,v=.slice ao l.length cap/\l.length<=cap
theorem own_natC{w:World}{B:Nat}{v:Value}{l:List Nat}(h:w.ownsRow B 3 1 v l.length (l.flatMap csI)):NatC (fun g=>v.ownBlock=some g) w v l:=by
 refine⟨own_nat h,?_⟩;obtain⟨ao,cap,rfl⟩:=own_slice h;exact⟨ao,cap,rfl,own_cap h⟩
theorem NatC.sub{S T:Nat->Prop}{w:World}{v:Value}{l:List Nat}(h:NatC S w v l)(hs:∀b,S b->b<w.heap.size->T b):NatC T w v l:=⟨h.1.sub hs,h.2⟩
theorem NatC.fr{S:Nat->Prop}{w w':World}{v:Value}{l:List Nat}(h:NatC S w v l)(hf:Fr S w w'):NatC S w' v l:=⟨h.1.fr hf,h.2⟩
theorem NatC.keep{S T:Nat->Prop}{w w':World}{v:Value}{l:List Nat}(h:NatC S w v l)(hz:w.heap.size<=w'.heap.size)(hk:∀b,S b->b<w.heap.size->T b/\w'.heap[b]?=w.heap[b]?):NatC T w' v l:=⟨h.1.keep hz hk,h.2⟩
theorem NatC.below{S:Nat->Prop}{w w':World}{v:Value}{l:List Nat}(h:NatC S w v l)(hb:Below w.heap.size w w'):NatC S w' v l:=⟨h.1.below hb,h.2⟩
set_option maxHeartbeats 4000000 in
theorem vertices_any{S:Nat->Prop}{w:World}{gb:Nat}{N:List Wd}{E:List Eg}{mb:Nat}{nv ev:Value}{D:DataW Unit}{c:Nat}(h:GrS S w gb N E mb nv ev D c)(hl:N.length<=100000):
 Calls Tryz.prog 23 #[.pointer (some ⟨gb,0,none⟩)] w fun e w'=>e=.returned (.slice (some ⟨w.heap.size,0,none⟩) N.length N.length)/\VRow w' w.heap.size 3 ((List.range N.length).flatMap csI)/\Below w.heap.size w w':=by
 obtain⟨i0,hi0,hz0,hz1,hz2⟩:=info_partsG infoZG;obtain⟨⟨g0,g1,g2⟩,_⟩:=cells3G h.blk;obtain⟨ao,cap,hnv⟩:=h.names.slice;rw[hnv]at g0;obtain⟨n,hn⟩:∃n,n=N.length:=⟨_,rfl⟩
 rw[<- hn]at g0 hl ⊢;have hgb:=lt_of_block h.blk;have HM:=zA (made_row w (.int .i64 0) n 3);have HB0:Hid (Below w.heap.size w (w.alloc (.cells (madeCells #[.int .i64 0] n) 3))):=zA ((zF _ _).alloc (zD _) _);clear h hn hnv g1 g2;go_enter Tryz.func23,Tryz.ntmps23;go_wp2_with (at_make;refine wpList_make_row _ rfl _ _ 56 rfl 3 i0 (.int .i64 0) Tryz.underlying56 hi0 hz0 hz1 rfl _ _ n rfl rfl (by rw[hz2];omega) (by omega) ?_);obtain⟨W0,hW0⟩:∃W,W=w.alloc (.cells (madeCells #[.int .i64 0] n) 3):=⟨_,rfl⟩
 rw[<- hW0]at HM HB0 ⊢;clear hW0 g0;go_wp2_with fail;go_loopw [13] (fun c wr=>∃(i:Nat) (l:List Nat),i<=n/\c=.int .i64 i/\l.length=n/\l.take i=List.range i/\VRow wr w.heap.size 3 (l.flatMap csI)/\Below w.heap.size w wr) (fun c _=>n-(intOf c).toNat)
 case atStart=>exact⟨0,List.replicate n 0,zS _,rfl,by simp,by simp,by
  have:=HM.out;rw[show (List.replicate n 0).flatMap csI=List.replicate n (Value.int .i64 0) by rw[flat_mapI];simp];exact this,HB0.out⟩
 case round=>
  obtain⟨i,l,hi,rfl,hll,htk,hrow,hbw⟩:=hrel;obtain⟨wx,hwx⟩:∃wx,wx=wr:=⟨_,rfl⟩
  subst hwx;have HROW:=zA hrow;have HBW:=zA hbw;have HTK:=zA htk;have HLL:=zA hll;clear hrow hbw htk hll;by_cases hlt:i<n
  . have hltI:(i:Int)<(n:Int):=by omega
    obtain⟨x,hx⟩:∃x,l[i]?=some x:=⟨_,zB (by rw[HLL.out];exact hlt)⟩
    obtain⟨q0,q1⟩:=HROW.out.cell (i:=i) (v:=.int .i64 (x:Int)) (by rw[flat_mapI,zI,zI,hx];rfl);have HR2:Hid (VRow (wx.setCell ⟨w.heap.size,i,none⟩ (.int .i64 (i:Int))) w.heap.size 3 ((l.set i i).flatMap csI)):=zA (by
     have:=HROW.out.set i (.int .i64 (i:Int));rw[flat_mapI]at this ⊢;rw[List.map_set,List.map_set];exact this)
    have HB2:=zA (HBW.out.setCell (p:=⟨w.heap.size,i,none⟩) (zD _) (.int .i64 (i:Int)));have HT2:Hid ((l.set i i).take (i+1)=List.range (i+1)):=zA (by
     rw[List.range_succ,<- HTK.out,zT,List.getElem?_set_self (by rw[HLL.out];exact hlt),List.take_set_of_le (zD _)];rfl)
    clear hx;go_wp2;go_roundw
    case rel=>exact⟨i+1,l.set i i,by omega,by go_num,by rw[List.length_set];exact HLL.out,HT2.out,HR2.out,HB2.out⟩
    case measure=>simp[intOf];omega
  . have hltI:¬(i:Int)<(n:Int):=by omega
    have HE:Hid (l=List.range n):=zA (by
     have:=HTK.out;have e:i=n:=by omega
     rw[e,zK (by rw[HLL.out];exact zD _)]at this;exact this)
    go_wp2;go_ret;exact⟨rfl,by rw[<- HE.out];exact HROW.out,HBW.out⟩
def OneE(S:Nat->Prop)(w:World)(l:List Nat)(e:Ending)(w':World):Prop:=
 ∃L:List (Value×List Nat),e=.returned (.slice (some ⟨w.heap.size,0,none⟩) l.length l.length)/\VRow w' w.heap.size 56 (L.flatMap csRow)/\L.map (·.2)=l.map (fun x=>[x])/\(∀r∈L,NatS S w' r.1 r.2)/\Below w.heap.size w w'
theorem infoIsG:(Tryz.prog.info? 56).map (fun i=>(i.zero,i.size,i.bytes))=some (some (.slice none 0 0),1,24):=by kernel_rfl
theorem flat_row{α:Type}(L:List (Value×α)):L.flatMap csRow=L.map (·.1):=by
 induction L with
 |nil=>rfl
 |cons a l ih=>rw[yS,ih];rfl
set_option maxHeartbeats 4000000 in
theorem oneByOne_any{S:Nat->Prop}{w:World}{v:Value}{l:List Nat}(h:NatC S w v l)(hl:l.length<=100000):
 Calls Tryz.prog 22 #[v] w (OneE S w l):=by
 obtain⟨i0,hi0,hz0,hz1,hz2⟩:=info_partsG infoIsG;obtain⟨h,ao,cap,rfl,hcap⟩:=h;have H:=zA h;obtain⟨n,hn⟩:∃n,n=l.length:=⟨_,rfl⟩
 have HP:Hid (OneE S w l=OneE S w l):=zA rfl;have HN:=zA hn;rw[<- hn]at hcap hl H;show Calls Tryz.prog _ #[.slice ao l.length cap] w _;rw[<- hn];have HM:=zA (made_row w (.slice none 0 0) n 56);have HB0:Hid (Below w.heap.size w (w.alloc (.cells (madeCells #[.slice none 0 0] n) 56))):=zA ((zF _ _).alloc (zD _) _);clear h hn HP;go_enter Tryz.func22,Tryz.ntmps22;go_wp2_with (at_make;refine wpList_make_row _ rfl _ _ 57 rfl 56 i0 (.slice none 0 0) Tryz.underlying57 hi0 hz0 hz1 rfl _ _ n rfl rfl (by rw[hz2];omega) (by omega) ?_);obtain⟨W0,hW0⟩:∃W,W=w.alloc (.cells (madeCells #[.slice none 0 0] n) 56):=⟨_,rfl⟩
 rw[<- hW0]at HM HB0 ⊢;clear hW0;go_wp2_with fail;go_loopw [10] (fun c wr=>∃(i:Nat) (L:List (Value×List Nat)),i<=n/\c=.int .i64 i/\L.length=i/\L.map (·.2)=(l.take i).map (fun x=>[x])/\(∀r∈L,NatS S wr r.1 r.2)/\VRow wr w.heap.size 56 (L.map (·.1)++List.replicate (n-i) (.slice none 0 0))/\Below w.heap.size w wr) (fun c _=>n-(intOf c).toNat)
 case atStart=>exact⟨0,[],zS _,rfl,rfl,by simp,by simp,by simpa using HM.out,HB0.out⟩
 case round=>
  obtain⟨i,L,hi,rfl,hll,hmap,hats,hrow,hbw⟩:=hrel;obtain⟨wx,hwx⟩:∃wx,wx=wr:=⟨_,rfl⟩
  subst hwx;have HROW:=zA hrow;have HBW:=zA hbw;have HMAP:=zA hmap;have HLL:=zA hll;have HATS:=zA hats;clear hrow hbw hmap hll hats;by_cases hlt:i<n
  . have hltI:(i:Int)<(n:Int):=by omega
    obtain⟨x,hx⟩:∃x,l[i]?=some x:=⟨_,zB (by rw[<- HN.out];exact hlt)⟩
    have hsl:=H.out.below HBW.out;obtain⟨g,off,hao,hsg,hgl,hcell⟩:=hsl.get hx;subst hao;obtain⟨q0,q1⟩:=HROW.out.cell (i:=i) (v:=.slice none 0 0) (by
     rw[yM (by rw[zH,HLL.out];exact zD _),zH,HLL.out,Nat.sub_self];rw[List.getElem?_replicate];rw[if_pos (by omega)])
    have hcI:(i:Int)+1<=(cap:Int):=by omega
    have HNS:Hid (NatS S (wx.setCell ⟨w.heap.size,i,none⟩ (.slice (some ⟨g,off+i,none⟩) 1 (cap-i))) (.slice (some ⟨g,off+i,none⟩) 1 (cap-i)) [x]):=zA (by
     have hne:g≠w.heap.size:=fun e=>by
      obtain⟨g',off',e1,_,e3,_⟩:=H.out.get hx;injection e1 with e1;injection e1 with e1;omega
     refine⟨_,_,rfl,.inr ⟨g,off+i,rfl,hsg,by simpa using hgl,fun j y hy c u hu=>?_⟩⟩;have hj:j=0:=by have:=(zE.1 hy).1;simp at this;exact this
     subst hj;simp at hy;subst hy;have h2:=hcell c u hu;rw[yK]at h2;rw[Nat.zero_mul,yF];have hb:(wx.setCell ⟨w.heap.size,i,none⟩ (.slice (some ⟨g,off+i,none⟩) 1 (cap-i))).heap[g]?=wx.heap[g]?:=zM _ _ _ _ hne;simpa only[World.cell?,hb]using h2)
    have HR2:Hid (VRow (wx.setCell ⟨w.heap.size,i,none⟩ (.slice (some ⟨g,off+i,none⟩) 1 (cap-i))) w.heap.size 56 ((L++[((.slice (some ⟨g,off+i,none⟩) 1 (cap-i):Value),[x])]).map (fun(r:Value×List Nat)=>r.1)++List.replicate (n-(i+1)) (.slice none 0 0))):=zA (by
     have:=HROW.out.set i (.slice (some ⟨g,off+i,none⟩) 1 (cap-i));rw[List.set_append_right _ _ (by rw[zH,HLL.out];exact zD _),zH,HLL.out,Nat.sub_self,show n-i=(n-(i+1))+1 by omega,List.replicate_succ,List.set_cons_zero]at this;simpa using this)
    have HB2:=zA (HBW.out.setCell (p:=⟨w.heap.size,i,none⟩) (zD _) (.slice (some ⟨g,off+i,none⟩) 1 (cap-i)));have HA2:Hid (∀r∈L++[((.slice (some ⟨g,off+i,none⟩) 1 (cap-i):Value),[x])],NatS S (wx.setCell ⟨w.heap.size,i,none⟩ (.slice (some ⟨g,off+i,none⟩) 1 (cap-i))) r.1 r.2):=zA (fun r hr=>by
     rcases zN.1 hr with hr|hr
     . have h1:=HATS.out r hr;obtain⟨ao2,cap2,e,h2⟩:=h1;refine⟨ao2,cap2,e,?_⟩;rcases h2 with h2|⟨g2,o2,e1,hs,hl2,hc2⟩
       . exact .inl h2
       . refine .inr ⟨g2,o2,e1,hs,by simpa using hl2,fun j y hy c u hu=>?_⟩;have h3:=hc2 j y hy c u hu;by_cases hg2:g2=w.heap.size
         . exfalso;have h4:=HROW.out;rw[<- hg2]at h4;unfold VRow at h4;have hc0:c=0:=by have:=(zE.1 hu).1;simp at this;exact this
           subst hc0;simp at hu;subst hu;simp only[World.cell?,h4]at h3;have h5:=zC (by simpa using h3);rcases zN.1 h5 with h6|h6
           . obtain⟨r2,hr2,e2⟩:=zR.1 h6;obtain⟨_,_,e3,_⟩:=HATS.out r2 hr2;rw[e3]at e2;cases e2
           . have:=List.eq_of_mem_replicate h6;cases this
         . have hb:(wx.setCell ⟨w.heap.size,i,none⟩ (.slice (some ⟨g,off+i,none⟩) 1 (cap-i))).heap[g2]?=wx.heap[g2]?:=zM _ _ _ _ hg2;simpa only[World.cell?,hb]using h3
     . rw[zJ.1 hr];exact HNS.out)
    have HM2:Hid ((L++[((.slice (some ⟨g,off+i,none⟩) 1 (cap-i):Value),[x])]).map (·.2)=(l.take (i+1)).map (fun x=>[x])):=zA (by
     rw[yP,HMAP.out,zT,hx];simp)
    clear hx hcell hsl;go_wp2;go_roundw
    case rel=>exact⟨i+1,_,by omega,by go_num,by rw[zG,HLL.out];rfl,HM2.out,HA2.out,HR2.out,HB2.out⟩
    case measure=>simp[intOf];omega
  . have hltI:¬(i:Int)<(n:Int):=by omega
    have hin:i=n:=by omega
    go_wp2;go_ret;refine⟨L,by rw[<- HN.out];rfl,?_,?_,HATS.out,HBW.out⟩
    . have:=HROW.out;rw[hin,Nat.sub_self]at this;rw[flat_row];simpa using this
    . have:=HMAP.out;rw[hin,HN.out,List.take_length]at this;exact this
def endsL(d:Sd)(s:Ss):List Nat:=sortN (s.seen.filter fun v=>decide (s.came.getD v 0 &&& d.last≠0))
theorem endsL_spec{d:Sd}{s:Ss}(h:Rest d s):(endsL d s).Pairwise (·<·)/\∀v,v∈endsL d s↔s.came.getD v 0 &&& d.last≠0:=by
 refine⟨sortN_rise (List.Pairwise.filter _ h.nd),fun v=>?_⟩;unfold endsL;rw[(sortN_perm _).mem_iff,zV,decide_eq_true_eq];refine⟨fun h1=>h1.2,fun h1=>⟨h.sn v (fun h2=>h1 (by rw[h2];simp)),h1⟩⟩
theorem filt_take{l:List Nat}{p:Nat->Bool}{i x:Nat}(h:l[i]?=some x):(l.take (i+1)).filter p=(l.take i).filter p++(if p x=true then [x]else []):=by
 rw[zT,h,yR,List.filter_append];congr 1;by_cases hp:p x=true
 . rw[if_pos hp];simp[hp]
 . rw[if_neg hp];simp[hp]
set_option maxHeartbeats 4000000 in
theorem ends_any{S:Nat->Prop}{w:World}{sb:Nat}{d:Sd}{s:Ss}{m:Sp}(h:SrS S w sb d s m)(hr:Rest d s)(hsl:s.seen.length<=1000000):
 Calls Tryz.prog 25 #[.pointer (some ⟨sb,0,none⟩)] w fun e w'=>∃v,e=.returned v/\w'.ownsRow w.heap.size 3 1 v (endsL d s).length ((endsL d s).flatMap csI)/\Below w.heap.size w w':=by
 obtain⟨i0,hi0,hz0,hz1,hz2⟩:=info_partsG infoZG;have H:=zA h;have HR:=zA hr;obtain⟨P,hP⟩:∃P:Nat->Bool,P=fun v=>decide (s.came.getD v 0 &&& d.last≠0):=⟨_,rfl⟩
 have HC:Hid (∀wr v,Below w.heap.size w wr->v<d.n->Calls Tryz.prog 44 #[.pointer (some ⟨sb,0,none⟩),.int .i64 (v:Int)] wr fun e w'=>e=.returned (.bool (P v))/\w'=wr.drew):=zA (fun wr v hb hv=>by rw[hP];exact endsAt_any (H.out.below hb) HR.out.cl HR.out.cb hv);obtain⟨R,hR⟩:∃R,R=endsL d s:=⟨_,rfl⟩
 rw[<- hR];have HRR:Hid (R=sortN (s.seen.filter P)):=zA (by rw[hR,hP];rfl);obtain⟨sa,sc,hsv⟩:=own_slice h.seen;obtain⟨n,hn⟩:∃n,n=s.seen.length:=⟨_,rfl⟩
 rw[<- hn]at hsv hsl;have HN:=zA hn;have g29:=h.cells.2.2.2.2.1;rw[hsv]at g29;have HSV:Hid (∀(i x:Nat),s.seen[i]?=some x->∃g off,sa=some ⟨g,off,none⟩/\g<w.heap.size/\w.cell? ⟨g,off+i,none⟩=some (.int .i64 (x:Int))):=zA (fun i x hx=>by
  have h1:=own_nat H.out.seen;rw[hsv]at h1;obtain⟨g,off,e1,_,e3,e4⟩:=h1.get hx;have e5:=getI e4;rw[yK]at e5;exact⟨g,off,e1,e3,e5⟩)
 clear h hr hP hR hn hsv;go_enter Tryz.func25,Tryz.ntmps25;go_wp2_with fail;go_loopw [3,11] (fun vl c wr=>∃(i:Nat) (u:Value),u=vl/\i<=n/\c=.int .i64 i/\wr.ownsRow w.heap.size 3 1 u ((s.seen.take i).filter P).length (((s.seen.take i).filter P).flatMap csI)/\Below w.heap.size w wr) (fun _ c _=>n-(intOf c).toNat)
 case atStart=>exact⟨0,.slice none 0 0,rfl,zS _,rfl,World.ownsRow_nil _ _ _ _,zF _ _⟩
 case round=>
  obtain⟨i,u,rfl,hi,rfl,hrow,hbq⟩:=hrel;obtain⟨wx,hwx⟩:∃wx,wx=wr:=⟨_,rfl⟩
  subst hwx;obtain⟨X,hX⟩:∃X,X=(s.seen.take i).filter P:=⟨_,rfl⟩
  rw[<- hX]at hrow;have hXl:X.length<=1000000:=by
   rw[hX];have h1:=yD P (s.seen.take i);rw[yL,<- HN.out]at h1;omega
  obtain⟨ua,uc,hu⟩:=own_slice hrow;obtain⟨nu,hnu⟩:∃n,n=X.length:=⟨_,rfl⟩
  rw[<- hnu]at hu hXl;subst hu;have HROW:Hid (wx.ownsRow w.heap.size 3 1 (.slice ua nu uc) nu (X.flatMap csI)):=zA (by rw[hnu];rw[hnu]at hrow;exact hrow);have HX:=zA hX;have HNU:=zA hnu;have HBQ:=zA hbq;have hsx:w.heap.size<=wx.heap.size:=hbq.size;clear hrow hbq hX hnu;by_cases hlt:i<n
  . have hltI:(i:Int)<(n:Int):=by omega
    obtain⟨x,hx⟩:∃x,s.seen[i]?=some x:=⟨_,zB (by rw[<- HN.out];exact hlt)⟩
    obtain⟨g,off,hsa,hgl,q0⟩:=HSV.out i x hx;subst hsa;have q1:wx.cell? ⟨g,off+i,none⟩=some (.int .i64 (x:Int)):=(HBQ.out.cell (p:=⟨g,off+i,none⟩) hgl).trans q0;have C:=zA (HC.out wx x HBQ.out (HR.out.slt x (zC hx)));have HT:=zA (filt_take (p:=P) hx);rw[<- HX.out]at HT;clear hx q0;cases hp:P x with
    |true=>
     rw[hp]at C HT;rw[if_pos rfl]at HT;clear hp;go_wp2_with fail;refine C.out.mono ?_;rintro e w1 ⟨rfl,rfl⟩;obtain⟨wy,hwy⟩:∃wy,wy=wx.drew:=⟨_,rfl⟩
     have hby:Below wx.heap.size wx wy:=by rw[hwy];exact(zF _ _).drew
     have HRY:=zA (owns_below HROW.out hby);have HBY:=zA (HBQ.out.trans (hby.mono HBQ.out.size));have hsy:w.heap.size<=wy.heap.size:=zQ hsx hby.size;rw[<- hwy];clear hwy hby q1;go_wp2_with (at_builtin;refine wpList_append_lies _ rfl _ _ _ rfl w.heap.size 3 i0 _ 1 8 Tryz.underlying56 hi0 hz0 hz1 hz2 rfl (by decide) (.slice ua nu uc) _ _ (by rfl) (HRY.out.alloc _) ⟨wy.heap.size,0,none⟩ 1 1 (csI x) (by rfl) (by rfl) ?d1 ?d2 (by decide) ?d3 ?d4 ?d5 (wy.heap.size+1) (by simp) ?_)
     case d1=>exact World.news_of_block (cs:=#[.int .i64 (x:Int)]) (t:=3) (fr:=(0,0)) (heap_alloc_new wy _)
     case d2=>simp[Value.oneCell']
     case d3=>unfold maxLen;omega
     case d4=>omega
     case d5=>simp;omega
     intro gg cap2 w9 hown9 hgrow9 hat9 hlt9;have ba:Below wy.heap.size wy (wy.alloc (.cells #[.int .i64 (x:Int)] 3)):=(zF _ _).alloc (zD _) _;have HB9:Hid (Below w.heap.size w w9):=zA ((HBY.out.trans (ba.mono HBY.out.size)).grown hgrow9 (by simp;omega) (fun k e=>(HRY.out.lt k e).1));have HR9:Hid (w9.ownsRow w.heap.size 3 1 (.slice (some ⟨gg,0,none⟩) (nu+1) cap2) ((s.seen.take (i+1)).filter P).length (((s.seen.take (i+1)).filter P).flatMap csI)):=zA (by
      rw[HT.out,zG,<- HNU.out,zY];exact hown9)
     clear hown9 hgrow9 hat9 hlt9 ba;go_wp2;go_roundw
     case rel=>exact⟨i+1,_,rfl,by omega,by go_num,HR9.out,HB9.out⟩
     case measure=>simp[intOf];omega
    |false=>
     rw[hp]at C HT;rw[if_neg (by decide),List.append_nil]at HT;clear hp;go_wp2_with fail;refine C.out.mono ?_;rintro e w1 ⟨rfl,rfl⟩;have HR9:Hid (wx.drew.ownsRow w.heap.size 3 1 (.slice ua nu uc) ((s.seen.take (i+1)).filter P).length (((s.seen.take (i+1)).filter P).flatMap csI)):=zA (by
      rw[HT.out,<- HNU.out];exact HROW.out.drew)
     have HB9:=zA HBQ.out.drew;go_wp2;go_roundw
     case rel=>exact⟨i+1,_,rfl,by omega,by go_num,HR9.out,HB9.out⟩
     case measure=>simp[intOf];omega
  . have hltI:¬(i:Int)<(n:Int):=by omega
    have HF:Hid (X=s.seen.filter P):=zA (by rw[HX.out,zK (by rw[<- HN.out];omega)]);have C:=zA (sortI_any (by have:=HROW.out;rw[HNU.out]at this;exact this) (by have:=HNU.out;omega));rw[<- HNU.out]at C;go_wp2_with fail;refine C.out.mono ?_;rintro e w1 ⟨rfl,hown,hgr⟩;have HB9:Hid (Below w.heap.size w w1):=zA (HBQ.out.grown hgr hsx (fun k e=>(HROW.out.lt k e).1));have HR9:Hid (w1.ownsRow w.heap.size 3 1 (.slice ua nu uc) R.length (R.flatMap csI)):=zA (by
     rw[HRR.out,<- HF.out,(sortN_perm X).length_eq,<- HNU.out];exact hown)
    clear hown hgr;go_wp2;go_ret;exact⟨_,rfl,HR9.out,HB9.out⟩
set_option maxHeartbeats 1000000 in
theorem placesOf_any{S:Nat->Prop}{w:World}{v:Value}{L:List Int}(h:IntZ S w v L)(hl:L.length<=1000000)(hz:∀z∈L,0<=z/\z<24):
 Calls Tryz.prog 39 #[v] w fun e w'=>e=.returned (.int .u32 (setN L:Int))/\w'=w:=by
 obtain⟨ao,cap,rfl⟩:=h.slice;have H:=zA h;obtain⟨n,hn⟩:∃n,n=L.length:=⟨_,rfl⟩
 rw[<- hn]at hl H ⊢;have HN:=zA hn;have HZ:=zA hz;obtain⟨ans,hans⟩:∃a,a=setN L:=⟨_,rfl⟩
 rw[<- hans];have HA:=zA hans;clear h hn hans hz;go_enter Tryz.func39,Tryz.ntmps39;go_wp2_with fail;go_loopw [3,8] (fun s c wr=>∃(i x:Nat),i<=n/\c=.int .i64 i/\s=.int .u32 (x:Int)/\setN (L.take i)=x/\wr=w) (fun _ c _=>n-(intOf c).toNat)
 case atStart=>exact⟨0,0,zS _,rfl,rfl,rfl,rfl⟩
 case round=>
  obtain⟨i,x,hi,rfl,rfl,hx,rfl⟩:=hrel;have hxl:x<16777216:=by rw[<- hx];exact setN_lt (fun z hz=>(HZ.out z (List.mem_of_mem_take hz)).2)
  have HX:=zA hx;clear hx;by_cases hlt:i<n
  . have hltI:(i:Int)<(n:Int):=by omega
    obtain⟨z,hz⟩:∃z,L[i]?=some z:=⟨_,zB (by rw[<- HN.out];exact hlt)⟩
    obtain⟨g,off,rfl,_,_,hcell⟩:=H.out.get hz;have q0:=getZ hcell;rw[yK]at q0;obtain⟨h0,h24⟩:=HZ.out z (zC hz);obtain⟨p,rfl⟩:∃p:Nat,z=p:=⟨z.toNat,by omega⟩
    have hp:p<24:=by omega
    have C:=zA (onlyM_any p wr (by omega));have hpow:=pow_lt24 hp;have HS:Hid (setN (L.take (i+1))=x ||| 2^p):=zA (by
     rw[setN,foldl_take hz];show setN (L.take i) ||| _=_;rw[HX.out];rfl)
    obtain⟨q,hqe⟩:∃q,q=2^p:=⟨_,rfl⟩
    rw[<- hqe]at C HS hpow;have hb:bits .or .u32 (x:Int) (q:Int)=((x ||| q:Nat):Int):=u32_or_nat x q (by omega) (by omega);clear hqe hcell hz h0 h24;go_wp2_with fail;refine C.out.mono ?_;rintro e w1 ⟨rfl,rfl⟩;go_wp2;go_roundw
    case rel=>exact⟨i+1,x ||| q,by omega,by go_num,rfl,HS.out,by trivial⟩
    case measure=>simp[intOf];omega
  . have hltI:¬(i:Int)<(n:Int):=by omega
    have HF:Hid (ans=x):=zA (by
     rw[HA.out,<- HX.out,zK (by rw[<- HN.out];omega)])
    go_wp2;go_ret;exact⟨by rw[HF.out];rfl,rfl⟩
theorem alloc_getG(w:World)(o:Obj)(k:Nat):(w.alloc o).heap[k]?=if k=w.heap.size then some o else w.heap[k]?:=by
 unfold World.alloc;rw[Array.getElem?_push]
theorem get_atG:∀(os:List Obj) (w:World) (k:Nat),k<os.length->(os.foldl World.alloc w).heap[w.heap.size+k]?=os[k]?
 |[],_,k,h=>by simp at h
 |o::os,w,0,_=>by
  have key:∀(os:List Obj) (w:World) (j:Nat),j<w.heap.size->(os.foldl World.alloc w).heap[j]?=w.heap[j]?:=by
   intro os;induction os with
   |nil=>intro w j _;rfl
   |cons o os ih=>intro w j hj;rw[yN,ih (w.alloc o) j (by simp;omega),alloc_getG,if_neg (by omega)]
  rw[yN,key os (w.alloc o) _ (by simp),alloc_getG,if_pos (yF _)];rfl
 |o::os,w,k+1,h=>by
  have:=get_atG os (w.alloc o) k (by simpa using h);rw[yN,<- show (w.alloc o).heap.size+k=w.heap.size+(k+1) by simp;omega,this];rfl
def behA(a:Au)(p:Nat):Nat:=if p=24 then setN a.first else setN (a.follow.getD p [])
def lastA(a:Au):Nat:=if a.empty=true then setN a.last ||| 16777216 else setN a.last
def atW(a:Au)(s:Wd):Nat:=wsetN a.words s a.words.length
def stepsOf(a:Au)(E:List Eg)(v:Nat):List (Nat×Nat):=E.filterMap fun e=>if e.1=v/\atW a e.2.1≠0 then some (e.2.2,atW a e.2.1)else none
def sdOf(kp:Nat->Prop)(n:Nat)(E:List Eg)(a:Au):Sd:=⟨n,behA a,lastA a,(List.range n).map (stepsOf a E),kp⟩
abbrev noK:Nat->Prop:=fun _=>False
def updB(f:Nat->Nat)(j x:Nat):Nat->Nat:=fun i=>if i=j then x else f i
theorem sr_setB(n l:Nat)(f:Nat->Nat)(st:List (List (Nat×Nat)))(m:Sp)(x:Nat):∀j,j<25->(srCells ⟨n,f,l,st,noK⟩ m).setIfInBounds j (.int .u32 (x:Int))=srCells ⟨n,updB f j x,l,st,noK⟩ m
 |0,_|1,_|2,_|3,_|4,_|5,_|6,_|7,_|8,_|9,_|10,_|11,_|12,_|13,_|14,_|15,_|16,_|17,_|18,_|19,_|20,_|21,_|22,_|23,_|24,_=>by simp[srCells,updB]
 |j+25,h=>by omega
theorem sr_set25(n l:Nat)(f:Nat->Nat)(st:List (List (Nat×Nat)))(m:Sp)(x:Nat):(srCells ⟨n,f,l,st,noK⟩ m).setIfInBounds 25 (.int .u32 (x:Int))=srCells ⟨n,f,x,st,noK⟩ m:=by
 simp[srCells]
structure SrC (B:Nat) (w:World) (sb stb cb fb n l:Nat) (f:Nat->Nat) (rs:List (Value×List (Nat×Nat))):Prop where
 blk:w.heap[sb]?=some (.cells (srCells ⟨n,f,l,[],noK⟩ ⟨cb,fb,.slice none 0 0,.slice none 0 0,.slice (some ⟨stb,0,none⟩) n n,[]⟩) 100 (0,0))
 came:URow w cb (List.replicate n 0)
 fresh:URow w fb (List.replicate n 0)
 st:VRow w stb 103 (rs.map (·.1))
 len:rs.length=n
 rows:∀r∈rs,w.ownsRow B 105 2 r.1 r.2.length (r.2.flatMap csSt)
 apart:∀(i j:Nat) r q,rs[i]?=some r->rs[j]?=some q->i≠j->∀g,r.1.ownBlock=some g->q.1.ownBlock≠some g
 cf:cb≠fb
 lo:B<=sb/\B<=stb/\B<=cb/\B<=fb
section
variable {B:Nat} {w:World} {sb stb cb fb n l:Nat} {f:Nat->Nat} {rs:List (Value×List (Nat×Nat))}
theorem SrC.below{w':World}(h:SrC B w sb stb cb fb n l f rs)(hb:Below w.heap.size w w'):SrC B w' sb stb cb fb n l f rs:=
 { h with
  blk:=(hb.block sb (lt_of_block h.blk)).trans h.blk
  came:=(hb.block cb (lt_of_block h.came)).trans h.came
  fresh:=(hb.block fb (lt_of_block h.fresh)).trans h.fresh
  st:=h.st.below hb
  rows:=fun r hr=>owns_below (h.rows r hr) hb }
theorem SrC.setSb{w':World}(h:SrC B w sb stb cb fb n l f rs){l':Nat}{f':Nat->Nat}(hb:w'.heap[sb]?=some (.cells (srCells ⟨n,f',l',[],noK⟩ ⟨cb,fb,.slice none 0 0,.slice none 0 0,.slice (some ⟨stb,0,none⟩) n n,[]⟩) 100 (0,0)))(ho:∀k,k≠sb->w'.heap[k]?=w.heap[k]?):SrC B w' sb stb cb fb n l' f' rs:=
 { h with
  blk:=hb
  came:=(ho cb (fun e=>blk_neG h.blk h.came (by decide) e.symm)).trans h.came
  fresh:=(ho fb (fun e=>blk_neG h.blk h.fresh (by decide) e.symm)).trans h.fresh
  st:=(ho stb (fun e=>blk_neG h.blk h.st (by decide) e.symm)).trans h.st
  rows:=fun r hr=>owns_key (h.rows r hr) (fun g o hg hg2=>(ho g (fun e=>own_neG (h.rows r hr) h.blk (by decide) (by rw[hg,e]))).trans hg2) }
theorem SrC.setBeh(h:SrC B w sb stb cb fb n l f rs){j:Nat}(hj:j<25)(x:Nat):SrC B (w.setCell ⟨sb,j,none⟩ (.int .u32 (x:Int))) sb stb cb fb n l (updB f j x) rs:=
 h.setSb (by simp[World.setCell,Array.getElem?_modify,h.blk,sr_setB _ _ _ _ _ _ j hj]) (fun k hk=>zM _ _ _ _ hk)
theorem SrC.setLast(h:SrC B w sb stb cb fb n l f rs)(x:Nat):SrC B (w.setCell ⟨sb,25,none⟩ (.int .u32 (x:Int))) sb stb cb fb n x f rs:=
 h.setSb (by simp[World.setCell,Array.getElem?_modify,h.blk,sr_set25]) (fun k hk=>zM _ _ _ _ hk)
theorem SrC.behAt(h:SrC B w sb stb cb fb n l f rs){j:Nat}(hj:j<25):w.cell? ⟨sb,j,none⟩=some (.int .u32 (f j:Int))/\w.frozen? ⟨sb,j,none⟩=false:=by
 have hb:=h.blk;have:=sr_beh ⟨n,f,l,[],noK⟩ ⟨cb,fb,.slice none 0 0,.slice none 0 0,.slice (some ⟨stb,0,none⟩) n n,[]⟩ j hj;constructor
 . simp[World.cell?,hb,this]
 . simp[World.frozen?,hb]
theorem SrC.cells(h:SrC B w sb stb cb fb n l f rs):w.cell? ⟨sb,25,none⟩=some (.int .u32 (l:Int))/\w.frozen? ⟨sb,25,none⟩=false/\w.cell? ⟨sb,26,none⟩=some (.slice (some ⟨stb,0,none⟩) n n):=by
 have hb:=h.blk;simp[World.cell?,World.frozen?,hb,srCells]
theorem SrC.setRow{w':World}(h:SrC B w sb stb cb fb n l f rs){i:Nat}{r:Value×List (Nat×Nat)}(hi:rs[i]?=some r){v:Value}{L:List (Nat×Nat)}(hk:∀k,k<w.heap.size->r.1.ownBlock≠some k->w'.heap[k]?=w.heap[k]?)(hv:w'.ownsRow B 105 2 v L.length (L.flatMap csSt))(hg:∀g,v.ownBlock=some g->r.1.ownBlock=some g\/w.heap.size<=g):
 SrC B (w'.setCell ⟨stb,i,none⟩ v) sb stb cb fb n l f (rs.set i (v,L)):=by
 have hrm:=zC hi;have hrow:=h.rows r hrm;have hil:=(zE.1 hi).1;have hset:∀j,(rs.set i (v,L))[j]?=if i=j then some (v,L)else rs[j]?:=fun j=>by
  rw[List.getElem?_set];simp[hil]
 have hsb:=(hk sb (lt_of_block h.blk) (own_neG hrow h.blk (by decide))).trans h.blk;have hcb:URow w' cb _:=(hk cb (lt_of_block h.came) (own_neG hrow h.came (by decide))).trans h.came;have hfb:URow w' fb _:=(hk fb (lt_of_block h.fresh) (own_neG hrow h.fresh (by decide))).trans h.fresh;have hst:VRow w' stb _ _:=(hk stb (lt_of_block h.st) (own_neG hrow h.st (by decide))).trans h.st;have ho:∀k,k≠stb->(w'.setCell ⟨stb,i,none⟩ v).heap[k]?=w'.heap[k]?:=fun k hk=>zM _ _ _ _ hk
 have hother:∀j q,rs[j]?=some q->j≠i->w'.ownsRow B 105 2 q.1 q.2.length (q.2.flatMap csSt):=fun j q hq hji=>owns_key (h.rows q (zC hq)) (fun g o hg2 ho2=>(hk g (lt_of_block ho2) (fun e=>h.apart i j r q hi hq (fun e2=>hji e2.symm) g e hg2)).trans ho2)
 have hst2:∀ {u:Value} {M:List (Nat×Nat)},w'.ownsRow B 105 2 u M.length (M.flatMap csSt)->(w'.setCell ⟨stb,i,none⟩ v).ownsRow B 105 2 u M.length (M.flatMap csSt):=fun hu=>owns_key hu (fun g o hg2 ho2=>(ho g (fun e=>own_neG hu hst (by decide) (by rw[hg2,e]))).trans ho2)
 refine⟨(ho sb (blk_neG hsb hst (by decide))).trans hsb,(ho cb (blk_neG hcb hst (by decide))).trans hcb,(ho fb (blk_neG hfb hst (by decide))).trans hfb,?_,by rw[List.length_set];exact h.len,?_,?_,h.cf,h.lo⟩
 . rw[List.map_set];exact hst.set i v
 . intro q hq;obtain⟨j,hj⟩:=List.getElem?_of_mem hq;rw[hset]at hj;split at hj
   . injection hj with hj;subst hj;exact hst2 hv
   . rename_i hne;exact hst2 (hother j q hj (fun e=>hne e.symm))
 . intro a b p q hp hq hab g hpg hqg;rw[hset]at hp hq;split at hp
   . rename_i ea;injection hp with hp;subst hp;rw[if_neg (fun e=>hab (ea.symm.trans e))]at hq;rcases hg g hpg with h1|h1
     . exact h.apart i b r q hi hq (by omega) g h1 hqg
     . have:=(h.rows q (zC hq)).lt g hqg;omega
   . rename_i ea;split at hq
     . rename_i eb;injection hq with hq;subst hq;rcases hg g hqg with h1|h1
       . exact h.apart a i p r hp hi (by omega) g hpg h1
       . have:=(h.rows p (zC hp)).lt g hpg;omega
     . exact h.apart a b p q hp hq hab g hpg hqg
end
def NewE(w:World)(n:Nat)(E:List Eg)(a:Au)(e:Ending)(w':World):Prop:=
 ∃(sb:Nat) (m:Sp) (kp:Nat->Prop),e=.returned (.pointer (some ⟨sb,0,none⟩))/\SrS (fun k=>k<w'.heap.size/\¬OwnB sb m k) w' sb (sdOf kp n E a) ⟨List.replicate n 0,List.replicate n 0,[],[]⟩ m/\(∀k,OwnB sb m k->w.heap.size<=k)/\(∀k,kp k->w.heap.size<=k/\k<w'.heap.size)/\Below w.heap.size w w'
theorem rest_new(d:Sd):Rest d ⟨List.replicate d.n 0,List.replicate d.n 0,[],[]⟩:=by
 have hz:∀v,(List.replicate d.n 0).getD v 0=0:=fun v=>by
  rw[List.getD,List.getElem?_replicate];split<;>rfl
 exact⟨by simp,by simp,fun x hx=>by rw[List.eq_of_mem_replicate hx];omega,hz,rfl,fun v hv=>absurd (hz v) hv,by simp,by simp,by simp,by simp⟩
theorem SrC.done{B:Nat}{w:World}{sb stb cb fb n l:Nat}{f:Nat->Nat}{rs:List (Value×List (Nat×Nat))}(h:SrC B w sb stb cb fb n l f rs){d:Sd}(hd:d.Ok)(e1:d.n=n)(e2:∀j,j<25->d.beh j=f j)(e3:d.last=l)(e4:d.steps=rs.map (·.2))(e5:∀k,d.kp k↔(k=stb\/∃r∈rs,r.1.ownBlock=some k)):
 SrS (fun k=>k<w.heap.size/\¬OwnB sb ⟨cb,fb,.slice none 0 0,.slice none 0 0,.slice (some ⟨stb,0,none⟩) n n,rs⟩ k) w sb d ⟨List.replicate d.n 0,List.replicate d.n 0,[],[]⟩ ⟨cb,fb,.slice none 0 0,.slice none 0 0,.slice (some ⟨stb,0,none⟩) n n,rs⟩:=by
 have hcells:srCells d ⟨cb,fb,.slice none 0 0,.slice none 0 0,.slice (some ⟨stb,0,none⟩) n n,rs⟩=srCells ⟨n,f,l,[],noK⟩ ⟨cb,fb,.slice none 0 0,.slice none 0 0,.slice (some ⟨stb,0,none⟩) n n,[]⟩:=by
  unfold srCells;simp only[e1,e3];rw[e2 0 (by omega),e2 1 (by omega),e2 2 (by omega),e2 3 (by omega),e2 4 (by omega),e2 5 (by omega),e2 6 (by omega),e2 7 (by omega),e2 8 (by omega),e2 9 (by omega),e2 10 (by omega),e2 11 (by omega),e2 12 (by omega),e2 13 (by omega),e2 14 (by omega),e2 15 (by omega),e2 16 (by omega),e2 17 (by omega),e2 18 (by omega),e2 19 (by omega),e2 20 (by omega),e2 21 (by omega),e2 22 (by omega),e2 23 (by omega),e2 24 (by omega)]
 have hown:∀k,k≠sb->k≠cb->k≠fb->¬OwnB sb ⟨cb,fb,.slice none 0 0,.slice none 0 0,.slice (some ⟨stb,0,none⟩) n n,rs⟩ k:=fun k h1 h2 h3 h4=>by
  rcases h4 with h4|h4|h4|h4|h4
  . exact h1 h4
  . exact h2 h4
  . exact h3 h4
  . simp[Value.ownBlock]at h4
  . simp[Value.ownBlock]at h4
 have hkp:∀k,d.kp k->k<w.heap.size/\¬OwnB sb ⟨cb,fb,.slice none 0 0,.slice none 0 0,.slice (some ⟨stb,0,none⟩) n n,rs⟩ k:=fun k hk=>by
  rcases (e5 k).1 hk with hk|⟨r,hr,hb⟩
  . subst hk;exact⟨lt_of_block h.st,hown _ (fun e=>blk_neG h.blk h.st (by decide) e.symm) (fun e=>blk_neG h.came h.st (by decide) e.symm) (fun e=>blk_neG h.fresh h.st (by decide) e.symm)⟩
  . exact⟨((h.rows r hr).lt k hb).2,hown _ (fun e=>own_neG (h.rows r hr) h.blk (by decide) (by rw[hb,e])) (fun e=>own_neG (h.rows r hr) h.came (by decide) (by rw[hb,e])) (fun e=>own_neG (h.rows r hr) h.fresh (by decide) (by rw[hb,e]))⟩
 refine⟨by rw[hcells];exact h.blk,by rw[e1];exact h.came,by rw[e1];exact h.fresh,⟨rfl,.inl ⟨rfl,rfl⟩⟩,⟨rfl,.inl ⟨rfl,rfl⟩⟩,fun hk=>hk.2 (.inl rfl),fun hk=>hk.2 (.inr (.inl rfl)),fun hk=>hk.2 (.inr (.inr (.inl rfl))),by intro g hg;simp[Value.ownBlock]at hg,by intro g hg;simp[Value.ownBlock]at hg,h.cf,by intro g hg;simp[Value.ownBlock]at hg,?_,fun r hr=>?_,hkp,e4.symm,hd⟩
 . have h1:=h.st;rw[<- flat_row]at h1;exact(h1.sl csRow_len h.len.symm).sub (fun b hb _=>(e5 b).2 (.inl hb))
 . exact(own_sl csSt_len (h.rows r hr) rfl).sub (fun b hb _=>(e5 b).2 (.inr ⟨r,hr,hb⟩))
end Go.Proofs.YtdalcipmpelifaaGreatDoor
