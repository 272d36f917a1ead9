/- GEnds, GNewS, MPairs, MAll. -/
import Derived.Test.YtkbgmcmcpbegjaaGreatDoorZR20
import Derived.Test.YtkbgmcmcpbegjaaGreatDoorZR16
import Derived.Deep.OwnRows
import Derived.Deep.DeepCutAuto
set_option maxRecDepth 100000
set_option maxHeartbeats 4000000
namespace Go.Proofs.YtkbgmcmcpbegjaaGreatDoor
open Go.RowKit Go.Shelf
def VRow(w:World)(g:Nat)(t:TypeId)(l:List Value):Prop:=w.heap[g]?=some (.cells l.toArray t (0,0))
theorem VRow.cell{w:World}{g i:Nat}{t:TypeId}{l:List Value}{v:Value}(h:VRow w g t l)(hi:l[i]?=some v):w.cell? ⟨g,i,none⟩=some v/\w.frozen? ⟨g,i,none⟩=false:=by
 have h:w.heap[g]?=_:=h;constructor
 . simp[World.cell?,h,hi]
 . simp[World.frozen?,h]
theorem VRow.set{w:World}{g:Nat}{t:TypeId}{l:List Value}(h:VRow w g t l)(i:Nat)(v:Value):VRow (w.setCell ⟨g,i,none⟩ v) g t (l.set i v):=by
 unfold VRow at h ⊢;simp[World.setCell,Array.getElem?_modify,h]
theorem VRow.sl{α:Type}{enc:α->List Value}(hk:∀x,(enc x).length=1){w:World}{g n:Nat}{t:TypeId}{L:List α}(h:VRow w g t (L.flatMap enc))(hn:n=L.length):SlS enc 1 (fun k=>k=g) w (.slice (some ⟨g,0,none⟩) n n) L:=by
 refine⟨_,n,by rw[hn],.inr ⟨g,0,rfl,rfl,lt_of_block h,fun j x hx c u hu=>?_⟩⟩;have hc:c=0:=by have:=(zE.1 hu).1;rw[hk]at this;omega
 subst hc;have h1:=jdr hk L j 0 x hx (by omega);rw[hu]at h1;have:=(h.cell h1).1;rw[show 0+j*1+0=j*1+0 by omega];exact this
theorem VRow.below{w w':World}{g:Nat}{t:TypeId}{l:List Value}(h:VRow w g t l)(hb:Below w.heap.size w w'):VRow w' g t l:=(hb.block g (lt_of_block h)).trans h
theorem jeM(z:Value)(n:Nat):madeCells #[z] n=(List.replicate n z).toArray:=by
 apply Array.ext_getElem?;intro j;by_cases hj:j<n
 . simp[madeCells,hj,Nat.mod_one]
 . rw[Array.getElem?_eq_none (by simp[madeCells];omega),Array.getElem?_eq_none (by simp;omega)]
theorem jd6(w:World)(z:Value)(n:Nat)(t:TypeId):VRow (w.alloc (.cells (madeCells #[z] n) t)) w.heap.size t (List.replicate n z):=by
 unfold VRow;rw[jeM];exact heap_alloc_new _ _
def NatC(S:Nat->Prop)(w:World)(v:Value)(l:List Nat):Prop:=NatS S w v l/\∃ao cap,v=.slice ao l.length cap/\l.length<=cap
theorem jc4{w:World}{B:Nat}{v:Value}{l:List Nat}(h:w.ownsRow B 3 1 v l.length (l.flatMap csI)):NatC (fun g=>v.ownBlock=some g) w v l:=by
 refine⟨jew h,?_⟩;obtain⟨ao,aa,rfl⟩:=jab h;exact⟨ao,aa,rfl,jjY h⟩
theorem NatC.sub{S T:Nat->Prop}{w:World}{v:Value}{l:List Nat}(h:NatC S w v l)(hs:∀b,S b->b<w.heap.size->T b):NatC T w v l:=⟨h.1.sub hs,h.2⟩
theorem NatC.fr{S:Nat->Prop}{w w':World}{v:Value}{l:List Nat}(h:NatC S w v l)(hf:Fr S w w'):NatC S w' v l:=⟨h.1.fr hf,h.2⟩
theorem NatC.keep{S T:Nat->Prop}{w w':World}{v:Value}{l:List Nat}(h:NatC S w v l)(hz:w.heap.size<=w'.heap.size)(hk:∀b,S b->b<w.heap.size->T b/\w'.heap[b]?=w.heap[b]?):NatC T w' v l:=⟨h.1.keep hz hk,h.2⟩
theorem NatC.below{S:Nat->Prop}{w w':World}{v:Value}{l:List Nat}(h:NatC S w v l)(hb:Below w.heap.size w w'):NatC S w' v l:=⟨h.1.below hb,h.2⟩
theorem jdQ{S:Nat->Prop}{w:World}{gb:Nat}{N:List Wd}{E:List Eg}{mb:Nat}{nv ev:Value}{D:DataW Unit}{c:Nat}(h:GrS S w gb N E mb nv ev D c)(hl:N.length<=100000):
 Calls Tryz.prog 33 #[.pointer (some ⟨gb,0,none⟩)] w fun e w'=>e=.returned (.slice (some ⟨w.heap.size,0,none⟩) N.length N.length)/\VRow w' w.heap.size 3 ((List.range N.length).flatMap csI)/\Below w.heap.size w w':=by
 obtain⟨i0,ap,av,aw,ar⟩:=jal jcY;obtain⟨⟨g0,g1,g2⟩,_⟩:=cells3G h.blk;obtain⟨ao,cap,ag⟩:=h.names.slice;rw[ag]at g0;obtain⟨n,hn⟩:=eX N.length;rw[<- hn]at g0 hl ⊢;have hgb:=lt_of_block h.blk;have HM:=zA (jd6 w (.int .i64 0) n 3);have ai:Hid (Below w.heap.size w (w.alloc (.cells (madeCells #[.int .i64 0] n) 3))):=zA ((zF _ _).alloc (zD _) _);clear h hn ag g1 g2;go_enter Tryz.func33,Tryz.ntmps33;go_wp2_with (at_make;refine wpList_make_row _ rfl _ _ 59 rfl 3 i0 (.int .i64 0) Tryz.underlying59 ap av aw rfl _ _ n rfl rfl (by rw[ar];omega) (by omega) ?_);obtain⟨W0,ak⟩:=eX (w.alloc (.cells (madeCells #[.int .i64 0] n) 3));rw[<- ak]at HM ai ⊢;clear ak g0;go_wp2_with fail;go_loopw [13] (fun c wr=>∃(i:Nat) (l:List Nat),i<=n/\c=.int .i64 i/\l.length=n/\l.take i=List.range i/\VRow wr w.heap.size 3 (l.flatMap csI)/\Below w.heap.size w wr) (fun c _=>n-(intOf c).toNat)
 case atStart=>exact⟨0,List.replicate n 0,zO _,rfl,by simp,by simp,by
  have:=HM.out;rw[show (List.replicate n 0).flatMap csI=List.replicate n (Value.int .i64 0) by rw[ja1];simp];exact this,ai.out⟩
 case round=>
  obtain⟨i,l,hi,rfl,af,aj,ab,ah⟩:=hrel;obtain⟨wx,au⟩:=eX wr;subst au;have aa:=zA ab;have al:=zA ah;have ae:=zA aj;have ac:=zA af;clear ab ah aj af;by_cases hlt:i<n
  . have ad:(i:Int)<(n:Int):=by omega
    obtain⟨x,hx⟩:∃x,l[i]?=some x:=⟨_,zB (by rw[ac.out];exact hlt)⟩
    obtain⟨q0,q1⟩:=aa.out.cell (i:=i) (v:=.int .i64 (x:Int)) (by rw[ja1,zI,zI,hx];rfl);have am:Hid (VRow (wx.setCell ⟨w.heap.size,i,none⟩ (.int .i64 (i:Int))) w.heap.size 3 ((l.set i i).flatMap csI)):=zA (by
     have:=aa.out.set i (.int .i64 (i:Int));rw[ja1]at this ⊢;rw[List.map_set,List.map_set];exact this)
    have aq:=zA (al.out.setCell (p:=⟨w.heap.size,i,none⟩) (zD _) (.int .i64 (i:Int)));have an:Hid ((l.set i i).take (i+1)=List.range (i+1)):=zA (by
     rw[List.range_succ,<- ae.out,zS,List.getElem?_set_self (by rw[ac.out];exact hlt),List.take_set_of_le (zD _)];rfl)
    clear hx;go_wp2;go_roundw
    case rel=>exact⟨i+1,l.set i i,by omega,by go_num,by rw[List.length_set];exact ac.out,an.out,am.out,aq.out⟩
    case measure=>simp[intOf];omega
  . have ad:¬(i:Int)<(n:Int):=by omega
    have HE:Hid (l=List.range n):=zA (by
     have:=ae.out;have e:i=n:=by omega
     rw[e,zJ (by rw[ac.out];exact zD _)]at this;exact this)
    go_wp2;go_ret;exact⟨rfl,by rw[<- HE.out];exact aa.out,al.out⟩
def OneE(S:Nat->Prop)(w:World)(l:List Nat)(e:Ending)(w':World):Prop:=
 ∃L:List (Value×List Nat),e=.returned (.slice (some ⟨w.heap.size,0,none⟩) l.length l.length)/\VRow w' w.heap.size 59 (L.flatMap jaN)/\L.map (·.2)=l.map (fun x=>[x])/\(∀r∈L,NatS S w' r.1 r.2)/\Below w.heap.size w w'
theorem jly:(Tryz.prog.info? 59).map (fun i=>(i.zero,i.size,i.bytes))=some (some (.slice none 0 0),1,24):=by kernel_rfl
theorem jb6{α:Type}(L:List (Value×α)):L.flatMap jaN=L.map (·.1):=by
 induction L with
 |nil=>rfl
 |cons a l ih=>rw[yT,ih];rfl
theorem jdS{S:Nat->Prop}{w:World}{v:Value}{l:List Nat}(h:NatC S w v l)(hl:l.length<=100000):
 Calls Tryz.prog 32 #[v] w (OneE S w l):=by
 obtain⟨i0,aF,aD,aP,aK⟩:=jal jly;obtain⟨h,ao,aa,rfl,ak⟩:=h;have H:=zA h;obtain⟨n,hn⟩:=eX l.length;have HP:Hid (OneE S w l=OneE S w l):=zA rfl;have HN:=zA hn;rw[<- hn]at ak hl H;show Calls Tryz.prog _ #[.slice ao l.length aa] w _;rw[<- hn];have HM:=zA (jd6 w (.slice none 0 0) n 59);have aw:Hid (Below w.heap.size w (w.alloc (.cells (madeCells #[.slice none 0 0] n) 59))):=zA ((zF _ _).alloc (zD _) _);clear h hn HP;go_enter Tryz.func32,Tryz.ntmps32;go_wp2_with (at_make;refine wpList_make_row _ rfl _ _ 60 rfl 59 i0 (.slice none 0 0) Tryz.underlying60 aF aD aP rfl _ _ n rfl rfl (by rw[aK];omega) (by omega) ?_);obtain⟨W0,ar⟩:=eX (w.alloc (.cells (madeCells #[.slice none 0 0] n) 59));rw[<- ar]at HM aw ⊢;clear ar;go_wp2_with fail;go_loopw [10] (fun c wr=>∃(i:Nat) (L:List (Value×List Nat)),i<=n/\c=.int .i64 i/\L.length=i/\L.map (·.2)=(l.take i).map (fun x=>[x])/\(∀r∈L,NatS S wr r.1 r.2)/\VRow wr w.heap.size 59 (L.map (·.1)++List.replicate (n-i) (.slice none 0 0))/\Below w.heap.size w wr) (fun c _=>n-(intOf c).toNat)
 case atStart=>exact⟨0,[],zO _,rfl,rfl,by simp,by simp,by simpa using HM.out,aw.out⟩
 case round=>
  obtain⟨i,L,hi,rfl,ap,ai,aj,af,av⟩:=hrel;obtain⟨wx,aA⟩:=eX wr;subst aA;have ac:=zA af;have an:=zA av;have ag:=zA ai;have ah:=zA ap;have ae:=zA aj;clear af av ai ap aj;by_cases hlt:i<n
  . have al:(i:Int)<(n:Int):=by omega
    obtain⟨x,hx⟩:∃x,l[i]?=some x:=⟨_,zB (by rw[<- HN.out];exact hlt)⟩
    have au:=H.out.below an.out;obtain⟨g,ab,az,ay,aE,ad⟩:=au.get hx;subst az;obtain⟨q0,q1⟩:=ac.out.cell (i:=i) (v:=.slice none 0 0) (by
     rw[yM (by rw[zH,ah.out];exact zD _),zH,ah.out,Nat.sub_self];rw[List.getElem?_replicate];rw[if_pos (by omega)])
    have hcI:(i:Int)+1<=(aa:Int):=by omega
    have aM:Hid (NatS S (wx.setCell ⟨w.heap.size,i,none⟩ (.slice (some ⟨g,ab+i,none⟩) 1 (aa-i))) (.slice (some ⟨g,ab+i,none⟩) 1 (aa-i)) [x]):=zA (by
     have aN:g≠w.heap.size:=fun e=>by
      obtain⟨g',off',e1,_,e3,_⟩:=H.out.get hx;injection e1 with e1;injection e1 with e1;omega
     refine⟨_,_,rfl,.inr ⟨g,ab+i,rfl,ay,by simpa using aE,fun j y hy c u hu=>?_⟩⟩;have hj:j=0:=by have:=(zE.1 hy).1;simp at this;exact this
     subst hj;simp at hy;subst hy;have h2:=ad c u hu;rw[yC]at h2;rw[Nat.zero_mul,yA];have hb:(wx.setCell ⟨w.heap.size,i,none⟩ (.slice (some ⟨g,ab+i,none⟩) 1 (aa-i))).heap[g]?=wx.heap[g]?:=zM _ _ _ _ aN;simpa only[World.cell?,hb]using h2)
    have ax:Hid (VRow (wx.setCell ⟨w.heap.size,i,none⟩ (.slice (some ⟨g,ab+i,none⟩) 1 (aa-i))) w.heap.size 59 ((L++[((.slice (some ⟨g,ab+i,none⟩) 1 (aa-i):Value),[x])]).map (fun(r:Value×List Nat)=>r.1)++List.replicate (n-(i+1)) (.slice none 0 0))):=zA (by
     have:=ac.out.set i (.slice (some ⟨g,ab+i,none⟩) 1 (aa-i));rw[List.set_append_right _ _ (by rw[zH,ah.out];exact zD _),zH,ah.out,Nat.sub_self,show n-i=(n-(i+1))+1 by omega,List.replicate_succ,List.set_cons_zero]at this;simpa using this)
    have aG:=zA (an.out.setCell (p:=⟨w.heap.size,i,none⟩) (zD _) (.slice (some ⟨g,ab+i,none⟩) 1 (aa-i)));have aC:Hid (∀r∈L++[((.slice (some ⟨g,ab+i,none⟩) 1 (aa-i):Value),[x])],NatS S (wx.setCell ⟨w.heap.size,i,none⟩ (.slice (some ⟨g,ab+i,none⟩) 1 (aa-i))) r.1 r.2):=zA (fun r hr=>by
     rcases zL.1 hr with hr|hr
     . have h1:=ae.out r hr;obtain⟨aL,am,e,h2⟩:=h1;refine⟨aL,am,e,?_⟩;rcases h2 with h2|⟨g2,o2,e1,hs,aI,aO⟩
       . exact .inl h2
       . refine .inr ⟨g2,o2,e1,hs,by simpa using aI,fun j y hy c u hu=>?_⟩;have h3:=aO j y hy c u hu;by_cases hg2:g2=w.heap.size
         . exfalso;have h4:=ac.out;rw[<- hg2]at h4;unfold VRow at h4;have aB:c=0:=by have:=(zE.1 hu).1;simp at this;exact this
           subst aB;simp at hu;subst hu;simp only[World.cell?,h4]at h3;have h5:=zC (by simpa using h3);rcases zL.1 h5 with h6|h6
           . obtain⟨r2,aJ,e2⟩:=zV.1 h6;obtain⟨_,_,e3,_⟩:=ae.out r2 aJ;rw[e3]at e2;cases e2
           . have:=List.eq_of_mem_replicate h6;cases this
         . have hb:(wx.setCell ⟨w.heap.size,i,none⟩ (.slice (some ⟨g,ab+i,none⟩) 1 (aa-i))).heap[g2]?=wx.heap[g2]?:=zM _ _ _ _ hg2;simpa only[World.cell?,hb]using h3
     . rw[zK.1 hr];exact aM.out)
    have aH:Hid ((L++[((.slice (some ⟨g,ab+i,none⟩) 1 (aa-i):Value),[x])]).map (·.2)=(l.take (i+1)).map (fun x=>[x])):=zA (by
     rw[yG,ag.out,zS,hx];simp)
    clear hx ad au;go_wp2;go_roundw
    case rel=>exact⟨i+1,_,by omega,by go_num,by rw[zG,ah.out];rfl,aH.out,aC.out,ax.out,aG.out⟩
    case measure=>simp[intOf];omega
  . have al:¬(i:Int)<(n:Int):=by omega
    have aq:i=n:=by omega
    go_wp2;go_ret;refine⟨L,by rw[<- HN.out];rfl,?_,?_,ae.out,an.out⟩
    . have:=ac.out;rw[aq,Nat.sub_self]at this;rw[jb6];simpa using this
    . have:=ag.out;rw[aq,HN.out,List.take_length]at this;exact this
def jgc(d:Sd)(s:Ss):List Nat:=jdY (s.seen.filter fun v=>decide (s.came.getD v 0 &&& d.last≠0))
theorem jiW{d:Sd}{s:Ss}(h:Rest d s):(jgc d s).Pairwise (·<·)/\∀v,v∈jgc d s↔s.came.getD v 0 &&& d.last≠0:=by
 refine⟨jiI (List.Pairwise.filter _ h.nd),fun v=>?_⟩;unfold jgc;rw[(jbY _).mem_iff,zY,decide_eq_true_eq];refine⟨fun h1=>h1.2,fun h1=>⟨h.sn v (fun h2=>h1 (by rw[h2];simp)),h1⟩⟩
theorem jeJ{l:List Nat}{p:Nat->Bool}{i x:Nat}(h:l[i]?=some x):(l.take (i+1)).filter p=(l.take i).filter p++(if p x=true then [x]else []):=by
 rw[zS,h,yQ,List.filter_append];congr 1;by_cases hp:p x=true
 . rw[if_pos hp];simp[hp]
 . rw[if_neg hp];simp[hp]
theorem jkE{S:Nat->Prop}{w:World}{sb:Nat}{d:Sd}{s:Ss}{m:Sp}(h:SrS S w sb d s m)(hr:Rest d s)(hsl:s.seen.length<=1000000):
 Calls Tryz.prog 35 #[.pointer (some ⟨sb,0,none⟩)] w fun e w'=>∃v,e=.returned v/\w'.ownsRow w.heap.size 3 1 v (jgc d s).length ((jgc d s).flatMap csI)/\Below w.heap.size w w':=by
 obtain⟨i0,aF,aD,aJ,aI⟩:=jal jcY;have H:=zA h;have HR:=zA hr;obtain⟨P,hP⟩:=eX (fun v=>decide (s.came.getD v 0 &&& d.last≠0):Nat->Bool);have HC:Hid (∀wr v,Below w.heap.size w wr->v<d.n->Calls Tryz.prog 62 #[.pointer (some ⟨sb,0,none⟩),.int .i64 (v:Int)] wr fun e w'=>e=.returned (.bool (P v))/\w'=wr.drew):=zA (fun wr v hb hv=>by rw[hP];exact jdt (H.out.below hb) HR.out.cl HR.out.cb hv);obtain⟨R,hR⟩:=eX (jgc d s);rw[<- hR];have az:Hid (R=jdY (s.seen.filter P)):=zA (by rw[hR,hP];rfl);obtain⟨sa,sc,am⟩:=jab h.seen;obtain⟨n,hn⟩:=eX s.seen.length;rw[<- hn]at am hsl;have HN:=zA hn;have aG:=h.cells.2.2.2.2.1;rw[am]at aG;have aH:Hid (∀(i x:Nat),s.seen[i]?=some x->∃g ae,sa=some ⟨g,ae,none⟩/\g<w.heap.size/\w.cell? ⟨g,ae+i,none⟩=some (.int .i64 (x:Int))):=zA (fun i x hx=>by
  have h1:=jew H.out.seen;rw[am]at h1;obtain⟨g,ae,e1,_,e3,e4⟩:=h1.get hx;have e5:=getI e4;rw[yC]at e5;exact⟨g,ae,e1,e3,e5⟩)
 clear h hr hP hR hn am;go_enter Tryz.func35,Tryz.ntmps35;go_wp2_with fail;go_loopw [3,11] (fun vl c wr=>∃(i:Nat) (u:Value),u=vl/\i<=n/\c=.int .i64 i/\wr.ownsRow w.heap.size 3 1 u ((s.seen.take i).filter P).length (((s.seen.take i).filter P).flatMap csI)/\Below w.heap.size w wr) (fun _ c _=>n-(intOf c).toNat)
 case atStart=>exact⟨0,.slice none 0 0,rfl,zO _,rfl,World.ownsRow_nil _ _ _ _,zF _ _⟩
 case round=>
  obtain⟨i,u,rfl,hi,rfl,aa,au⟩:=hrel;obtain⟨wx,aB⟩:=eX wr;subst aB;obtain⟨X,hX⟩:=eX ((s.seen.take i).filter P);rw[<- hX]at aa;have aA:X.length<=1000000:=by
   rw[hX];have h1:=yH P (s.seen.take i);rw[zX,<- HN.out]at h1;omega
  obtain⟨ua,uc,hu⟩:=jab aa;obtain⟨nu,ak⟩:=eX X.length;rw[<- ak]at hu aA;subst hu;have ac:Hid (wx.ownsRow w.heap.size 3 1 (.slice ua nu uc) nu (X.flatMap csI)):=zA (by rw[ak];rw[ak]at aa;exact aa);have HX:=zA hX;have ag:=zA ak;have af:=zA au;have aw:w.heap.size<=wx.heap.size:=au.size;clear aa au hX ak;by_cases hlt:i<n
  . have an:(i:Int)<(n:Int):=by omega
    obtain⟨x,hx⟩:∃x,s.seen[i]?=some x:=⟨_,zB (by rw[<- HN.out];exact hlt)⟩
    obtain⟨g,ae,aC,aE,q0⟩:=aH.out i x hx;subst aC;have q1:wx.cell? ⟨g,ae+i,none⟩=some (.int .i64 (x:Int)):=(af.out.cell (p:=⟨g,ae+i,none⟩) aE).trans q0;have C:=zA (HC.out wx x af.out (HR.out.slt x (zC hx)));have HT:=zA (jeJ (p:=P) hx);rw[<- HX.out]at HT;clear hx q0;cases hp:P x with
    |true=>
     rw[hp]at C HT;rw[if_pos rfl]at HT;clear hp;go_wp2_with fail;refine C.out.mono ?_;rintro e w1 ⟨rfl,rfl⟩;obtain⟨wy,ao⟩:=eX wx.drew;have al:Below wx.heap.size wx wy:=by rw[ao];exact(zF _ _).drew
     have ax:=zA (jao ac.out al);have ay:=zA (af.out.trans (al.mono af.out.size));have hsy:w.heap.size<=wy.heap.size:=zT aw al.size;rw[<- ao];clear ao al q1;go_wp2_with (at_builtin;refine wpList_append_lies _ rfl _ _ _ rfl w.heap.size 3 i0 _ 1 8 Tryz.underlying59 aF aD aJ aI rfl (by decide) (.slice ua nu uc) _ _ (by rfl) (ax.out.alloc _) ⟨wy.heap.size,0,none⟩ 1 1 (csI x) (by rfl) (by rfl) ?d1 ?d2 (by decide) ?d3 ?d4 ?d5 (wy.heap.size+1) (by simp) ?_)
     case d1=>exact World.news_of_block (cs:=#[.int .i64 (x:Int)]) (t:=3) (fr:=(0,0)) (heap_alloc_new wy _)
     case d2=>simp[Value.oneCell']
     case d3=>unfold maxLen;omega
     case d4=>omega
     case d5=>simp;omega
     intro gg aq w9 ad ab ar ap;have ba:Below wy.heap.size wy (wy.alloc (.cells #[.int .i64 (x:Int)] 3)):=(zF _ _).alloc (zD _) _;have aj:Hid (Below w.heap.size w w9):=zA ((ay.out.trans (ba.mono ay.out.size)).grown ab (by simp;omega) (fun k e=>(ax.out.lt k e).1));have ai:Hid (w9.ownsRow w.heap.size 3 1 (.slice (some ⟨gg,0,none⟩) (nu+1) aq) ((s.seen.take (i+1)).filter P).length (((s.seen.take (i+1)).filter P).flatMap csI)):=zA (by
      rw[HT.out,zG,<- ag.out,zP];exact ad)
     clear ad ab ar ap ba;go_wp2;go_roundw
     case rel=>exact⟨i+1,_,rfl,by omega,by go_num,ai.out,aj.out⟩
     case measure=>simp[intOf];omega
    |false=>
     rw[hp]at C HT;rw[if_neg (by decide),List.append_nil]at HT;clear hp;go_wp2_with fail;refine C.out.mono ?_;rintro e w1 ⟨rfl,rfl⟩;have ai:Hid (wx.drew.ownsRow w.heap.size 3 1 (.slice ua nu uc) ((s.seen.take (i+1)).filter P).length (((s.seen.take (i+1)).filter P).flatMap csI)):=zA (by
      rw[HT.out,<- ag.out];exact ac.out.drew)
     have aj:=zA af.out.drew;go_wp2;go_roundw
     case rel=>exact⟨i+1,_,rfl,by omega,by go_num,ai.out,aj.out⟩
     case measure=>simp[intOf];omega
  . have an:¬(i:Int)<(n:Int):=by omega
    have HF:Hid (X=s.seen.filter P):=zA (by rw[HX.out,zJ (by rw[<- HN.out];omega)]);have C:=zA (jjH (by have:=ac.out;rw[ag.out]at this;exact this) (by have:=ag.out;omega));rw[<- ag.out]at C;go_wp2_with fail;refine C.out.mono ?_;rintro e w1 ⟨rfl,ah,av⟩;have aj:Hid (Below w.heap.size w w1):=zA (af.out.grown av aw (fun k e=>(ac.out.lt k e).1));have ai:Hid (w1.ownsRow w.heap.size 3 1 (.slice ua nu uc) R.length (R.flatMap csI)):=zA (by
     rw[az.out,<- HF.out,(jbY X).length_eq,<- ag.out];exact ah)
    clear ah av;go_wp2;go_ret;exact⟨_,rfl,ai.out,aj.out⟩
theorem jcq{S:Nat->Prop}{w:World}{v:Value}{L:List Int}(h:IntZ S w v L)(hl:L.length<=1000000)(hz:∀z∈L,0<=z/\z<24):
 Calls Tryz.prog 57 #[v] w fun e w'=>e=.returned (.int .u32 (setN L:Int))/\w'=w:=by
 obtain⟨ao,cap,rfl⟩:=h.slice;have H:=zA h;obtain⟨n,hn⟩:=eX L.length;rw[<- hn]at hl H ⊢;have HN:=zA hn;have HZ:=zA hz;obtain⟨ag,ab⟩:=eX (setN L);rw[<- ab];have HA:=zA ab;clear h hn ab hz;go_enter Tryz.func57,Tryz.ntmps57;go_wp2_with fail;go_loopw [3,8] (fun s c wr=>∃(i x:Nat),i<=n/\c=.int .i64 i/\s=.int .u32 (x:Int)/\setN (L.take i)=x/\wr=w) (fun _ c _=>n-(intOf c).toNat)
 case atStart=>exact⟨0,0,zO _,rfl,rfl,rfl,rfl⟩
 case round=>
  obtain⟨i,x,hi,rfl,rfl,hx,rfl⟩:=hrel;have hxl:x<16777216:=by rw[<- hx];exact jfV (fun z hz=>(HZ.out z (List.mem_of_mem_take hz)).2)
  have HX:=zA hx;clear hx;by_cases hlt:i<n
  . have ac:(i:Int)<(n:Int):=by omega
    obtain⟨z,hz⟩:∃z,L[i]?=some z:=⟨_,zB (by rw[<- HN.out];exact hlt)⟩
    obtain⟨g,off,rfl,_,_,aa⟩:=H.out.get hz;have q0:=getZ aa;rw[yC]at q0;obtain⟨h0,af⟩:=HZ.out z (zC hz);obtain⟨p,rfl⟩:∃p:Nat,z=p:=⟨z.toNat,by omega⟩
    have hp:p<24:=by omega
    have C:=zA (jdj p wr (by omega));have ad:=jb7 hp;have HS:Hid (setN (L.take (i+1))=x ||| 2^p):=zA (by
     rw[setN,jix hz];show setN (L.take i) ||| _=_;rw[HX.out];rfl)
    obtain⟨q,ae⟩:=eX (2^p);rw[<- ae]at C HS ad;have hb:bits .or .u32 (x:Int) (q:Int)=((x ||| q:Nat):Int):=u32_or_nat x q (by omega) (by omega);clear ae aa hz h0 af;go_wp2_with fail;refine C.out.mono ?_;rintro e w1 ⟨rfl,rfl⟩;go_wp2;go_roundw
    case rel=>exact⟨i+1,x ||| q,by omega,by go_num,rfl,HS.out,by trivial⟩
    case measure=>simp[intOf];omega
  . have ac:¬(i:Int)<(n:Int):=by omega
    have HF:Hid (ag=x):=zA (by
     rw[HA.out,<- HX.out,zJ (by rw[<- HN.out];omega)])
    go_wp2;go_ret;exact⟨by rw[HF.out];rfl,rfl⟩
theorem jfu(w:World)(o:Obj)(k:Nat):(w.alloc o).heap[k]?=if k=w.heap.size then some o else w.heap[k]?:=by
 unfold World.alloc;rw[Array.getElem?_push]
theorem jak:∀(os:List Obj) (w:World) (k:Nat),k<os.length->(os.foldl World.alloc w).heap[w.heap.size+k]?=os[k]?
 |[],_,k,h=>by simp at h
 |o::os,w,0,_=>by
  have key:∀(os:List Obj) (w:World) (j:Nat),j<w.heap.size->(os.foldl World.alloc w).heap[j]?=w.heap[j]?:=by
   intro os;induction os with
   |nil=>intro w j _;rfl
   |cons o os ih=>intro w j hj;rw[yN,ih (w.alloc o) j (by simp;omega),jfu,if_neg (by omega)]
  rw[yN,key os (w.alloc o) _ (by simp),jfu,if_pos (yA _)];rfl
 |o::os,w,k+1,h=>by
  have:=jak os (w.alloc o) k (by simpa using h);rw[yN,<- show (w.alloc o).heap.size+k=w.heap.size+(k+1) by simp;omega,this];rfl
def behA(a:Au)(p:Nat):Nat:=if p=24 then setN a.first else setN (a.follow.getD p [])
def jgs(a:Au):Nat:=if a.empty=true then setN a.last ||| 16777216 else setN a.last
def atW(a:Au)(s:Wd):Nat:=jdi a.words s a.words.length
def ja9(a:Au)(E:List Eg)(v:Nat):List (Nat×Nat):=E.filterMap fun e=>if e.1=v/\atW a e.2.1≠0 then some (e.2.2,atW a e.2.1)else none
def sdOf(kp:Nat->Prop)(n:Nat)(E:List Eg)(a:Au):Sd:=⟨n,behA a,jgs a,(List.range n).map (ja9 a E),kp⟩
abbrev noK:Nat->Prop:=fun _=>False
def updB(f:Nat->Nat)(j x:Nat):Nat->Nat:=fun i=>if i=j then x else f i
theorem jlw(n l:Nat)(f:Nat->Nat)(st:List (List (Nat×Nat)))(m:Sp)(x:Nat):∀j,j<25->(jaB ⟨n,f,l,st,noK⟩ m).setIfInBounds j (.int .u32 (x:Int))=jaB ⟨n,updB f j x,l,st,noK⟩ m
 |0,_|1,_|2,_|3,_|4,_|5,_|6,_|7,_|8,_|9,_|10,_|11,_|12,_|13,_|14,_|15,_|16,_|17,_|18,_|19,_|20,_|21,_|22,_|23,_|24,_=>by simp[jaB,updB]
 |j+25,h=>by omega
theorem jkI(n l:Nat)(f:Nat->Nat)(st:List (List (Nat×Nat)))(m:Sp)(x:Nat):(jaB ⟨n,f,l,st,noK⟩ m).setIfInBounds 25 (.int .u32 (x:Int))=jaB ⟨n,f,x,st,noK⟩ m:=by
 simp[jaB]
structure SrC (B:Nat) (w:World) (sb stb cb fb n l:Nat) (f:Nat->Nat) (rs:List (Value×List (Nat×Nat))):Prop where
 blk:w.heap[sb]?=some (.cells (jaB ⟨n,f,l,[],noK⟩ ⟨cb,fb,.slice none 0 0,.slice none 0 0,.slice (some ⟨stb,0,none⟩) n n,[]⟩) 116 (0,0))
 came:URow w cb (List.replicate n 0)
 fresh:URow w fb (List.replicate n 0)
 st:VRow w stb 119 (rs.map (·.1))
 len:rs.length=n
 rows:∀r∈rs,w.ownsRow B 121 2 r.1 r.2.length (r.2.flatMap csSt)
 apart:∀(i j:Nat) r q,rs[i]?=some r->rs[j]?=some q->i≠j->∀g,r.1.ownBlock=some g->q.1.ownBlock≠some g
 cf:cb≠fb
 lo:B<=sb/\B<=stb/\B<=cb/\B<=fb
section
variable {B:Nat} {w:World} {sb stb cb fb n l:Nat} {f:Nat->Nat} {rs:List (Value×List (Nat×Nat))}
theorem SrC.below{w':World}(h:SrC B w sb stb cb fb n l f rs)(hb:Below w.heap.size w w'):SrC B w' sb stb cb fb n l f rs:=
 { h with
  blk:=(hb.block sb (lt_of_block h.blk)).trans h.blk
  came:=(hb.block cb (lt_of_block h.came)).trans h.came
  fresh:=(hb.block fb (lt_of_block h.fresh)).trans h.fresh
  st:=h.st.below hb
  rows:=fun r hr=>jao (h.rows r hr) hb }
theorem SrC.setSb{w':World}(h:SrC B w sb stb cb fb n l f rs){l':Nat}{f':Nat->Nat}(hb:w'.heap[sb]?=some (.cells (jaB ⟨n,f',l',[],noK⟩ ⟨cb,fb,.slice none 0 0,.slice none 0 0,.slice (some ⟨stb,0,none⟩) n n,[]⟩) 116 (0,0)))(ho:∀k,k≠sb->w'.heap[k]?=w.heap[k]?):SrC B w' sb stb cb fb n l' f' rs:=
 { h with
  blk:=hb
  came:=(ho cb (fun e=>jbg h.blk h.came (by decide) e.symm)).trans h.came
  fresh:=(ho fb (fun e=>jbg h.blk h.fresh (by decide) e.symm)).trans h.fresh
  st:=(ho stb (fun e=>jbg h.blk h.st (by decide) e.symm)).trans h.st
  rows:=fun r hr=>jae (h.rows r hr) (fun g o hg hg2=>(ho g (fun e=>jan (h.rows r hr) h.blk (by decide) (by rw[hg,e]))).trans hg2) }
theorem SrC.setBeh(h:SrC B w sb stb cb fb n l f rs){j:Nat}(hj:j<25)(x:Nat):SrC B (w.setCell ⟨sb,j,none⟩ (.int .u32 (x:Int))) sb stb cb fb n l (updB f j x) rs:=
 h.setSb (by simp[World.setCell,Array.getElem?_modify,h.blk,jlw _ _ _ _ _ _ j hj]) (fun k hk=>zM _ _ _ _ hk)
theorem SrC.setLast(h:SrC B w sb stb cb fb n l f rs)(x:Nat):SrC B (w.setCell ⟨sb,25,none⟩ (.int .u32 (x:Int))) sb stb cb fb n x f rs:=
 h.setSb (by simp[World.setCell,Array.getElem?_modify,h.blk,jkI]) (fun k hk=>zM _ _ _ _ hk)
theorem SrC.behAt(h:SrC B w sb stb cb fb n l f rs){j:Nat}(hj:j<25):w.cell? ⟨sb,j,none⟩=some (.int .u32 (f j:Int))/\w.frozen? ⟨sb,j,none⟩=false:=by
 have hb:=h.blk;have:=jkY ⟨n,f,l,[],noK⟩ ⟨cb,fb,.slice none 0 0,.slice none 0 0,.slice (some ⟨stb,0,none⟩) n n,[]⟩ j hj;constructor
 . simp[World.cell?,hb,this]
 . simp[World.frozen?,hb]
theorem SrC.cells(h:SrC B w sb stb cb fb n l f rs):w.cell? ⟨sb,25,none⟩=some (.int .u32 (l:Int))/\w.frozen? ⟨sb,25,none⟩=false/\w.cell? ⟨sb,26,none⟩=some (.slice (some ⟨stb,0,none⟩) n n):=by
 have hb:=h.blk;simp[World.cell?,World.frozen?,hb,jaB]
theorem SrC.setRow{w':World}(h:SrC B w sb stb cb fb n l f rs){i:Nat}{r:Value×List (Nat×Nat)}(hi:rs[i]?=some r){v:Value}{L:List (Nat×Nat)}(hk:∀k,k<w.heap.size->r.1.ownBlock≠some k->w'.heap[k]?=w.heap[k]?)(hv:w'.ownsRow B 121 2 v L.length (L.flatMap csSt))(hg:∀g,v.ownBlock=some g->r.1.ownBlock=some g\/w.heap.size<=g):
 SrC B (w'.setCell ⟨stb,i,none⟩ v) sb stb cb fb n l f (rs.set i (v,L)):=by
 have am:=zC hi;have aa:=h.rows r am;have al:=(zE.1 hi).1;have ae:∀j,(rs.set i (v,L))[j]?=if i=j then some (v,L)else rs[j]?:=fun j=>by
  rw[List.getElem?_set];simp[al]
 have ah:=(hk sb (lt_of_block h.blk) (jan aa h.blk (by decide))).trans h.blk;have aj:URow w' cb _:=(hk cb (lt_of_block h.came) (jan aa h.came (by decide))).trans h.came;have ai:URow w' fb _:=(hk fb (lt_of_block h.fresh) (jan aa h.fresh (by decide))).trans h.fresh;have ad:VRow w' stb _ _:=(hk stb (lt_of_block h.st) (jan aa h.st (by decide))).trans h.st;have ho:∀k,k≠stb->(w'.setCell ⟨stb,i,none⟩ v).heap[k]?=w'.heap[k]?:=fun k hk=>zM _ _ _ _ hk
 have ab:∀j q,rs[j]?=some q->j≠i->w'.ownsRow B 121 2 q.1 q.2.length (q.2.flatMap csSt):=fun j q hq hji=>jae (h.rows q (zC hq)) (fun g o hg2 ho2=>(hk g (lt_of_block ho2) (fun e=>h.apart i j r q hi hq (fun e2=>hji e2.symm) g e hg2)).trans ho2)
 have ac:∀ {u:Value} {M:List (Nat×Nat)},w'.ownsRow B 121 2 u M.length (M.flatMap csSt)->(w'.setCell ⟨stb,i,none⟩ v).ownsRow B 121 2 u M.length (M.flatMap csSt):=fun hu=>jae hu (fun g o hg2 ho2=>(ho g (fun e=>jan hu ad (by decide) (by rw[hg2,e]))).trans ho2)
 refine⟨(ho sb (jbg ah ad (by decide))).trans ah,(ho cb (jbg aj ad (by decide))).trans aj,(ho fb (jbg ai ad (by decide))).trans ai,?_,by rw[List.length_set];exact h.len,?_,?_,h.cf,h.lo⟩
 . rw[List.map_set];exact ad.set i v
 . intro q hq;obtain⟨j,hj⟩:=List.getElem?_of_mem hq;rw[ae]at hj;split at hj
   . injection hj with hj;subst hj;exact ac hv
   . rename_i hne;exact ac (ab j q hj (fun e=>hne e.symm))
 . intro a b p q hp hq ak g af ag;rw[ae]at hp hq;split at hp
   . rename_i ea;injection hp with hp;subst hp;rw[if_neg (fun e=>ak (ea.symm.trans e))]at hq;rcases hg g af with h1|h1
     . exact h.apart i b r q hi hq (by omega) g h1 ag
     . have:=(h.rows q (zC hq)).lt g ag;omega
   . rename_i ea;split at hq
     . rename_i eb;injection hq with hq;subst hq;rcases hg g ag with h1|h1
       . exact h.apart a i p r hp hi (by omega) g af h1
       . have:=(h.rows p (zC hp)).lt g af;omega
     . exact h.apart a b p q hp hq ak g af ag
end
def NewE(w:World)(n:Nat)(E:List Eg)(a:Au)(e:Ending)(w':World):Prop:=
 ∃(sb:Nat) (m:Sp) (kp:Nat->Prop),e=.returned (.pointer (some ⟨sb,0,none⟩))/\SrS (fun k=>k<w'.heap.size/\¬OwnB sb m k) w' sb (sdOf kp n E a) ⟨List.replicate n 0,List.replicate n 0,[],[]⟩ m/\(∀k,OwnB sb m k->w.heap.size<=k)/\(∀k,kp k->w.heap.size<=k/\k<w'.heap.size)/\Below w.heap.size w w'
theorem jhJ(d:Sd):Rest d ⟨List.replicate d.n 0,List.replicate d.n 0,[],[]⟩:=by
 have hz:∀v,(List.replicate d.n 0).getD v 0=0:=fun v=>by
  rw[List.getD,List.getElem?_replicate];split<;>rfl
 exact⟨by simp,by simp,fun x hx=>by rw[List.eq_of_mem_replicate hx];omega,hz,rfl,fun v hv=>absurd (hz v) hv,by simp,by simp,by simp,by simp⟩
theorem SrC.done{B:Nat}{w:World}{sb stb cb fb n l:Nat}{f:Nat->Nat}{rs:List (Value×List (Nat×Nat))}(h:SrC B w sb stb cb fb n l f rs){d:Sd}(hd:d.Ok)(e1:d.n=n)(e2:∀j,j<25->d.beh j=f j)(e3:d.last=l)(e4:d.steps=rs.map (·.2))(e5:∀k,d.kp k↔(k=stb\/∃r∈rs,r.1.ownBlock=some k)):
 SrS (fun k=>k<w.heap.size/\¬OwnB sb ⟨cb,fb,.slice none 0 0,.slice none 0 0,.slice (some ⟨stb,0,none⟩) n n,rs⟩ k) w sb d ⟨List.replicate d.n 0,List.replicate d.n 0,[],[]⟩ ⟨cb,fb,.slice none 0 0,.slice none 0 0,.slice (some ⟨stb,0,none⟩) n n,rs⟩:=by
 have aa:jaB d ⟨cb,fb,.slice none 0 0,.slice none 0 0,.slice (some ⟨stb,0,none⟩) n n,rs⟩=jaB ⟨n,f,l,[],noK⟩ ⟨cb,fb,.slice none 0 0,.slice none 0 0,.slice (some ⟨stb,0,none⟩) n n,[]⟩:=by
  unfold jaB;simp only[e1,e3];rw[e2 0 (by omega),e2 1 (by omega),e2 2 (by omega),e2 3 (by omega),e2 4 (by omega),e2 5 (by omega),e2 6 (by omega),e2 7 (by omega),e2 8 (by omega),e2 9 (by omega),e2 10 (by omega),e2 11 (by omega),e2 12 (by omega),e2 13 (by omega),e2 14 (by omega),e2 15 (by omega),e2 16 (by omega),e2 17 (by omega),e2 18 (by omega),e2 19 (by omega),e2 20 (by omega),e2 21 (by omega),e2 22 (by omega),e2 23 (by omega),e2 24 (by omega)]
 have ab:∀k,k≠sb->k≠cb->k≠fb->¬OwnB sb ⟨cb,fb,.slice none 0 0,.slice none 0 0,.slice (some ⟨stb,0,none⟩) n n,rs⟩ k:=fun k h1 h2 h3 h4=>by
  rcases h4 with h4|h4|h4|h4|h4
  . exact h1 h4
  . exact h2 h4
  . exact h3 h4
  . simp[Value.ownBlock]at h4
  . simp[Value.ownBlock]at h4
 have ac:∀k,d.kp k->k<w.heap.size/\¬OwnB sb ⟨cb,fb,.slice none 0 0,.slice none 0 0,.slice (some ⟨stb,0,none⟩) n n,rs⟩ k:=fun k hk=>by
  rcases (e5 k).1 hk with hk|⟨r,hr,hb⟩
  . subst hk;exact⟨lt_of_block h.st,ab _ (fun e=>jbg h.blk h.st (by decide) e.symm) (fun e=>jbg h.came h.st (by decide) e.symm) (fun e=>jbg h.fresh h.st (by decide) e.symm)⟩
  . exact⟨((h.rows r hr).lt k hb).2,ab _ (fun e=>jan (h.rows r hr) h.blk (by decide) (by rw[hb,e])) (fun e=>jan (h.rows r hr) h.came (by decide) (by rw[hb,e])) (fun e=>jan (h.rows r hr) h.fresh (by decide) (by rw[hb,e]))⟩
 refine⟨by rw[aa];exact h.blk,by rw[e1];exact h.came,by rw[e1];exact h.fresh,⟨rfl,.inl ⟨rfl,rfl⟩⟩,⟨rfl,.inl ⟨rfl,rfl⟩⟩,fun hk=>hk.2 (.inl rfl),fun hk=>hk.2 (.inr (.inl rfl)),fun hk=>hk.2 (.inr (.inr (.inl rfl))),by intro g hg;simp[Value.ownBlock]at hg,by intro g hg;simp[Value.ownBlock]at hg,h.cf,by intro g hg;simp[Value.ownBlock]at hg,?_,fun r hr=>?_,ac,e4.symm,hd⟩
 . have h1:=h.st;rw[<- jb6]at h1;exact(h1.sl jaU h.len.symm).sub (fun b hb _=>(e5 b).2 (.inl hb))
 . exact(jaD jkm (h.rows r hr) rfl).sub (fun b hb _=>(e5 b).2 (.inr ⟨r,hr,hb⟩))
abbrev csGr(p:Nat×Rw):List Value:=[.slice (some ⟨p.1,0,none⟩) p.2.length p.2.length]
def RBlk(w:World)(p:Nat×Rw):Prop:=w.heap[p.1]?=some (.cells (p.2.map fun s=>Value.string ⟨s.toArray⟩).toArray 9 (0,0))
structure RowO (B:Nat) (w:World) (u:Value) (gs:List (Nat×Rw)):Prop where
 row:w.ownsRow B 34 1 u gs.length (gs.flatMap csGr)
 blk:∀p∈gs,RBlk w p
theorem RBlk.txt{w:World}{p:Nat×Rw}(h:RBlk w p):TxtS (fun _=>True) w (.slice (some ⟨p.1,0,none⟩) p.2.length p.2.length) p.2:=by
 have h:w.heap[p.1]?=_:=h;refine⟨_,_,rfl,.inr ⟨p.1,0,rfl,trivial,lt_of_block h,fun j x hx c u hu=>?_⟩⟩;have hc:c=0:=by
  have:=(zE.1 hu).1;simp at this;exact this
 subst hc;simp at hu;subst hu;have hj:(p.2.map fun s=>Value.string ⟨s.toArray⟩).toArray[j]?=some (.string ⟨x.toArray⟩):=by simp[hx]
 simp only[World.cell?,h,Nat.zero_add,yC,yA];exact hj
theorem RowO.rows{B:Nat}{w:World}{u:Value}{gs:List (Nat×Rw)}(h:RowO B w u gs)(hl:∀p∈gs,p.2.length<=1000000):jbq w u (gs.map (·.2)):=by
 refine⟨gs.map (fun p=>(.slice (some ⟨p.1,0,none⟩) p.2.length p.2.length,p.2)),⟨?_,by rw[zH];exact jbs h.row,fun p hp=>?_⟩,by rw[List.map_map];rfl⟩
 . refine Src.own jaw (B:=B) (e:=34) (n:=gs.length) ?_ (by simp);have e:(gs.map (fun p=>((Value.slice (some ⟨p.1,0,none⟩) p.2.length p.2.length,p.2):Value×Rw))).flatMap csRw=gs.flatMap csGr:=by rw[List.flatMap_map]
   rw[e];exact h.row
 . obtain⟨q,hq,rfl⟩:=zV.1 hp;exact⟨(h.blk q hq).txt,hl q hq⟩
theorem RowO.below{B:Nat}{w w':World}{u:Value}{gs:List (Nat×Rw)}(h:RowO B w u gs)(hb:Below w.heap.size w w'):RowO B w' u gs:=⟨jao h.row hb,fun p hp=>(hb.block p.1 (lt_of_block (h.blk p hp))).trans (h.blk p hp)⟩
def jdL(V:List Wd)(m:Mt)(i k:Nat):List Rw:=((List.range k).filter fun j=>m i j).map fun j=>[V.getD i [],V.getD j []]
def jbk(V:List Wd)(m:Mt)(i:Nat):List Rw:=(List.range i).flatMap fun i'=>jdL V m i' V.length
theorem jdM(V:List Wd)(m:Mt)(i:Nat):jbk V m (i+1)=jbk V m i++jdL V m i V.length:=by
 unfold jbk;rw[List.range_succ,zP];simp
theorem jhu(V:List Wd)(m:Mt)(i k:Nat):(jdL V m i k).length<=k:=by
 unfold jdL;rw[zH];exact zT (yH _ _) (by simp)
theorem jej(V:List Wd)(m:Mt):∀i,(jbk V m i).length<=i*V.length
 |0=>by simp[jbk]
 |i+1=>by
  rw[jdM,zG,Nat.succ_mul];have:=jej V m i;have:=jhu V m i V.length;omega
theorem jfp{V:List Wd}(hV:ja2 less V){m:Mt}{R:Wd->Wd->Prop}(h:jbD V m R):ja2 jaE (jbk V m V.length)/\∀r,r∈jbk V m V.length↔∃x y,r=[x,y]/\x∈V/\y∈V/\R x y:=by
 have aa:∀i,i<V.length->V[i]?=some (V.getD i []):=fun i hi=>by
  rw[List.getD,zB hi];rfl
 constructor
 . unfold ja2 jbk;rw[List.pairwise_flatMap];constructor
   . intro i hi;have hi:=yK.1 hi;unfold jdL;rw[List.pairwise_map];refine List.Pairwise.filter _ ?_;refine List.Pairwise.imp_of_mem ?_ (List.pairwise_lt_range (n:=V.length));intro a b ha hb ac;have ha:=yK.1 ha;have hb:=yK.1 hb;rw[jaE,if_pos rfl,jaE];have hl:=hV.lt_at ordW (aa a ha) (aa b hb) ac;rw[if_neg (ordW.ne hl)];exact hl
   . refine List.Pairwise.imp_of_mem ?_ (List.pairwise_lt_range (n:=V.length));intro a b ha hb ac r hr s hs;have ha:=yK.1 ha;have hb:=yK.1 hb;obtain⟨j,_,rfl⟩:=zV.1 hr;obtain⟨k,_,rfl⟩:=zV.1 hs;have hl:=hV.lt_at ordW (aa a ha) (aa b hb) ac;rw[jaE,if_neg (ordW.ne hl)];exact hl
 . intro r;constructor
   . intro hr;obtain⟨i,hi,h2⟩:=List.mem_flatMap.1 hr;have hi:=yK.1 hi;obtain⟨k,hk,rfl⟩:=zV.1 h2;rw[zY]at hk;have ab:=yK.1 hk.1;exact⟨_,_,rfl,zC (aa i hi),zC (aa k ab),(h i k _ _ (aa i hi) (aa k ab)).1 hk.2⟩
   . rintro⟨x,y,rfl,hx,hy,hR⟩;obtain⟨i,hi⟩:=List.getElem?_of_mem hx;obtain⟨k,hk⟩:=List.getElem?_of_mem hy;have ad:=(zE.1 hi).1;have ab:=(zE.1 hk).1;refine List.mem_flatMap.2 ⟨i,yK.2 ad,zV.2 ⟨k,?_,?_⟩⟩
     . rw[zY];exact⟨yK.2 ab,(h i k x y hi hk).2 hR⟩
     . have e1:=aa i ad;have e2:=aa k ab;rw[hi]at e1;rw[hk]at e2;injection e1 with e1;injection e2 with e2;rw[<- e1,<- e2]
def jdh(fs:List Fa)(p:Pt):List Rw:=jbk (jac fs) (jaq fs (jac fs) p) (jac fs).length
theorem jcX(fs:List Fa){p:Pt}(h:mayP p=true):ja2 jaE (jdh fs p)/\∀r,r∈jdh fs p↔∃x y,r=[x,y]/\jbJ fs p x y:=by
 simp only[mayP,Bool.and_eq_true,decide_eq_true_eq]at h;obtain⟨h1,h2⟩:=jfp (jaY fs) (je6 fs p 12 h.1);refine⟨h1,fun r=>?_⟩;rw[jdh,h2];constructor
 . rintro⟨x,y,e,_,_,h⟩;exact⟨x,y,e,h⟩
 . rintro⟨x,y,e,h⟩;exact⟨x,y,e,h.1,jbX h,h⟩
theorem IsM.keep{w w':World}{v:Value}{n:Nat}{m:Mt}(h:IsM w v n m)(hz:w.heap.size<=w'.heap.size)(hk:∀(b:Nat) (cs:Array Value) (t:TypeId) (fz:Nat×Nat),w.heap[b]?=some (Obj.cells cs t fz)->t=80\/t=4->w'.heap[b]?=w.heap[b]?):IsM w' v n m:=by
 obtain⟨gs,hs⟩:=h;refine⟨gs,hs.len,?_,fun i g hg=>?_,fun b aa N c e=>?_⟩
 . obtain⟨a,c,hv⟩:=hs.sl.slice;obtain⟨ao,N,e1,e2⟩:=hs.sl;refine⟨ao,N,e1,?_⟩;rcases e2 with e2|⟨g,aa,h1,h2,h3,h4⟩
   . exact .inl e2
   . refine .inr ⟨g,aa,h1,h2,zQ h3 hz,fun j x hx c u hu=>?_⟩;have h5:=h4 j x hx c u hu;obtain⟨cs,fz,hc⟩:=hs.ty g aa _ _ (by rw[e1,h1]);have h6:=hk g cs _ fz hc (.inl rfl);simp only[World.cell?,h6]at h5 ⊢;exact h5
 . have h1:w.heap[g]?=_:=hs.ats i g hg;exact(hk g _ _ _ h1 (.inr rfl)).trans h1
 . obtain⟨cs,fz,hc⟩:=hs.ty b aa N c e;exact⟨cs,fz,(hk b cs _ fz hc (.inl rfl)).trans hc⟩
abbrev csMx(p:Value×Mt):List Value:=[p.1]
theorem jks(x:Value×Mt):(csMx x).length=1:=rfl
structure AllO (B:Nat) (w:World) (u:Value) (n:Nat) (ms:List (Value×Mt)):Prop where
 row:w.ownsRow B 78 1 u ms.length (ms.flatMap csMx)
 mats:∀p∈ms,IsM w p.1 n p.2
theorem AllO.nil(B:Nat)(w:World)(n:Nat):AllO B w (.slice none 0 0) n []:=⟨World.ownsRow_nil _ _ _ _,by simp⟩
theorem AllO.below{B:Nat}{w w':World}{u:Value}{n:Nat}{ms:List (Value×Mt)}(h:AllO B w u n ms)(hb:Below w.heap.size w w'):AllO B w' u n ms:=⟨jao h.row hb,fun p hp=>(h.mats p hp).below hb⟩
theorem AllO.grow{B:Nat}{w wg w9:World}{u u' v:Value}{n:Nat}{m:Mt}{ms:List (Value×Mt)}(h:AllO B w u n ms)(hm:IsM w v n m)(hb:Below w.heap.size w wg)(hg:wg.grownBy w9 u.ownBlock)
 (ho:w9.ownsRow B 78 1 u' (ms++[(v,m)]).length ((ms++[(v,m)]).flatMap csMx)):AllO B w9 u' n (ms++[(v,m)]):=by
 have hk:∀(b:Nat) (cs:Array Value) (t:TypeId) (fz:Nat×Nat),w.heap[b]?=some (Obj.cells cs t fz)->t=80\/t=4->w9.heap[b]?=w.heap[b]?:=fun b cs t fz hc ht=>by
  have ab:u.ownBlock≠some b:=jdF h.row hc (by
   rcases ht with rfl|rfl<;>decide)
  have aa:=lt_of_block hc;rw[hg.block b (zQ aa hb.size) (fun e=>ab e.symm),hb.block b aa]
 have hz:w.heap.size<=w9.heap.size:=zT hb.size hg.size;refine⟨ho,fun p hp=>?_⟩;rcases zL.1 hp with hp|hp
 . exact(h.mats p hp).keep hz hk
 . simp at hp;subst hp;exact hm.keep hz hk
theorem AllO.at_{B:Nat}{w:World}{ao:Option Addr}{N cap n i:Nat}{v:Value}{m:Mt}{ms:List (Value×Mt)}(h:AllO B w (.slice ao N cap) n ms)(hi:ms[i]?=some (v,m)):∃b off,ao=some ⟨b,off,none⟩/\b<w.heap.size/\w.cell? ⟨b,off+i,none⟩=some v/\IsM w v n m:=by
 obtain⟨b,off,e,_,hb,hc⟩:=(jaD jks h.row rfl).get hi;have aa:=hc 0 _ rfl;rw[yC,yA]at aa;exact⟨b,off,e,hb,aa,h.mats _ (zC hi)⟩
end Go.Proofs.YtkbgmcmcpbegjaaGreatDoor
