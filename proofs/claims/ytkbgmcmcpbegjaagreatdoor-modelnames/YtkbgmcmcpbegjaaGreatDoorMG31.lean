/- BPath, MMem. -/
import Derived.Test.YtkbgmcmcpbegjaaGreatDoorMG16
import Derived.Test.YtkbgmcmcpbegjaaGreatDoorMG26
import Derived.OwnWalk
import Derived.Laws.OwnMore
set_option maxRecDepth 100000
namespace Go.Proofs.YtkbgmcmcpbegjaaGreatDoor
open Go.RowKit
theorem mayRq_path(t:Pt):mayRq ⟨1,[[120]],[((true,[120]),t,(true,[120]))],[]⟩=mayP t:=by
 have hn:namesP [((true,[120]),t,(true,[120]))]=[[120]]:=by simp[namesP,addN]
 have hw:wordsA ((true,[120]),t,(true,[120]))=true:=by
  simp only[wordsA,Bool.and_self];rfl
 cases hm:mayP t with
 |false=>simp[mayRq,mayQ,whyQ,hm]
 |true=>simp[mayRq,mayQ,whyQ,hm,hn,hw]
theorem one_txt{w:World}{g:Nat}{s:List UInt8}(hl:g<w.heap.size)(h:w.cell? ⟨g,0,none⟩=some (.string ⟨s.toArray⟩)):TxtS (fun _=>True) w (.slice (some ⟨g,0,none⟩) 1 1) [s]:=
 ⟨_,1,rfl,.inr ⟨g,0,rfl,trivial,hl,fun j x hx c u hu=>by
  have hj:j=0:=by have:=(zF.1 hx).1;simpa using this
  subst hj;simp at hx;subst hx;have hc:c=0:=by have:=(zF.1 hu).1;simpa using this
  subst hc;simp at hu;subst hu;exact h⟩⟩
theorem one_at{w:World}{g:Nat}{a:Am}(hl:g<w.heap.size)(h:∀c,c<7->w.cell? ⟨g,c,none⟩=(csA a)[c]?):AtsS (fun _=>True) w (.slice (some ⟨g,0,none⟩) 1 1) [a]:=
 ⟨_,1,rfl,.inr ⟨g,0,rfl,trivial,hl,fun j x hx c u hu=>by
  have hj:j=0:=by have:=(zF.1 hx).1;simpa using this
  subst hj;simp at hx;subst hx;have hc:c<7:=by have:=(zF.1 hu).1;simpa using this
  rw[Nat.zero_mul,Nat.zero_add,h c hc];exact hu⟩⟩
set_option maxHeartbeats 2000000 in
theorem pathMay_any{S:Nat->Prop}{w:World}{t:Vt}(h:VOk S w t):
 Calls Tryz.prog 51 #[encN t] w fun e w'=>e=.returned (.bool (mayP t.pt))/\Below w.heap.size w w':=by
 obtain⟨ao,cap,hv⟩:=h.parts.1.slice;have hkl:=h.parts.2.2.1;obtain⟨b,hb⟩:∃b,b=mayP t.pt:=⟨_,rfl⟩
 rw[<- hb];have HB:=zA hb;clear hb;have H:=zA h;obtain⟨k,wd,v,l⟩:=t;dsimp only at hv hkl;subst hv;clear h;show Calls Tryz.prog _ #[.agg #[.int .i64 k,.string ⟨wd.toArray⟩,.slice ao l.length cap]] w _;obtain⟨n,hn⟩:∃n,n=l.length:=⟨_,rfl⟩
 have HN:=zA hn;rw[<- hn]at H hkl ⊢;clear hn;have C:Hid (∀u,Below w.heap.size w u->w.heap.size+1+1+1<u.heap.size->u.cell? ⟨w.heap.size+1+1,0,none⟩=some (.string ⟨#[120]⟩)->(∀c,c<7->u.cell? ⟨w.heap.size+1+1+1,c,none⟩=(#[.bool true,.string ⟨#[120]⟩,.int .i64 k,.string ⟨wd.toArray⟩,.slice ao n cap,.bool true,.string ⟨#[120]⟩]:Array Value)[c]?)->
  Calls Tryz.prog 40 #[.agg #[.int .i64 1,.slice (some ⟨w.heap.size+1+1,0,none⟩) 1 1,.slice (some ⟨w.heap.size+1+1+1,0,none⟩) 1 1,.slice none 0 0]] u fun e w'=>e=.returned (.int .i64 (if b=true then 0 else 1))/\Below u.heap.size u w'):=zA (fun u hu hsz h1 h2=>by
  have hok:ROk (fun _=>True) u ⟨1,⟨.slice (some ⟨w.heap.size+1+1,0,none⟩) 1 1,[[120]],.slice (some ⟨w.heap.size+1+1+1,0,none⟩) 1 1,[((true,[120]),⟨k,wd,.slice ao n cap,l⟩,(true,[120]))]⟩,.slice none 0 0,[]⟩:=by
   refine⟨⟨one_txt (by omega) h1,by simp,by simp,⟨_,1,rfl,by simp⟩,one_at hsz (fun c hc=>?_),?_,?_,by simp⟩,SlS.nil _ _,by simp,by simp⟩
   . rw[h2 c hc];simp
   . intro a ha;simp at ha;subst ha;exact(H.out.below hu).sub (fun _ _ _=>trivial)
   . intro a ha;simp at ha;subst ha;exact⟨by simp,by simp⟩
  have:=check_any hok;have e:mayRq (Rm.rq ⟨1,⟨.slice (some ⟨w.heap.size+1+1,0,none⟩) 1 1,[[120]],.slice (some ⟨w.heap.size+1+1+1,0,none⟩) 1 1,[((true,[120]),⟨k,wd,.slice ao n cap,l⟩,(true,[120]))]⟩,.slice none 0 0,[]⟩)=b:=by
   have h3:=mayRq_path (Vt.pt ⟨k,wd,.slice ao n cap,l⟩);rw[HB.out,<- HN.out,<- h3];rfl
  rw[e]at this;exact this)
 clear H HB HN;cases b with
 |true=>
  go_enter Tryz.func51,Tryz.ntmps51;go_wp2_with fail;refine(C.out _ ?b1 ?b2 ?b3 ?b4).mono ?_
  case b1=>exact((((((zE _ _).alloc (zD _) _).alloc (by simp) _).alloc (by simp;omega) _).alloc (by simp;omega) _).alloc (by simp;omega) _)
  case b2=>simp
  case b3=>simp[go_sem]
  case b4=>intro c hc;rw[World.cell?_alloc_past _ _ _ (by simp),World.cell?_alloc_at _ _ _ _ (by simp)]
  rintro e w1 ⟨rfl,hb1⟩;have HB1:=zA hb1;clear hb1;go_wp2;go_ret;refine⟨rfl,?_⟩;exact((((((zE _ _).alloc (zD _) _).alloc (by simp) _).alloc (by simp;omega) _).alloc (by simp;omega) _).alloc (by simp;omega) _).trans (HB1.out.mono (by simp;omega))
 |false=>
  go_enter Tryz.func51,Tryz.ntmps51;go_wp2_with fail;refine(C.out _ ?b1 ?b2 ?b3 ?b4).mono ?_
  case b1=>exact((((((zE _ _).alloc (zD _) _).alloc (by simp) _).alloc (by simp;omega) _).alloc (by simp;omega) _).alloc (by simp;omega) _)
  case b2=>simp
  case b3=>simp[go_sem]
  case b4=>intro c hc;rw[World.cell?_alloc_past _ _ _ (by simp),World.cell?_alloc_at _ _ _ _ (by simp)]
  rintro e w1 ⟨rfl,hb1⟩;have HB1:=zA hb1;clear hb1;go_wp2;go_ret;refine⟨rfl,?_⟩;exact((((((zE _ _).alloc (zD _) _).alloc (by simp) _).alloc (by simp;omega) _).alloc (by simp;omega) _).alloc (by simp;omega) _).trans (HB1.out.mono (by simp;omega))
end Go.Proofs.YtkbgmcmcpbegjaaGreatDoor
namespace Go.Proofs.YtkbgmcmcpbegjaaGreatDoor
open Go.RowKit Go.Shelf
theorem own_neM{w:World}{B n b:Nat}{e t:TypeId}{size:Nat}{v:Value}{xs:List Value}{cs:Array Value}{fz:Nat×Nat}(h:w.ownsRow B e size v n xs)(hb:w.heap[b]?=some (.cells cs t fz))(hne:e≠t):v.ownBlock≠some b:=by
 intro hv;rcases h.2 with⟨rfl,_⟩|⟨g,cap,cur,rfl,_,e3,_⟩
 . simp[Value.ownBlock]at hv
 . have:g=b:=by simpa[Value.ownBlock]using hv
   subst this;rw[hb]at e3;injection e3 with e3;injection e3 with _ e4;exact hne e4.symm
def bCells(n:Nat)(f:Nat->Bool):Array Value:=((List.range n).map fun k=>Value.bool (f k)).toArray
theorem bCells_size(n:Nat)(f:Nat->Bool):(bCells n f).size=n:=by simp[bCells]
theorem bCells_get{n k:Nat}(f:Nat->Bool)(h:k<n):(bCells n f)[k]?=some (.bool (f k)):=by
 simp[bCells,h]
theorem bCells_congr{n:Nat}{f f':Nat->Bool}(h:∀k,k<n->f k=f' k):bCells n f=bCells n f':=by
 unfold bCells;congr 1;exact yS (fun k hk=>by rw[h k (yJ.1 hk)])
theorem bCells_set{n k:Nat}(f:Nat->Bool)(b:Bool):(bCells n f).setIfInBounds k (.bool b)=bCells n (fun j=>if j=k then b else f j):=by
 apply Array.ext_getElem?;intro j;rw[Array.getElem?_setIfInBounds,bCells_size];by_cases hj:j<n
 . rw[bCells_get _ hj,bCells_get _ hj];by_cases e:k=j
   . subst e;simp[hj]
   . rw[if_neg e,if_neg (fun x=>e x.symm)]
 . have h1:(bCells n f)[j]?=none:=by rw[Array.getElem?_eq_none];rw[bCells_size];omega
   have h2:(bCells n (fun j=>if j=k then b else f j))[j]?=none:=by rw[Array.getElem?_eq_none];rw[bCells_size];omega
   rw[h1,h2];split
   . split
     . omega
     . rfl
   . rfl
def BRow(w:World)(g n:Nat)(f:Nat->Bool):Prop:=w.heap[g]?=some (.cells (bCells n f) 4 (0,0))
theorem BRow.cell{w:World}{g n k:Nat}{f:Nat->Bool}(h:BRow w g n f)(hk:k<n):w.cell? ⟨g,k,none⟩=some (.bool (f k))/\w.frozen? ⟨g,k,none⟩=false:=by
 have h:w.heap[g]?=_:=h;have h2:=bCells_get f hk;constructor
 . simp[World.cell?,h,h2]
 . simp[World.frozen?,h]
theorem BRow.congr{w:World}{g n:Nat}{f f':Nat->Bool}(h:BRow w g n f)(e:∀k,k<n->f k=f' k):BRow w g n f':=by
 unfold BRow at h ⊢;rw[h,bCells_congr e]
theorem BRow.set{w:World}{g n k:Nat}{f:Nat->Bool}(h:BRow w g n f)(b:Bool):BRow (w.setCell ⟨g,k,none⟩ (.bool b)) g n (fun j=>if j=k then b else f j):=by
 unfold BRow at h ⊢;simp[World.setCell,Array.getElem?_modify,h,bCells_set]
abbrev csG(n:Nat)(g:Nat):List Value:=[.slice (some ⟨g,0,none⟩) n n]
theorem csG_len(n g:Nat):(csG n g).length=1:=rfl
structure MatO (B:Nat) (w:World) (v:Value) (n:Nat) (gs:List Nat) (m:Mt):Prop where
 row:w.ownsRow B 80 1 v gs.length (gs.flatMap (csG n))
 nd:gs.Nodup
 lo:∀g∈gs,B<=g
 ats:∀i g,gs[i]?=some g->BRow w g n (m i)
structure MatS (w:World) (v:Value) (n:Nat) (m:Mt) (gs:List Nat):Prop where
 len:gs.length=n
 sl:SlS (csG n) 1 (fun _=>True) w v gs
 ats:∀i g,gs[i]?=some g->BRow w g n (m i)
 ty:∀b off N c,v=.slice (some ⟨b,off,none⟩) N c->∃cs fz,w.heap[b]?=some (.cells cs 80 fz)
theorem MatS.below{w w':World}{v:Value}{n:Nat}{m:Mt}{gs:List Nat}(h:MatS w v n m gs)(hb:Below w.heap.size w w'):MatS w' v n m gs:=
 ⟨h.len,h.sl.below hb,fun i g hg=>(hb.block g (lt_of_block (h.ats i g hg))).trans (h.ats i g hg),fun b off N c e=>by
  obtain⟨cs,fz,hc⟩:=h.ty b off N c e;exact⟨cs,fz,(hb.block b (lt_of_block hc)).trans hc⟩⟩
theorem MatS.congr{w:World}{v:Value}{n:Nat}{m m':Mt}{gs:List Nat}(h:MatS w v n m gs)(e:∀i k,i<n->k<n->m i k=m' i k):MatS w v n m' gs:=
 ⟨h.len,h.sl,fun i g hg=>(h.ats i g hg).congr (fun k hk=>e i k (by have:=(zF.1 hg).1;rw[h.len]at this;exact this) hk),h.ty⟩
theorem MatO.congr{B:Nat}{w:World}{v:Value}{n:Nat}{m m':Mt}{gs:List Nat}(h:MatO B w v n gs m)(hl:gs.length=n)(e:∀i k,i<n->k<n->m i k=m' i k):MatO B w v n gs m':=
 ⟨h.row,h.nd,h.lo,fun i g hg=>(h.ats i g hg).congr (fun k hk=>e i k (by have:=(zF.1 hg).1;omega) hk)⟩
theorem MatO.read{B:Nat}{w:World}{v:Value}{n:Nat}{m:Mt}{gs:List Nat}(h:MatO B w v n gs m)(hl:gs.length=n):MatS w v n m gs:=
 ⟨hl,(own_sl (csG_len n) h.row rfl).sub (fun _ _ _=>trivial),h.ats,fun b off N c e=>by
  rcases h.row.2 with⟨h0,_⟩|⟨g,cap,cur,e1,_,e3,_⟩
  . rw[h0]at e;cases e
  . rw[e1]at e;injection e with e;injection e with e;injection e with e;subst e;exact⟨_,_,e3⟩⟩
theorem MatO.below{B:Nat}{w w':World}{v:Value}{n:Nat}{m:Mt}{gs:List Nat}(h:MatO B w v n gs m)(hb:Below w.heap.size w w'):MatO B w' v n gs m:=
 ⟨owns_below h.row hb,h.nd,h.lo,fun i g hg=>(hb.block g (lt_of_block (h.ats i g hg))).trans (h.ats i g hg)⟩
def updM(m:Mt)(i k:Nat)(b:Bool):Mt:=fun i' k'=>if i'=i/\k'=k then b else m i' k'
theorem MatO.set{B:Nat}{w:World}{v:Value}{n i k g:Nat}{m:Mt}{gs:List Nat}(h:MatO B w v n gs m)(hg:gs[i]?=some g)(b:Bool):MatO B (w.setCell ⟨g,k,none⟩ (.bool b)) v n gs (updM m i k b):=by
 have hrow:=h.ats i g hg;refine⟨owns_key h.row (fun g' o hg' ho=>(zN _ _ _ _ (fun e2=>own_neM h.row hrow (by decide) (by rw[hg',show g'=g from e2]))).trans ho),h.nd,h.lo,fun j g' hg'=>?_⟩;by_cases e:j=i
 . subst e;rw[hg]at hg';injection hg' with hg';subst hg';refine(hrow.set (k:=k) b).congr (fun k' _=>?_);simp[updM]
 . have hne:g'≠g:=fun e2=>by
    subst e2;have h1:=(zF.1 hg).1;have h2:=(zF.1 hg').1;exact e ((List.getElem?_inj h2 h.nd).1 (by rw[hg,hg']))
   have h1:BRow (w.setCell ⟨g,k,none⟩ (.bool b)) g' n (m j):=(zN _ _ _ _ (fun e2=>hne (show g'=g from e2))).trans (h.ats j g' hg');exact h1.congr (fun k' _=>by simp[updM,e])
theorem MatS.at_{w:World}{ao:Option Addr}{n cap i:Nat}{N:Nat}{m:Mt}{gs:List Nat}(h:MatS w (.slice ao N cap) n m gs)(hi:i<n):∃b off g,ao=some ⟨b,off,none⟩/\gs[i]?=some g/\b<w.heap.size/\w.cell? ⟨b,off+i,none⟩=some (.slice (some ⟨g,0,none⟩) n n)/\g<w.heap.size/\∀k,k<n->w.cell? ⟨g,k,none⟩=some (.bool (m i k))/\w.frozen? ⟨g,k,none⟩=false:=by
 obtain⟨g,hg⟩:∃g,gs[i]?=some g:=⟨_,zB (by rw[h.len];exact hi)⟩
 obtain⟨b,off,e,_,hb,hc⟩:=h.sl.get hg;have hc0:=hc 0 _ rfl;rw[yD,yA]at hc0;exact⟨b,off,g,e,hg,hb,hc0,lt_of_block (h.ats i g hg),fun k hk=>(h.ats i g hg).cell hk⟩
def IsO(B:Nat)(w:World)(v:Value)(n:Nat)(m:Mt):Prop:=∃gs:List Nat,gs.length=n/\MatO B w v n gs m
def IsM(w:World)(v:Value)(n:Nat)(m:Mt):Prop:=∃gs:List Nat,MatS w v n m gs
theorem IsO.read{B:Nat}{w:World}{v:Value}{n:Nat}{m:Mt}(h:IsO B w v n m):IsM w v n m:=by
 obtain⟨gs,h1,h2⟩:=h;exact⟨gs,h2.read h1⟩
theorem IsM.below{w w':World}{v:Value}{n:Nat}{m:Mt}(h:IsM w v n m)(hb:Below w.heap.size w w'):IsM w' v n m:=by
 obtain⟨gs,h1⟩:=h;exact⟨gs,h1.below hb⟩
theorem IsM.congr{w:World}{v:Value}{n:Nat}{m m':Mt}(h:IsM w v n m)(e:∀i k,i<n->k<n->m i k=m' i k):IsM w v n m':=by
 obtain⟨gs,h1⟩:=h;exact⟨gs,h1.congr e⟩
end Go.Proofs.YtkbgmcmcpbegjaaGreatDoor
