/- MMem, MRow, MPutR. -/
import Derived.Test.YtkbgmcmcpbegjaaGreatDoorZR11
import Derived.OwnWalk
set_option maxRecDepth 100000
set_option maxHeartbeats 16000000
namespace Go.Proofs.YtkbgmcmcpbegjaaGreatDoor
open Go.RowKit Go.Shelf
theorem jdF{w:World}{B n b:Nat}{e t:TypeId}{size:Nat}{v:Value}{xs:List Value}{cs:Array Value}{fz:Nat×Nat}(h:w.ownsRow B e size v n xs)(hb:w.heap[b]?=some (.cells cs t fz))(hne:e≠t):v.ownBlock≠some b:=by
 intro hv;rcases h.2 with⟨rfl,_⟩|⟨g,cap,cur,rfl,_,e3,_⟩
 . simp[Value.ownBlock]at hv
 . have:g=b:=by simpa[Value.ownBlock]using hv
   subst this;rw[hb]at e3;injection e3 with e3;injection e3 with _ e4;exact hne e4.symm
theorem jjL{w3 w9:World}{o:Obj}{row:Option Nat}{mb:Nat}(hg:(w3.alloc o).grownBy w9 row)(hlt:mb<w3.heap.size)(hne:row≠some mb):w9.heap[mb]?=w3.heap[mb]?:=by
 rw[hg.block mb (by simp;omega) (fun e=>hne e.symm),heap_alloc_old _ _ hlt]
def jbP(n:Nat)(f:Nat->Bool):Array Value:=((List.range n).map fun k=>Value.bool (f k)).toArray
theorem jcf(n:Nat)(f:Nat->Bool):(jbP n f).size=n:=by simp[jbP]
theorem jcB{n k:Nat}(f:Nat->Bool)(h:k<n):(jbP n f)[k]?=some (.bool (f k)):=by
 simp[jbP,h]
theorem jgM{n:Nat}{f f':Nat->Bool}(h:∀k,k<n->f k=f' k):jbP n f=jbP n f':=by
 unfold jbP;congr 1;exact yR (fun k hk=>by rw[h k (yK.1 hk)])
theorem jim{n k:Nat}(f:Nat->Bool)(b:Bool):(jbP n f).setIfInBounds k (.bool b)=jbP n (fun j=>if j=k then b else f j):=by
 apply Array.ext_getElem?;intro j;rw[Array.getElem?_setIfInBounds,jcf];by_cases hj:j<n
 . rw[jcB _ hj,jcB _ hj];by_cases e:k=j
   . subst e;simp[hj]
   . rw[if_neg e,if_neg (fun x=>e x.symm)]
 . have h1:(jbP n f)[j]?=none:=by rw[Array.getElem?_eq_none];rw[jcf];omega
   have h2:(jbP n (fun j=>if j=k then b else f j))[j]?=none:=by rw[Array.getElem?_eq_none];rw[jcf];omega
   rw[h1,h2];split
   . split
     . omega
     . rfl
   . rfl
def BRow(w:World)(g n:Nat)(f:Nat->Bool):Prop:=w.heap[g]?=some (.cells (jbP n f) 4 (0,0))
theorem BRow.cell{w:World}{g n k:Nat}{f:Nat->Bool}(h:BRow w g n f)(hk:k<n):w.cell? ⟨g,k,none⟩=some (.bool (f k))/\w.frozen? ⟨g,k,none⟩=false:=by
 have h:w.heap[g]?=_:=h;have h2:=jcB f hk;constructor
 . simp[World.cell?,h,h2]
 . simp[World.frozen?,h]
theorem BRow.congr{w:World}{g n:Nat}{f f':Nat->Bool}(h:BRow w g n f)(e:∀k,k<n->f k=f' k):BRow w g n f':=by
 unfold BRow at h ⊢;rw[h,jgM e]
theorem BRow.set{w:World}{g n k:Nat}{f:Nat->Bool}(h:BRow w g n f)(b:Bool):BRow (w.setCell ⟨g,k,none⟩ (.bool b)) g n (fun j=>if j=k then b else f j):=by
 unfold BRow at h ⊢;simp[World.setCell,Array.getElem?_modify,h,jim]
abbrev csG(n:Nat)(g:Nat):List Value:=[.slice (some ⟨g,0,none⟩) n n]
theorem jlC(n g:Nat):(csG n g).length=1:=rfl
structure MatO (B:Nat) (w:World) (v:Value) (n:Nat) (gs:List Nat) (m:Mt):Prop where
 row:w.ownsRow B 80 1 v gs.length (gs.flatMap (csG n))
 nd:gs.Nodup
 lo:∀g∈gs,B<=g
 ats:∀i g,gs[i]?=some g->BRow w g n (m i)
structure MatS (w:World) (v:Value) (n:Nat) (m:Mt) (gs:List Nat):Prop where
 len:gs.length=n
 sl:SlS (csG n) 1 (fun _=>True) w v gs
 ats:∀i g,gs[i]?=some g->BRow w g n (m i)
 ty:∀b off N c,v=.slice (some ⟨b,off,none⟩) N c->∃cs fz,w.heap[b]?=some (.cells cs 80 fz)
theorem MatS.below{w w':World}{v:Value}{n:Nat}{m:Mt}{gs:List Nat}(h:MatS w v n m gs)(hb:Below w.heap.size w w'):MatS w' v n m gs:=
 ⟨h.len,h.sl.below hb,fun i g hg=>(hb.block g (lt_of_block (h.ats i g hg))).trans (h.ats i g hg),fun b off N c e=>by
  obtain⟨cs,fz,hc⟩:=h.ty b off N c e;exact⟨cs,fz,(hb.block b (lt_of_block hc)).trans hc⟩⟩
theorem MatS.congr{w:World}{v:Value}{n:Nat}{m m':Mt}{gs:List Nat}(h:MatS w v n m gs)(e:∀i k,i<n->k<n->m i k=m' i k):MatS w v n m' gs:=
 ⟨h.len,h.sl,fun i g hg=>(h.ats i g hg).congr (fun k hk=>e i k (by have:=(zE.1 hg).1;rw[h.len]at this;exact this) hk),h.ty⟩
theorem MatO.congr{B:Nat}{w:World}{v:Value}{n:Nat}{m m':Mt}{gs:List Nat}(h:MatO B w v n gs m)(hl:gs.length=n)(e:∀i k,i<n->k<n->m i k=m' i k):MatO B w v n gs m':=
 ⟨h.row,h.nd,h.lo,fun i g hg=>(h.ats i g hg).congr (fun k hk=>e i k (by have:=(zE.1 hg).1;omega) hk)⟩
theorem MatO.read{B:Nat}{w:World}{v:Value}{n:Nat}{m:Mt}{gs:List Nat}(h:MatO B w v n gs m)(hl:gs.length=n):MatS w v n m gs:=
 ⟨hl,(jaD (jlC n) h.row rfl).sub (fun _ _ _=>trivial),h.ats,fun b off N c e=>by
  rcases h.row.2 with⟨h0,_⟩|⟨g,cap,cur,e1,_,e3,_⟩
  . rw[h0]at e;cases e
  . rw[e1]at e;injection e with e;injection e with e;injection e with e;subst e;exact⟨_,_,e3⟩⟩
theorem MatO.below{B:Nat}{w w':World}{v:Value}{n:Nat}{m:Mt}{gs:List Nat}(h:MatO B w v n gs m)(hb:Below w.heap.size w w'):MatO B w' v n gs m:=
 ⟨jao h.row hb,h.nd,h.lo,fun i g hg=>(hb.block g (lt_of_block (h.ats i g hg))).trans (h.ats i g hg)⟩
def updM(m:Mt)(i k:Nat)(b:Bool):Mt:=fun i' k'=>if i'=i/\k'=k then b else m i' k'
theorem MatO.set{B:Nat}{w:World}{v:Value}{n i k g:Nat}{m:Mt}{gs:List Nat}(h:MatO B w v n gs m)(hg:gs[i]?=some g)(b:Bool):MatO B (w.setCell ⟨g,k,none⟩ (.bool b)) v n gs (updM m i k b):=by
 have aa:=h.ats i g hg;refine⟨jae h.row (fun g' o hg' ho=>(zM _ _ _ _ (fun e2=>jdF h.row aa (by decide) (by rw[hg',show g'=g from e2]))).trans ho),h.nd,h.lo,fun j g' hg'=>?_⟩;by_cases e:j=i
 . subst e;rw[hg]at hg';injection hg' with hg';subst hg';refine(aa.set (k:=k) b).congr (fun k' _=>?_);simp[updM]
 . have ab:g'≠g:=fun e2=>by
    subst e2;have h1:=(zE.1 hg).1;have h2:=(zE.1 hg').1;exact e ((List.getElem?_inj h2 h.nd).1 (by rw[hg,hg']))
   have h1:BRow (w.setCell ⟨g,k,none⟩ (.bool b)) g' n (m j):=(zM _ _ _ _ (fun e2=>ab (show g'=g from e2))).trans (h.ats j g' hg');exact h1.congr (fun k' _=>by simp[updM,e])
theorem MatS.at_{w:World}{ao:Option Addr}{n cap i:Nat}{N:Nat}{m:Mt}{gs:List Nat}(h:MatS w (.slice ao N cap) n m gs)(hi:i<n):∃b off g,ao=some ⟨b,off,none⟩/\gs[i]?=some g/\b<w.heap.size/\w.cell? ⟨b,off+i,none⟩=some (.slice (some ⟨g,0,none⟩) n n)/\g<w.heap.size/\∀k,k<n->w.cell? ⟨g,k,none⟩=some (.bool (m i k))/\w.frozen? ⟨g,k,none⟩=false:=by
 obtain⟨g,hg⟩:∃g,gs[i]?=some g:=⟨_,zB (by rw[h.len];exact hi)⟩
 obtain⟨b,off,e,_,hb,hc⟩:=h.sl.get hg;have aa:=hc 0 _ rfl;rw[yC,yA]at aa;exact⟨b,off,g,e,hg,hb,aa,lt_of_block (h.ats i g hg),fun k hk=>(h.ats i g hg).cell hk⟩
def IsO(B:Nat)(w:World)(v:Value)(n:Nat)(m:Mt):Prop:=∃gs:List Nat,gs.length=n/\MatO B w v n gs m
def IsM(w:World)(v:Value)(n:Nat)(m:Mt):Prop:=∃gs:List Nat,MatS w v n m gs
theorem IsO.read{B:Nat}{w:World}{v:Value}{n:Nat}{m:Mt}(h:IsO B w v n m):IsM w v n m:=by
 obtain⟨gs,h1,h2⟩:=h;exact⟨gs,h2.read h1⟩
theorem IsM.below{w w':World}{v:Value}{n:Nat}{m:Mt}(h:IsM w v n m)(hb:Below w.heap.size w w'):IsM w' v n m:=by
 obtain⟨gs,h1⟩:=h;exact⟨gs,h1.below hb⟩
theorem IsM.congr{w:World}{v:Value}{n:Nat}{m m':Mt}(h:IsM w v n m)(e:∀i k,i<n->k<n->m i k=m' i k):IsM w v n m':=by
 obtain⟨gs,h1⟩:=h;exact⟨gs,h1.congr e⟩
theorem jif(n:Nat):madeCells #[Value.bool false] n=jbP n (fun _=>false):=by
 apply Array.ext_getElem?;intro j;by_cases hj:j<n
 . rw[jcB _ hj];simp[madeCells,hj,Nat.mod_one]
 . rw[Array.getElem?_eq_none (by simp[madeCells];omega),Array.getElem?_eq_none (by rw[jcf];omega)]
theorem jkz{w:World}{B n g:Nat}{e:TypeId}{xs:List Value}(h:w.ownsRow B e 1 (.slice (some ⟨g,0,none⟩) n n) n xs):w.heap[g]?=some (.cells xs.toArray e (0,0))/\B<=g:=by
 rcases h.2 with⟨h0,_⟩|⟨g',cap,cur,e1,e2,e3,_,_,e5,e6⟩
 . cases h0
 . injection e1 with e1 e7 e8;injection e1 with e1;injection e1 with e1;subst e1 e8;rw[<- e6,zJ (by rw[Array.length_toList,e5];exact zD _)];exact⟨e3,e2⟩
theorem jmp:(Tryz.prog.info? 4).map (fun i=>(i.zero,i.size,i.bytes))=some (some (.bool false),1,1):=by kernel_rfl
theorem jmc:(Tryz.prog.info? 80).map (fun i=>(i.zero,i.size,i.bytes))=some (some (.slice none 0 0),1,24):=by kernel_rfl
theorem jcs(n:Nat)(w:World)(hn:n<=100000):
 Calls Tryz.prog 64 #[.int .i64 (n:Int)] w fun e w'=>∃v,e=.returned v/\IsO w.heap.size w' v n jbQ/\Below w.heap.size w w':=by
 obtain⟨i0,aw,aH,aI,aC⟩:=info_parts jmp;obtain⟨i1,ay,ax,aA,aG⟩:=info_parts jmc;go_enter Tryz.func64,Tryz.ntmps64;go_wp2_with fail;go_loopw [3,4] (fun vl c wr=>∃(i:Nat) (u:Value) (gs:List Nat),u=vl/\i<=n/\c=.int .i64 i/\gs.length=i/\MatO w.heap.size wr u n gs jbQ/\Below w.heap.size w wr) (fun _ c _=>n-(intOf c).toNat)
 case atStart=>exact⟨0,.slice none 0 0,[],rfl,zO _,rfl,rfl,⟨World.ownsRow_nil _ _ _ _,List.nodup_nil,by simp,fun i g h=>by simp at h⟩,zF _ _⟩
 case round=>
  obtain⟨i,u,gs,rfl,hi,rfl,ai,hm,ar⟩:=hrel;obtain⟨wx,aF⟩:=eX wr;subst aF;obtain⟨ua,uc,hu⟩:=jab hm.row;rw[ai]at hu;subst hu;have HM:=zA hm;have an:=zA ar;have aq:=zA ai;have hsx:w.heap.size<=wx.heap.size:=ar.size;obtain⟨X,hX⟩:=eX (gs.flatMap (csG n));have HX:=zA hX;have ah:Hid (wx.ownsRow w.heap.size 80 1 (.slice ua i uc) i X):=zA (by
   have h:=hm.row;rw[ai,<- hX]at h;exact h)
  clear hm ar ai hX;by_cases hlt:i<n
  . have am:(i:Int)<(n:Int):=by omega
    go_wp2_with (at_make;refine wpList_make_full _ rfl _ _ 80 rfl wx.heap.size 4 i0 (.bool false) 1 Tryz.underlying80 aw aH aI _ _ _ _ n rfl rfl rfl rfl (by rw[aC];omega) (by unfold maxLen;omega) (zD _) ?_);intro w1 ag ad;obtain⟨ab,_⟩:=jkz ag;rw[jif,Array.toArray_toList]at ab;have aD:=zA ab;have ak:Below wx.heap.size wx w1:=(zF _ _).grown ad (zD _) (by simp);have av:=zA ak;have hs1:wx.heap.size<w1.heap.size:=lt_of_block ab;have au:=zA (jao ah.out ak);clear ag ad ab ak;go_wp2_with (at_builtin;refine wpList_append_lies _ rfl _ _ _ rfl w.heap.size 80 i1 _ 1 24 Tryz.underlying78 ay ax aA aG rfl (by decide) (.slice ua i uc) _ _ (by rfl) (au.out.alloc _) ⟨w1.heap.size,0,none⟩ 1 1 (csG n wx.heap.size) (by rfl) (by rfl) (World.news_of_block (cs:=#[.slice (some ⟨wx.heap.size,0,none⟩) n n]) (t:=80) (fr:=(0,0)) (heap_alloc_new w1 _)) (by simp[Value.oneCell']) (by decide) (by unfold maxLen;omega) (by omega) (by simp;omega) (w1.heap.size+1) (by simp) ?_);intro gg al w9 ac aa ao ap;have ba:Below w1.heap.size w1 (w1.alloc (.cells #[.slice (some ⟨wx.heap.size,0,none⟩) n n] 80)):=(zF _ _).alloc (zD _) _;have af:Below w.heap.size w w1:=an.out.trans (av.out.mono an.out.size);have aE:Hid (Below w.heap.size w w9):=zA ((af.trans (ba.mono af.size)).grown aa (by simp;omega) (fun k e=>(ah.out.lt k e).1));have az:Hid (MatO w.heap.size w9 (.slice (some ⟨gg,0,none⟩) (i+1) al) n (gs++[wx.heap.size]) jbQ):=zA (by
     have hm:=HM.out;have aj:∀g∈gs,g<wx.heap.size:=fun g hg=>by
      obtain⟨j,hj⟩:=List.getElem?_of_mem hg;exact lt_of_block (hm.ats j g hj)
     have ae:∀g f,BRow w1 g n f->BRow w9 g n f:=fun g f h=>by
      have h2:g<w1.heap.size:=lt_of_block h;exact(jjL aa h2 (fun e=>jdF au.out h (by decide) e)).trans h
     refine⟨?_,?_,?_,?_⟩
     . rw[zG,aq.out,zP,<- HX.out];exact ac
     . rw[List.nodup_append];exact⟨hm.nd,by simp,fun a ha b hb=>by simp at hb;have:=aj a ha;omega⟩
     . intro g hg;rcases zL.1 hg with hg|hg
       . exact hm.lo g hg
       . simp at hg;omega
     . intro j g hg;by_cases hj:j<gs.length
       . rw[yJ hj]at hg;exact ae g _ ((av.out.block g (lt_of_block (hm.ats j g hg))).trans (hm.ats j g hg))
       . rw[yM (by omega)]at hg;have h1:=(zE.1 hg).1;simp at h1;have h0:j-gs.length=0:=by omega
         rw[h0]at hg;simp at hg;subst hg;exact ae _ _ aD.out)
    clear ac aa ao ap ba af;go_wp2;go_roundw
    case rel=>exact⟨i+1,_,_,rfl,by omega,by go_num,by rw[zG,aq.out];rfl,az.out,aE.out⟩
    case measure=>simp[intOf];omega
  . have am:¬(i:Int)<(n:Int):=by omega
    have aB:gs.length=n:=by rw[aq.out];omega
    go_wp2;go_ret;exact⟨_,rfl,⟨gs,aB,HM.out⟩,an.out⟩
theorem jfm:∀(i:Nat) (a b:Rw),a.take i=b.take i->i<=a.length->i<=b.length->jaE a b=jaE (a.drop i) (b.drop i)
 |0,_,_,_,_,_=>rfl
 |i+1,[],_,_,h,_=>by simp at h
 |i+1,_::_,[],_,_,h=>by simp at h
 |i+1,x::a,y::b,h,h1,h2=>by
  simp only[List.take_succ_cons,List.cons.injEq]at h;rw[jaE,if_pos h.1,List.drop_succ_cons,List.drop_succ_cons];exact jfm i a b h.2 (by simpa using h1) (by simpa using h2)
theorem jfC{α:Type}{l:List α}{i:Nat}{x:α}(h:l[i]?=some x):l.drop i=x::l.drop (i+1):=by
 have hi:=(zE.1 h).1;have he:=(zE.1 h).2;rw[List.drop_eq_getElem_cons hi,he]
theorem jeG{S T:Nat->Prop}{w:World}{v1 v2:Value}{L1 L2:Rw}(h1:TxtS S w v1 L1)(h2:TxtS T w v2 L2)(hl1:L1.length<=1000000):
 Calls Tryz.prog 25 #[v1,v2] w fun e w'=>e=.returned (.bool (jaE L1 L2))/\Below w.heap.size w w':=by
 obtain⟨a1,c1,rfl⟩:=h1.slice;obtain⟨a2,c2,rfl⟩:=h2.slice;have H1:=zA h1;have H2:=zA h2;obtain⟨n1,ai⟩:=eX L1.length;obtain⟨n2,ah⟩:=eX L2.length;rw[<- ai]at H1 hl1 ⊢;rw[<- ah]at H2 ⊢;have ag:=zA ai;have ad:=zA ah;obtain⟨r,hr⟩:=eX (jaE L1 L2);rw[<- hr];have HR:=zA hr;clear h1 h2 ai ah hr;go_enter Tryz.func25,Tryz.ntmps25;go_wp2_with fail;go_loopw [5] (fun c wr=>∃i:Nat,i<=n1/\i<=n2/\c=.int .i64 i/\L1.take i=L2.take i/\Below w.heap.size w wr) (fun c _=>n1-(intOf c).toNat)
 case atStart=>exact⟨0,zO _,zO _,rfl,rfl,zF _ _⟩
 case round=>
  obtain⟨i,ar,au,rfl,aj,an⟩:=hrel;have ab:=zA an;have ao:=zA aj;have HD:Hid (r=jaE (L1.drop i) (L2.drop i)):=zA (by rw[HR.out];exact jfm i L1 L2 aj (by rw[<- ag.out];exact ar) (by rw[<- ad.out];exact au));clear an aj;by_cases hlt1:i<n1
  . have ac:(i:Int)<(n1:Int):=by omega
    by_cases hlt2:i<n2
    . have aa:(i:Int)<(n2:Int):=by omega
      obtain⟨x,hx⟩:∃x,L1[i]?=some x:=⟨_,zB (by rw[<- ag.out];exact hlt1)⟩
      obtain⟨y,hy⟩:∃y,L2[i]?=some y:=⟨_,zB (by rw[<- ad.out];exact hlt2)⟩
      obtain⟨g1,o1,e1,_,_,al⟩:=(H1.out.below ab.out).get hx;obtain⟨g2,o2,e2,_,_,am⟩:=(H2.out.below ab.out).get hy;subst e1 e2;have q1:=al 0 _ rfl;have q2:=am 0 _ rfl;rw[yC,yA]at q1 q2;rw[jfC hx,jfC hy,jaE]at HD;have HX:=zA (And.intro hx hy);clear hx hy al am;by_cases exy:x=y
      . have ap:Hid (L1.take (i+1)=L2.take (i+1)):=zA (by rw[zS,zS,HX.out.1,HX.out.2,ao.out,exy]);subst exy;go_wp2_with fail;go_quiet (fail);have ae:=zA (jau ab.out nq);go_wp2;go_roundw
        case rel=>exact⟨i+1,by omega,by omega,by go_num,ap.out,ae.out⟩
        case measure=>simp[intOf];omega
      . obtain⟨e1,e2⟩:=jbW exy;rw[if_neg exy]at HD;have af:Hid (r=Op.bytesLess x y):=HD;clear exy HD;cases hls:Op.bytesLess x y with
        |true=>
         rw[hls]at af;go_wp2_with fail;go_quiet (fail);obtain⟨W,hW⟩:=eX (wr.drewN nq);have ak:Hid (Below w.heap.size w W):=zA (by rw[hW];exact jau ab.out nq);have p1:W.cell? ⟨g1,o1+i,none⟩=some (.string ⟨x.toArray⟩):=by rw[hW];exact q1
         have p2:W.cell? ⟨g2,o2+i,none⟩=some (.string ⟨y.toArray⟩):=by rw[hW];exact q2
         rw[<- hW];clear hW q1 q2;go_wp2_with fail;go_quiet (fail);have ae:=zA (jau ak.out nq);go_wp2;go_ret;exact⟨by rw[af.out];rfl,ae.out⟩
        |false=>
         rw[hls]at af;go_wp2_with fail;go_quiet (fail);obtain⟨W,hW⟩:=eX (wr.drewN nq);have ak:Hid (Below w.heap.size w W):=zA (by rw[hW];exact jau ab.out nq);have p1:W.cell? ⟨g1,o1+i,none⟩=some (.string ⟨x.toArray⟩):=by rw[hW];exact q1
         have p2:W.cell? ⟨g2,o2+i,none⟩=some (.string ⟨y.toArray⟩):=by rw[hW];exact q2
         rw[<- hW];clear hW q1 q2;go_wp2_with fail;go_quiet (fail);have ae:=zA (jau ak.out nq);go_wp2;go_ret;exact⟨by rw[af.out];rfl,ae.out⟩
    . have aa:¬(i:Int)<(n2:Int):=by omega
      have hd:decide ((i:Int)<(n2:Int))=false:=decide_eq_false aa;have aq:¬(n1:Int)<(n2:Int):=by omega
      have HT:Hid (r=false):=zA (by
       have e2:L2.drop i=[]:=List.drop_eq_nil_iff.2 (by rw[<- ad.out];omega);obtain⟨x,hx⟩:∃x,L1[i]?=some x:=⟨_,zB (by rw[<- ag.out];exact hlt1)⟩
       rw[HD.out,e2,jfC hx];rfl)
      go_wp2;go_ret;exact⟨by rw[HT.out];rfl,ab.out⟩
  . have ac:¬(i:Int)<(n1:Int):=by omega
    have hd:decide ((i:Int)<(n1:Int))=false:=decide_eq_false ac;have e1:L1.drop i=[]:=List.drop_eq_nil_iff.2 (by rw[<- ag.out];omega);by_cases aq:(n1:Int)<(n2:Int)
    . have HT:Hid (r=true):=zA (by
       obtain⟨y,hy⟩:∃y,L2[i]?=some y:=⟨_,zB (by rw[<- ad.out];omega)⟩
       rw[HD.out,e1,jfC hy];rfl)
      clear e1;go_wp2;go_ret;exact⟨by rw[HT.out];rfl,ab.out⟩
    . have HT:Hid (r=false):=zA (by
       have e2:L2.drop i=[]:=List.drop_eq_nil_iff.2 (by rw[<- ad.out];omega);rw[HD.out,e1,e2];rfl)
      clear e1;go_wp2;go_ret;exact⟨by rw[HT.out];rfl,ab.out⟩
theorem jgk{S T:Nat->Prop}{w:World}{v1 v2:Value}{L1 L2:Rw}(h1:TxtS S w v1 L1)(h2:TxtS T w v2 L2)(hl1:L1.length<=1000000)(hl2:L2.length<=1000000):
 Calls Tryz.prog 79 #[v1,v2] w fun e w'=>e=.returned (.bool (decide (L1=L2)))/\Below w.heap.size w w':=by
 obtain⟨r,hr⟩:=eX (decide (L1=L2));rw[<- hr];have HR:=zA hr;have C1:=zA (jeG h1 h2 hl1);have C2:=zA (fun u (hu:Below w.heap.size w u)=>jeG (h2.below hu) (h1.below hu) hl2);obtain⟨x,hx⟩:=eX (jaE L1 L2);obtain⟨y,hy⟩:=eX (jaE L2 L1);rw[<- hx]at C1;rw[<- hy]at C2;have HX:=zA hx;have HY:=zA hy;clear hr hx hy h1 h2;go_enter Tryz.func79,Tryz.ntmps79;go_wp2_with fail;refine C1.out.mono ?_;rintro e w1 ⟨rfl,ab⟩;have aa:=zA ab;clear ab;cases x with
 |true=>
  have HT:Hid (r=false):=zA (by rw[HR.out];exact decide_eq_false (ordR.ne HX.out.symm));go_wp2;go_ret;exact⟨by rw[HT.out];rfl,aa.out⟩
 |false=>
  have HT:Hid (r= !y):=zA (by
   rw[HR.out];cases y with
   |true=>exact decide_eq_false (fun e=>ordR.ne HY.out.symm e.symm)
   |false=>exact zU (jeN _ _ HX.out.symm HY.out.symm))
  go_wp2_with fail;refine(C2.out _ aa.out).mono ?_;rintro e w2 ⟨rfl,ac⟩;have ad:=zA (aa.out.trans (ac.mono aa.out.size));clear ac;cases y with
  |true=>
   go_wp2;go_ret;exact⟨by rw[HT.out];rfl,ad.out⟩
  |false=>
   go_wp2;go_ret;exact⟨by rw[HT.out];rfl,ad.out⟩
abbrev csRw(p:Value×Rw):List Value:=[p.1]
theorem jaw(x:Value×Rw):(csRw x).length=1:=rfl
structure jkr (w:World) (v:Value) (rs:List (Value×Rw)):Prop where
 src:Src csRw 1 w v rs
 cap:CapS v rs.length
 rows:∀p∈rs,TxtS (fun _=>True) w p.1 p.2/\p.2.length<=1000000
def jbq(w:World)(v:Value)(L:List Rw):Prop:=∃rs:List (Value×Rw),jkr w v rs/\rs.map (·.2)=L
theorem jkr.below{w w':World}{v:Value}{rs:List (Value×Rw)}(h:jkr w v rs)(hb:Below w.heap.size w w'):jkr w' v rs:=⟨h.src.below hb,h.cap,fun p hp=>⟨(h.rows p hp).1.below hb,(h.rows p hp).2⟩⟩
theorem jbq.below{w w':World}{v:Value}{L:List Rw}(h:jbq w v L)(hb:Below w.heap.size w w'):jbq w' v L:=by
 obtain⟨rs,h1,h2⟩:=h;exact⟨rs,h1.below hb,h2⟩
theorem jbR(w:World):jbq w (.slice none 0 0) []:=⟨[],⟨⟨SlS.nil _ _,fun m c e=>by injection e with _ e2 e3;exact⟨e2.symm,e3.symm⟩⟩,⟨none,0,rfl,zD _⟩,by simp⟩,rfl⟩
theorem jbN(rs:List (Value×Rw))(h:∀p∈rs,p.1.oneCell'=true):∀u∈rs.flatMap csRw,u.oneCell'=true:=by
 intro u hu;obtain⟨x,hx,h2⟩:=List.mem_flatMap.1 hu;simp at h2;rw[h2];exact h x hx
theorem jk0:(Tryz.prog.info? 34).map (fun i=>(i.zero,i.size,i.bytes))=some (some (.slice none 0 0),1,24):=by kernel_rfl
theorem jhx{w:World}{v vr:Value}{L:List Rw}{r:Rw}(h:jbq w v L)(hl:L.length<=1000000000000)(hrise:ja2 jaE L)(hv:TxtS (fun _=>True) w vr r)(hrl:r.length<=1000000):
 Calls Tryz.prog 46 #[v,vr] w fun e w'=>∃v',e=.returned v'/\jbq w' v' (putL jaE L r)/\Below w.heap.size w w':=by
 obtain⟨i0,aw,av,ay,ax⟩:=info_parts jk0;obtain⟨R,hR⟩:=eX (putL jaE L r);rw[<- hR];have HR:=zA hR;obtain⟨rs,a9,aM⟩:=h;obtain⟨la,lc,bE,a8⟩:=a9.cap;subst bE;obtain⟨ra,rc,bk⟩:=hv.slice;have HV:=zA hv;obtain⟨rn,bt⟩:=eX r.length;rw[<- bt]at bk;obtain⟨n,hn⟩:=eX rs.length;have aV:Hid (rs.length=L.length):=zA (by rw[<- aM,zH]);have hnl:n<=1000000000000:=by rw[hn,aV.out];exact hl
 have ar:=zA a9;rw[<- hn]at ar a8 ⊢;have HN:=zA hn;have aX:=zA aM;have bu:=zA hrise;have aZ:Hid (∀p∈rs,p.1.oneCell'=true):=zA (fun p hp=>by
  obtain⟨a,c,e⟩:=(a9.rows p hp).1.slice;rw[e];rfl)
 have bb:vr.oneCell'=true:=by rw[bk];rfl
 clear a9 aM hrise hR hv hn hl bt;subst bk;have C:Hid (∀u,Below w.heap.size w u->∀p∈rs,Calls Tryz.prog 25 #[p.1,(.slice ra rn rc)] u fun e w'=>e=.returned (.bool (jaE p.2 r))/\Below u.heap.size u w'):=zA (fun u hu p hp=>jeG ((ar.out.rows p hp).1.below hu) (HV.out.below hu) (ar.out.rows p hp).2);have CS:Hid (∀u,Below w.heap.size w u->∀p∈rs,Calls Tryz.prog 79 #[p.1,(.slice ra rn rc)] u fun e w'=>e=.returned (.bool (decide (p.2=r)))/\Below u.heap.size u w'):=zA (fun u hu p hp=>jgk ((ar.out.rows p hp).1.below hu) (HV.out.below hu) (ar.out.rows p hp).2 hrl);go_enter Tryz.func46,Tryz.ntmps46;go_wp2_with fail;go_loopw [5,6] (fun c d wr=>∃(a b:Nat),a<=b/\b<=n/\c=.int .i64 a/\d=.int .i64 b/\(∀(j:Nat) x,j<a->L[j]?=some x->jaE x r=true)/\(∀(j:Nat) x,b<=j->L[j]?=some x->jaE x r=false)/\Below w.heap.size w wr) (fun c d _=>(intOf d).toNat-(intOf c).toNat)
 case atStart=>exact⟨0,n,zO _,zD _,rfl,rfl,fun j x hj=>absurd hj (by omega),fun j x hj hx=>by
  have:=(zE.1 hx).1;rw[<- aV.out,<- HN.out]at this;omega,zF _ _⟩
 case round=>
  obtain⟨a,b,hab,bA,rfl,rfl,aW,aI,bs⟩:=hrel;have aH:=zA aW;have aK:=zA aI;have aF:=zA bs;clear aW aI bs;by_cases hlt:a<b
  . have bh:(a:Int)<(b:Int):=by omega
    obtain⟨au,a4⟩:=eX ((a+b)/2);have hm1:a<=au:=by omega
    have hm2:au<b:=by omega
    have hmI:(au:Int)<(n:Int):=by omega
    have hsum:IntKind.i64.wrap ((a:Int)+(b:Int))=(a:Int)+(b:Int):=by rw[IntKind.wrap_i64];omega
    have hdiv:((a:Int)+(b:Int)).tdiv 2=(au:Int):=by
     rw[Int.tdiv_eq_ediv_of_nonneg (by omega),a4];omega
    obtain⟨⟨xv,xr⟩,hx⟩:∃x,rs[au]?=some x:=⟨_,zB (by rw[<- HN.out];omega)⟩
    have a7:L[au]?=some xr:=by rw[<- aX.out,zI,hx];rfl
    obtain⟨g,a6,bp,_,_,ak⟩:=(ar.out.src.sl.below aF.out).get hx;subst bp;have q0:=ak 0 _ rfl;rw[yC,yA]at q0;have C1:=zA (C.out wr aF.out (xv,xr) (zC hx));have aS:=zA a7;obtain⟨xa,xc,bj⟩:=(ar.out.rows _ (zC hx)).1.slice;dsimp only at bj;have HXV:=zA bj;obtain⟨ls,bm⟩:=eX (jaE xr r);have bd:=zA bm;have C2:Hid (Calls Tryz.prog 25 #[xv,(.slice ra rn rc)] wr fun e w'=>e=.returned (.bool ls)/\Below wr.heap.size wr w'):=zA (by rw[bm];exact C1.out);clear hx a7 ak bj bm a4 C1;go_wp2_with fail;refine C2.out.mono ?_;rintro e w3 ⟨rfl,a1⟩;have aj:=zA (aF.out.trans (a1.mono aF.out.size));clear a1;cases ls with
    |true=>
     have bF:Hid (∀(j:Nat) x,j<au+1->L[j]?=some x->jaE x r=true):=zA (fun j x hj hx=>by
      by_cases e:j=au
      . subst e;rw[aS.out]at hx;injection hx with hx;rw[<- hx];exact bd.out.symm
      . exact jd8 _ _ _ (bu.out.lt_at ordR hx aS.out (by omega)) bd.out.symm)
     go_wp2;go_roundw
     case rel=>exact⟨au+1,b,by omega,by omega,by go_num,rfl,bF.out,aK.out,aj.out⟩
     case measure=>simp[intOf];omega
    |false=>
     have bB:Hid (∀(j:Nat) x,au<=j->L[j]?=some x->jaE x r=false):=zA (fun j x hj hx=>by
      by_cases e:j=au
      . subst e;rw[aS.out]at hx;injection hx with hx;rw[<- hx];exact bd.out.symm
      . cases h:jaE x r with
        |false=>rfl
        |true=>
         have h2:=jd8 _ _ _ (bu.out.lt_at ordR aS.out hx (by omega)) h;rw[<- bd.out]at h2;cases h2)
     go_wp2;go_roundw
     case rel=>exact⟨a,au,by omega,by omega,rfl,rfl,aH.out,bB.out,aj.out⟩
     case measure=>simp[intOf];omega
  . have bh:¬(a:Int)<(b:Int):=by omega
    obtain rfl:a=b:=by omega
    obtain⟨k,bC⟩:=eX a;subst bC;have hk:k<=n:=bA;have aQ:Hid (∀y,L[k]?=some y->jaE y r=false):=zA (fun y hy=>aK.out k y (zD _) hy);obtain⟨RS,aJ⟩:=eX (rs.take k++[(Value.slice ra rn rc,r)]++rs.drop k);obtain⟨wy,bw⟩:=eX wr;subst bw;by_cases bc:k<n
    . have a2:(k:Int)<(n:Int):=by omega
      obtain⟨⟨xv,xr⟩,hx⟩:∃x,rs[k]?=some x:=⟨_,zB (by rw[<- HN.out];exact bc)⟩
      have a7:L[k]?=some xr:=by rw[<- aX.out,zI,hx];rfl
      obtain⟨g,a6,bp,_,_,ak⟩:=(ar.out.src.sl.below aF.out).get hx;subst bp;have q0:=ak 0 _ rfl;rw[yC,yA]at q0;obtain⟨sm,bn⟩:=eX (decide (xr=r));have C2:Hid (Calls Tryz.prog 79 #[xv,(.slice ra rn rc)] wy fun e w'=>e=.returned (.bool sm)/\Below wy.heap.size wy w'):=zA (by rw[bn];exact CS.out wy aF.out (xv,xr) (zC hx));have aS:=zA a7;have bv:=zA bn;clear hx a7 ak bn;go_wp2_with fail;refine C2.out.mono ?_;rintro e wx ⟨rfl,a1⟩;have am:=zA (aF.out.trans (a1.mono aF.out.size));clear a1 q0;cases sm with
      |true=>
       have HT:Hid (R=L):=zA (by rw[HR.out,jcU (k:=k) (by rw[<- aV.out,<- HN.out];exact hk) aH.out aQ.out,if_pos (by rw[aS.out,of_decide_eq_true bv.out.symm])]);go_wp2;go_ret;exact⟨_,rfl,by rw[HT.out];exact⟨rs,ar.out.below am.out,aX.out⟩,am.out⟩
      |false=>
       have bl:Hid (¬L[k]?=some r):=zA (fun h=>by rw[aS.out]at h;injection h with h;exact of_decide_eq_false bv.out.symm h);have H:=zA (ar.out.src.below am.out);have al:=zA (ar.out.below am.out).rows;have bg:=zA (HV.out.below am.out);have aG:∀p∈rs,p.1.oneCell'=true:=aZ.out;have HT:Hid (RS=rs.take k++[(Value.slice ra rn rc,r)]++rs.drop k):=zA aJ;have a0:Hid (RS.map (·.2)=R):=zA (by
        rw[aJ,HR.out,jcU (k:=k) (by rw[<- aV.out,<- HN.out];exact hk) aH.out aQ.out,if_neg bl.out,yG,yG,List.map_take,List.map_drop,aX.out];rfl)
       have aY:Hid (∀u,Below wx.heap.size wx u->∀p∈RS,TxtS (fun _=>True) u p.1 p.2/\p.2.length<=1000000):=zA (fun u hu p hp=>by
        rw[aJ]at hp;rcases zL.1 hp with hp|hp
        . rcases zL.1 hp with hp|hp
          . have h:=al.out p (List.mem_of_mem_take hp);exact⟨h.1.below hu,h.2⟩
          . simp at hp;subst hp;exact⟨bg.out.below hu,hrl⟩
        . have h:=al.out p (List.mem_of_mem_drop hp);exact⟨h.1.below hu,h.2⟩)
       clear aJ;have bq:(k:Int)<=(lc:Int):=by omega
       have br:(n:Int)<=(lc:Int):=by omega
       have bc:(k:Int)<=(n:Int):=by omega
       have aC:Hid (Src csRw 1 wx (.slice (some ⟨g,a6,none⟩) k lc) (rs.take k)):=zA (jbM H.out HN.out hk);have bf:¬lc=k:=by omega
       have aU:Hid (Src csRw 1 wx (.slice (some ⟨g,a6+k,none⟩) (n-k) (lc-k)) (rs.drop k)):=zA (by
        have h:=jcG H.out HN.out hk a8;rw[if_neg bf,Option.map_some,addA]at h;exact h)
       go_wp2_with (at_builtin;refine jah rfl _ _ rfl Tryz.underlying28 aw av ay ax rfl (by decide) (by rfl) (World.ownsRow_nil _ wx.heap.size _ _) (some ⟨g,a6,none⟩) ((rs.take k).flatMap csRw) k lc (by rfl) (by rw[jaz jaw,zX,<- HN.out];omega) (fun e=>aC.out.no _ _ (by rw[e])) (aC.out.cells jaw (by decide)) (jbN _ (fun p hp=>aG p (by first|exact List.mem_of_mem_take hp|exact List.mem_of_mem_drop hp))) (by unfold maxLen;omega) (by omega) (zD _) ?_);intro v3 w3 ah af;obtain⟨X3,an⟩:=eX ((rs.take k).flatMap csRw);have aT:=zA an;have aa:w3.ownsRow wx.heap.size 34 1 v3 k X3:=by
        rw[an];simpa using ah
       have aj:Hid (Below wx.heap.size wx w3):=zA (Below.grown (zF _ _) af (zD _) (fun k hk=>by cases hk));obtain⟨a3,c3,aL⟩:=jab aa;subst aL;have aE:=zA aa;have bo:wx.heap.size<=w3.heap.size:=aj.out.size;clear ah af aa an;go_wp2_with (at_builtin;refine wpList_append_lies _ rfl _ _ _ rfl wx.heap.size 34 i0 _ 1 24 Tryz.underlying28 aw av ay ax rfl (by decide) (.slice a3 k c3) _ _ (by rfl) (aE.out.alloc _) ⟨w3.heap.size,0,none⟩ 1 1 [.slice ra rn rc] (by rfl) (by rfl) (World.news_of_block (cs:=#[.slice ra rn rc]) (t:=34) (fr:=(0,0)) (heap_alloc_new w3 _)) (by simp[bb]) (by decide) (by unfold maxLen;omega) (by omega) (by simp;omega) (w3.heap.size+1) (by simp) ?_);intro gg aP w4 ac ag ao ap;have ba:Below w3.heap.size w3 (w3.alloc (.cells #[.slice ra rn rc] 34)):=(zF _ _).alloc (zD _) _;have ai:Hid (Below wx.heap.size wx w4):=zA ((aj.out.trans (ba.mono aj.out.size)).grown ag (by simp;omega) (fun k e=>(aE.out.lt k e).1));obtain⟨X4,aq⟩:=eX (X3++[.slice ra rn rc]);have aO:=zA aq;rw[<- aq]at ac;have aA:=zA ac;have aD:=zA (aU.out.below ai.out);have aN:wx.heap.size<=w4.heap.size:=ai.out.size;clear ac ag ao ap ba aq;go_wp2_with (at_builtin;refine jah rfl _ _ rfl Tryz.underlying28 aw av ay ax rfl (by decide) (by rfl) aA.out (some ⟨g,a6+k,none⟩) ((rs.drop k).flatMap csRw) (n-k) (lc-k) (by rfl) (by rw[jaz jaw,yS,<- HN.out];try omega) (fun e=>aD.out.no _ _ (by rw[e])) (aD.out.cells jaw (by decide)) (jbN _ (fun p hp=>aG p (by first|exact List.mem_of_mem_take hp|exact List.mem_of_mem_drop hp))) (by unfold maxLen;omega) (by omega) aN ?_);intro v5 w5 ab ae;have az:Hid (Below wx.heap.size wx w5):=zA (ai.out.grown ae ai.out.size (fun k hk=>(aA.out.lt k hk).1));have aB:Hid (w5.ownsRow wx.heap.size 34 1 v5 RS.length (RS.flatMap csRw)):=zA (by
        rw[HT.out,zG,zG,zX,yS,zP,zP,<- aT.out,<- HN.out];rw[aO.out]at ab;have e1:min k n+[(Value.slice ra rn rc,r)].length+(n-k)=k+1+(n-k):=by rw[Nat.min_eq_left hk];rfl
        rw[e1];simpa using ab)
       obtain⟨a5,c5,aR⟩:=jab ab;subst aR;clear ab ae;go_wp2;go_ret;exact⟨_,rfl,⟨RS,⟨Src.own jaw aB.out rfl,jbs aB.out,aY.out _ az.out⟩,a0.out⟩,am.out.trans (az.out.mono am.out.size)⟩
    . have a2:¬(k:Int)<(n:Int):=by omega
      have hdk:decide ((k:Int)<(n:Int))=false:=decide_eq_false a2;have bi:k=n:=by omega
      have bl:Hid (¬L[k]?=some r):=zA (fun hy=>by
       have:=(zE.1 hy).1;rw[<- aV.out,<- HN.out]at this;omega)
      obtain⟨wx,bx⟩:=eX wy;subst bx;have am:=aF;have H:=zA (ar.out.src.below am.out);have al:=zA (ar.out.below am.out).rows;have bg:=zA (HV.out.below am.out);have aG:∀p∈rs,p.1.oneCell'=true:=aZ.out;have HT:Hid (RS=rs.take k++[(Value.slice ra rn rc,r)]++rs.drop k):=zA aJ;have a0:Hid (RS.map (·.2)=R):=zA (by
       rw[aJ,HR.out,jcU (k:=k) (by rw[<- aV.out,<- HN.out];exact hk) aH.out aQ.out,if_neg bl.out,yG,yG,List.map_take,List.map_drop,aX.out];rfl)
      have aY:Hid (∀u,Below wx.heap.size wx u->∀p∈RS,TxtS (fun _=>True) u p.1 p.2/\p.2.length<=1000000):=zA (fun u hu p hp=>by
       rw[aJ]at hp;rcases zL.1 hp with hp|hp
       . rcases zL.1 hp with hp|hp
         . have h:=al.out p (List.mem_of_mem_take hp);exact⟨h.1.below hu,h.2⟩
         . simp at hp;subst hp;exact⟨bg.out.below hu,hrl⟩
       . have h:=al.out p (List.mem_of_mem_drop hp);exact⟨h.1.below hu,h.2⟩)
      clear aJ;cases la with
      |none=>
       obtain⟨bD,bz⟩:=H.out.no n lc rfl;subst bD bz;obtain rfl:k=0:=by omega
       have aC:Hid (Src csRw 1 wx (.slice none 0 0) (rs.take 0)):=zA (jbM H.out HN.out hk);have aU:Hid (Src csRw 1 wx (.slice none 0 0) (rs.drop 0)):=zA (by simpa using H.out);go_wp2_with (at_builtin;refine jah rfl _ _ rfl Tryz.underlying28 aw av ay ax rfl (by decide) (by rfl) (World.ownsRow_nil _ wx.heap.size _ _) none ((rs.take 0).flatMap csRw) 0 0 (by rfl) (by rw[jaz jaw,zX,<- HN.out];omega) (fun e=>aC.out.no _ _ (by rw[e])) (aC.out.cells jaw (by decide)) (jbN _ (fun p hp=>aG p (by first|exact List.mem_of_mem_take hp|exact List.mem_of_mem_drop hp))) (by unfold maxLen;omega) (by omega) (zD _) ?_);intro v3 w3 ah af;obtain⟨X3,an⟩:=eX ((rs.take 0).flatMap csRw);have aT:=zA an;have aa:w3.ownsRow wx.heap.size 34 1 v3 0 X3:=by
        rw[an];simpa using ah
       have aj:Hid (Below wx.heap.size wx w3):=zA (Below.grown (zF _ _) af (zD _) (fun z hz=>by cases hz));obtain⟨a3,c3,aL⟩:=jab aa;subst aL;have aE:=zA aa;have bo:wx.heap.size<=w3.heap.size:=aj.out.size;clear ah af aa an;go_wp2_with (at_builtin;refine wpList_append_lies _ rfl _ _ _ rfl wx.heap.size 34 i0 _ 1 24 Tryz.underlying28 aw av ay ax rfl (by decide) (.slice a3 0 c3) _ _ (by rfl) (aE.out.alloc _) ⟨w3.heap.size,0,none⟩ 1 1 [.slice ra rn rc] (by rfl) (by rfl) (World.news_of_block (cs:=#[.slice ra rn rc]) (t:=34) (fr:=(0,0)) (heap_alloc_new w3 _)) (by simp[bb]) (by decide) (by unfold maxLen;omega) (by omega) (by simp;omega) (w3.heap.size+1) (by simp) ?_);intro gg aP w4 ac ag ao ap;have ba:Below w3.heap.size w3 (w3.alloc (.cells #[.slice ra rn rc] 34)):=(zF _ _).alloc (zD _) _;have ai:Hid (Below wx.heap.size wx w4):=zA ((aj.out.trans (ba.mono aj.out.size)).grown ag (by simp;omega) (fun z e=>(aE.out.lt z e).1));obtain⟨X4,aq⟩:=eX (X3++[.slice ra rn rc]);have aO:=zA aq;rw[<- aq]at ac;have aA:=zA ac;have aD:=zA (aU.out.below ai.out);have aN:wx.heap.size<=w4.heap.size:=ai.out.size;clear ac ag ao ap ba aq;go_wp2_with (at_builtin;refine jah rfl _ _ rfl Tryz.underlying28 aw av ay ax rfl (by decide) (by rfl) aA.out none ((rs.drop 0).flatMap csRw) 0 0 (by rfl) (by rw[jaz jaw,yS,<- HN.out];try omega) (fun e=>aD.out.no _ _ (by rw[e])) (aD.out.cells jaw (by decide)) (jbN _ (fun p hp=>aG p (by first|exact List.mem_of_mem_take hp|exact List.mem_of_mem_drop hp))) (by unfold maxLen;omega) (by omega) aN ?_);intro v5 w5 ab ae;have az:Hid (Below wx.heap.size wx w5):=zA (ai.out.grown ae ai.out.size (fun z hz=>(aA.out.lt z hz).1));have aB:Hid (w5.ownsRow wx.heap.size 34 1 v5 RS.length (RS.flatMap csRw)):=zA (by
        rw[HT.out,zG,zG,zX,yS,zP,zP,<- aT.out,<- HN.out];rw[aO.out]at ab;have e1:min 0 0+[(Value.slice ra rn rc,r)].length+(0-0)=0+1+(0-0):=by rw[Nat.min_eq_left hk];rfl
        rw[e1];simpa using ab)
       obtain⟨a5,c5,aR⟩:=jab ab;subst aR;clear ab ae;go_wp2;go_ret;exact⟨_,rfl,⟨RS,⟨Src.own jaw aB.out rfl,jbs aB.out,aY.out _ az.out⟩,a0.out⟩,am.out.trans (az.out.mono am.out.size)⟩
      |some ad=>
       subst bi;by_cases bf:lc=k
       . subst bf;have bq:(lc:Int)<=(lc:Int):=by omega
         have br:(lc:Int)<=(lc:Int):=by omega
         have bc:(lc:Int)<=(lc:Int):=by omega
         have aC:Hid (Src csRw 1 wx (.slice (some ad) lc lc) (rs.take lc)):=zA (jbM H.out HN.out hk);have aU:Hid (Src csRw 1 wx (.slice (some ad) 0 0) (rs.drop lc)):=zA (by
          have h:=jcG H.out HN.out hk a8;rw[if_pos rfl,Nat.sub_self]at h;exact h)
         go_wp2_with (at_builtin;refine jah rfl _ _ rfl Tryz.underlying28 aw av ay ax rfl (by decide) (by rfl) (World.ownsRow_nil _ wx.heap.size _ _) (some ad) ((rs.take lc).flatMap csRw) lc lc (by rfl) (by rw[jaz jaw,zX,<- HN.out];omega) (fun e=>aC.out.no _ _ (by rw[e])) (aC.out.cells jaw (by decide)) (jbN _ (fun p hp=>aG p (by first|exact List.mem_of_mem_take hp|exact List.mem_of_mem_drop hp))) (by unfold maxLen;omega) (by omega) (zD _) ?_);intro v3 w3 ah af;obtain⟨X3,an⟩:=eX ((rs.take lc).flatMap csRw);have aT:=zA an;have aa:w3.ownsRow wx.heap.size 34 1 v3 lc X3:=by
          rw[an];simpa using ah
         have aj:Hid (Below wx.heap.size wx w3):=zA (Below.grown (zF _ _) af (zD _) (fun k hk=>by cases hk));obtain⟨a3,c3,aL⟩:=jab aa;subst aL;have aE:=zA aa;have bo:wx.heap.size<=w3.heap.size:=aj.out.size;clear ah af aa an;go_wp2_with (at_builtin;refine wpList_append_lies _ rfl _ _ _ rfl wx.heap.size 34 i0 _ 1 24 Tryz.underlying28 aw av ay ax rfl (by decide) (.slice a3 lc c3) _ _ (by rfl) (aE.out.alloc _) ⟨w3.heap.size,0,none⟩ 1 1 [.slice ra rn rc] (by rfl) (by rfl) (World.news_of_block (cs:=#[.slice ra rn rc]) (t:=34) (fr:=(0,0)) (heap_alloc_new w3 _)) (by simp[bb]) (by decide) (by unfold maxLen;omega) (by omega) (by simp;omega) (w3.heap.size+1) (by simp) ?_);intro gg aP w4 ac ag ao ap;have ba:Below w3.heap.size w3 (w3.alloc (.cells #[.slice ra rn rc] 34)):=(zF _ _).alloc (zD _) _;have ai:Hid (Below wx.heap.size wx w4):=zA ((aj.out.trans (ba.mono aj.out.size)).grown ag (by simp;omega) (fun k e=>(aE.out.lt k e).1));obtain⟨X4,aq⟩:=eX (X3++[.slice ra rn rc]);have aO:=zA aq;rw[<- aq]at ac;have aA:=zA ac;have aD:=zA (aU.out.below ai.out);have aN:wx.heap.size<=w4.heap.size:=ai.out.size;clear ac ag ao ap ba aq;go_wp2_with (at_builtin;refine jah rfl _ _ rfl Tryz.underlying28 aw av ay ax rfl (by decide) (by rfl) aA.out (some ad) ((rs.drop lc).flatMap csRw) 0 0 (by rfl) (by rw[jaz jaw,yS,<- HN.out];try omega) (fun e=>aD.out.no _ _ (by rw[e])) (aD.out.cells jaw (by decide)) (jbN _ (fun p hp=>aG p (by first|exact List.mem_of_mem_take hp|exact List.mem_of_mem_drop hp))) (by unfold maxLen;omega) (by omega) aN ?_);intro v5 w5 ab ae;have az:Hid (Below wx.heap.size wx w5):=zA (ai.out.grown ae ai.out.size (fun k hk=>(aA.out.lt k hk).1));have aB:Hid (w5.ownsRow wx.heap.size 34 1 v5 RS.length (RS.flatMap csRw)):=zA (by
          rw[HT.out,zG,zG,zX,yS,zP,zP,<- aT.out,<- HN.out];rw[aO.out]at ab;have e1:min lc lc+[(Value.slice ra rn rc,r)].length+(lc-lc)=lc+1+(lc-lc):=by rw[Nat.min_eq_left hk];rfl
          rw[e1];simpa using ab)
         obtain⟨a5,c5,aR⟩:=jab ab;subst aR;clear ab ae;go_wp2;go_ret;exact⟨_,rfl,⟨RS,⟨Src.own jaw aB.out rfl,jbs aB.out,aY.out _ az.out⟩,a0.out⟩,am.out.trans (az.out.mono am.out.size)⟩
       . have bq:(k:Int)<=(lc:Int):=by omega
         have br:(k:Int)<=(lc:Int):=by omega
         have bc:(k:Int)<=(k:Int):=by omega
         have aC:Hid (Src csRw 1 wx (.slice (some ad) k lc) (rs.take k)):=zA (jbM H.out HN.out hk);have aU:Hid (Src csRw 1 wx (.slice (some (ad.add k)) 0 (lc-k)) (rs.drop k)):=zA (by
          have h:=jcG H.out HN.out hk a8;rw[if_neg bf,Nat.sub_self,Option.map_some]at h;exact h)
         go_wp2_with (at_builtin;refine jah rfl _ _ rfl Tryz.underlying28 aw av ay ax rfl (by decide) (by rfl) (World.ownsRow_nil _ wx.heap.size _ _) (some ad) ((rs.take k).flatMap csRw) k lc (by rfl) (by rw[jaz jaw,zX,<- HN.out];omega) (fun e=>aC.out.no _ _ (by rw[e])) (aC.out.cells jaw (by decide)) (jbN _ (fun p hp=>aG p (by first|exact List.mem_of_mem_take hp|exact List.mem_of_mem_drop hp))) (by unfold maxLen;omega) (by omega) (zD _) ?_);intro v3 w3 ah af;obtain⟨X3,an⟩:=eX ((rs.take k).flatMap csRw);have aT:=zA an;have aa:w3.ownsRow wx.heap.size 34 1 v3 k X3:=by
          rw[an];simpa using ah
         have aj:Hid (Below wx.heap.size wx w3):=zA (Below.grown (zF _ _) af (zD _) (fun k hk=>by cases hk));obtain⟨a3,c3,aL⟩:=jab aa;subst aL;have aE:=zA aa;have bo:wx.heap.size<=w3.heap.size:=aj.out.size;clear ah af aa an;go_wp2_with (at_builtin;refine wpList_append_lies _ rfl _ _ _ rfl wx.heap.size 34 i0 _ 1 24 Tryz.underlying28 aw av ay ax rfl (by decide) (.slice a3 k c3) _ _ (by rfl) (aE.out.alloc _) ⟨w3.heap.size,0,none⟩ 1 1 [.slice ra rn rc] (by rfl) (by rfl) (World.news_of_block (cs:=#[.slice ra rn rc]) (t:=34) (fr:=(0,0)) (heap_alloc_new w3 _)) (by simp[bb]) (by decide) (by unfold maxLen;omega) (by omega) (by simp;omega) (w3.heap.size+1) (by simp) ?_);intro gg aP w4 ac ag ao ap;have ba:Below w3.heap.size w3 (w3.alloc (.cells #[.slice ra rn rc] 34)):=(zF _ _).alloc (zD _) _;have ai:Hid (Below wx.heap.size wx w4):=zA ((aj.out.trans (ba.mono aj.out.size)).grown ag (by simp;omega) (fun k e=>(aE.out.lt k e).1));obtain⟨X4,aq⟩:=eX (X3++[.slice ra rn rc]);have aO:=zA aq;rw[<- aq]at ac;have aA:=zA ac;have aD:=zA (aU.out.below ai.out);have aN:wx.heap.size<=w4.heap.size:=ai.out.size;clear ac ag ao ap ba aq;go_wp2_with (at_builtin;refine jah rfl _ _ rfl Tryz.underlying28 aw av ay ax rfl (by decide) (by rfl) aA.out (some (ad.add k)) ((rs.drop k).flatMap csRw) 0 (lc-k) (by rfl) (by rw[jaz jaw,yS,<- HN.out];try omega) (fun e=>aD.out.no _ _ (by rw[e])) (aD.out.cells jaw (by decide)) (jbN _ (fun p hp=>aG p (by first|exact List.mem_of_mem_take hp|exact List.mem_of_mem_drop hp))) (by unfold maxLen;omega) (by omega) aN ?_);intro v5 w5 ab ae;have az:Hid (Below wx.heap.size wx w5):=zA (ai.out.grown ae ai.out.size (fun k hk=>(aA.out.lt k hk).1));have aB:Hid (w5.ownsRow wx.heap.size 34 1 v5 RS.length (RS.flatMap csRw)):=zA (by
          rw[HT.out,zG,zG,zX,yS,zP,zP,<- aT.out,<- HN.out];rw[aO.out]at ab;have e1:min k k+[(Value.slice ra rn rc,r)].length+(k-k)=k+1+(k-k):=by rw[Nat.min_eq_left hk];rfl
          rw[e1];simpa using ab)
         obtain⟨a5,c5,aR⟩:=jab ab;subst aR;clear ab ae;go_wp2;go_ret;exact⟨_,rfl,⟨RS,⟨Src.own jaw aB.out rfl,jbs aB.out,aY.out _ az.out⟩,a0.out⟩,am.out.trans (az.out.mono am.out.size)⟩
end Go.Proofs.YtkbgmcmcpbegjaaGreatDoor
