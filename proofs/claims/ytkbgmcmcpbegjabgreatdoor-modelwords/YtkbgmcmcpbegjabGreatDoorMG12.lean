/- ABoth, ACut, MPut, MVert, MOpen, MRow, BAcc, BFol, MMem. -/
import Derived.Test.YtkbgmcmcpbegjabGreatDoorMG8
import Derived.Test.YtkbgmcmcpbegjabGreatDoorMG4
import Derived.Test.YtkbgmcmcpbegjabGreatDoorMG11
import Derived.Maps.AppendAt
import Derived.Deep.RegionLaw
import Derived.Laws.ResultCell
import Derived.Deep.WholeRow
import Derived.OwnWalk
import Derived.Laws.OwnMore
set_option maxRecDepth 100000
namespace Go.Proofs.YtkbgmcmcpbegjabGreatDoor
open Go.RowKit Go.Shelf
theorem run_append_many{w:World}{B n k:Nat}{v:Value}{xs:List Value}{t e:TypeId}{i0:TypeInfo}{z:Value}{bytes:Nat}(ht:Tryz.prog.underlying t=some (.slice e))(hi:Tryz.prog.info? e=some i0)(hz0:i0.zero=some z)(hz1:i0.size=k)(hz2:i0.bytes=bytes)(hz3:z.cells.size=k)(hk:0<k)
 (hown:w.ownsRow B e k v n xs) (ao:Option Addr) (us:List Value) (m cap:Nat) (hm:us.length=m*k) (hnone:ao=none->m=0/\cap=0) (hc:∀ad,ao=some ad->∀j u,us[j]?=some u->w.cell? (ad.add j)=some u) (h1:∀u∈us,u.oneCell'=true)
 (h63:n+m<=maxLen) (hb:(n+m)*bytes<=140737488355328) (hB:B<=w.heap.size) (ty:TypeId):
 ∃v' w',(Builtin.append_ #[t,t] ty #[v,.slice ao m cap]).run Tryz.prog w=.ok v' w'/\w'.ownsRow B e k v' (n+m) (xs++us)/\w.grownBy w' v.ownBlock:=by
 cases ao with
 |some ad=>
  obtain⟨v',w',hr,h2,h3,_,_⟩:=run_append_own_at (P:=Tryz.prog) w B t ty e i0 z k bytes ht hi hz0 hz1 hz2 hz3 hk v n xs hown ad m cap us hm (hc ad rfl) h1 h63 hb hB;exact⟨v',w',hr,h2,h3⟩
 |none=>
  obtain⟨rfl,rfl⟩:=hnone rfl;have e0:us=[]:=yP.1 (by omega);subst e0;have hrun:=run_append_owned_none (P:=Tryz.prog) w B t ty e i0 k ht hi v n xs hown;exact⟨v,w,hrun,by simpa using hown,World.grownBy.refl _ _⟩
theorem wpList_append_many{w:World}{ops:Array Oper}{rest:List Oper}{o:Oper}{a:Act}{Q:Exit->Act->World->Prop}(hgd:o.guard=none)(sl x:Operand){t:TypeId}
 (ho:o.op=.call { callee:=.builtin .append,args:=#[sl,x],argTypes:=#[t,t] })
 {B n k:Nat} {v:Value} {xs:List Value} {e:TypeId} {i0:TypeInfo} {z:Value} {bytes:Nat} (ht:Tryz.prog.underlying t=some (.slice e)) (hi:Tryz.prog.info? e=some i0) (hz0:i0.zero=some z) (hz1:i0.size=k) (hz2:i0.bytes=bytes) (hz3:z.cells.size=k) (hk:0<k)
 (hs:a.eval sl=v) (hown:w.ownsRow B e k v n xs) (ao:Option Addr) (us:List Value) (m cap:Nat) (hx:a.eval x=.slice ao m cap) (hm:us.length=m*k) (hnone:ao=none->m=0/\cap=0) (hc:∀ad,ao=some ad->∀j u,us[j]?=some u->w.cell? (ad.add j)=some u) (h1:∀u∈us,u.oneCell'=true)
 (h63:n+m<=maxLen) (hb:(n+m)*bytes<=140737488355328) (hB:B<=w.heap.size)
 (h:∀v' w',w'.ownsRow B e k v' (n+m) (xs++us)->w.grownBy w' v.ownBlock->wpList Tryz.prog ops Q rest (a.put o.dst v') w'):wpList Tryz.prog ops Q (o::rest) a w:=by
 refine wpList_plain hgd fun K hK=>?_
 obtain⟨v',w',hr,h2,h3⟩:=run_append_many ht hi hz0 hz1 hz2 hz3 hk hown ao us m cap hm hnone hc h1 h63 hb hB o.type;unfold Oper.wp execOp;simp only[ho,resolve,invoke,builtin,Sem.run_bind,Sem.run_pure,Result.andThen_ok,List.map_toArray,List.map_cons,List.map_nil,hs,hx,hr];exact hK _ _ (h v' w' h2 h3)
structure Src {α:Type} (enc:α->List Value) (k:Nat) (w:World) (v:Value) (L:List α):Prop where
 sl:SlS enc k (fun _=>True) w v L
 no:∀n cap,v=.slice none n cap->n=0/\cap=0
section
variable {α:Type} {enc:α->List Value} {k:Nat}
theorem Src.below{w w':World}{v:Value}{L:List α}(h:Src enc k w v L)(hb:Below w.heap.size w w'):Src enc k w' v L:=⟨h.sl.below hb,h.no⟩
theorem Src.own(hk:∀x,(enc x).length=k){w:World}{B n:Nat}{e:TypeId}{v:Value}{L:List α}(h:w.ownsRow B e k v n (L.flatMap enc))(hn:n=L.length):Src enc k w v L:=by
 refine⟨(own_sl hk h hn).sub (fun _ _ _=>trivial),fun m cap e=>?_⟩;rcases h.2 with⟨h1,_⟩|⟨g,c,cur,h1,_⟩
 . rw[h1]at e;injection e with _ e2 e3;exact⟨e2.symm,e3.symm⟩
 . rw[h1]at e;injection e with e1;cases e1
theorem addA(g i j:Nat):(⟨g,i,none⟩:Addr).add j=⟨g,i+j,none⟩:=by
 unfold Addr.add;split<;>simp_all
theorem Src.cells(hk:∀x,(enc x).length=k)(hk0:0<k){w:World}{ao:Option Addr}{n cap:Nat}{L:List α}(h:Src enc k w (.slice ao n cap) L):∀ad,ao=some ad->∀j u,(L.flatMap enc)[j]?=some u->w.cell? (ad.add j)=some u:=by
 intro ad he j u hu;have hj:j<(L.flatMap enc).length:=(zE.1 hu).1;rw[flat_len hk]at hj;have hq:j/k<L.length:=Nat.div_lt_of_lt_mul (by rw[Nat.mul_comm];exact hj);have hx:=zB hq;have hc:=Nat.mod_lt j hk0;have hs:=Nat.div_add_mod' j k;obtain⟨g,off,e1,_,_,hcell⟩:=h.sl.get hx;rw[he]at e1;injection e1 with e1;subst e1;rw[addA,<- hs,show off+(j/k*k+j%k)=off+j/k*k+j%k by omega];refine hcell _ u ?_;rw[<- flat_at hk L _ _ _ hx hc,hs];exact hu
end
theorem csZ_len(x:Int):(csZ x).length=1:=rfl
section
variable {α:Type} {enc:α->List Value} {k:Nat}
theorem sl_take{S:Nat->Prop}{w:World}{ao:Option Addr}{n cap cap2 i:Nat}{L:List α}(h:SlS enc k S w (.slice ao n cap) L)(hi:i<=L.length):SlS enc k S w (.slice ao i cap2) (L.take i):=by
 obtain⟨a,c,e,h⟩:=h;injection e with e1 e2 e3;subst e1;refine⟨ao,cap2,by rw[yH];congr 1;omega,?_⟩;rcases h with rfl|⟨g,off,e1,hs,hl,hc⟩
 . left;simp
 . refine .inr ⟨g,off,e1,hs,hl,fun j x hx c u hu=>hc j x ?_ c u hu⟩;rw[List.getElem?_take]at hx;split at hx
   . exact hx
   . cases hx
theorem sl_drop{S:Nat->Prop}{w:World}{g off n cap cap2 i:Nat}{L:List α}(h:SlS enc k S w (.slice (some ⟨g,off,none⟩) n cap) L)(hn:n=L.length):SlS enc k S w (.slice (some ⟨g,off+i*k,none⟩) (n-i) cap2) (L.drop i):=by
 obtain⟨a,c,e,h⟩:=h;injection e with e1 e2 e3;subst e1;refine⟨_,cap2,by rw[List.length_drop,hn],?_⟩;rcases h with rfl|⟨g',off',e1,hs,hl,hc⟩
 . left;simp
 . injection e1 with e1;injection e1 with e1 e4;subst e1 e4;refine .inr ⟨g,_,rfl,hs,hl,fun j x hx c u hu=>?_⟩;rw[List.getElem?_drop]at hx;have:=hc (i+j) x hx c u hu;rw[Nat.add_mul]at this;rw[show off+i*k+j*k+c=off+(i*k+j*k)+c by omega];exact this
theorem sl_end{S:Nat->Prop}{w:World}(ao:Option Addr)(cap:Nat):SlS enc k S w (.slice ao 0 cap) []:=⟨ao,cap,rfl,.inl rfl⟩
end
theorem not_bothW{a b:Wd}(h:¬a=b):¬a=b/\(a==b)=false:=⟨h,by simpa using h⟩
theorem own_capM{w:World}{B n:Nat}{e:TypeId}{size:Nat}{v:Value}{xs:List Value}(h:w.ownsRow B e size v n xs):CapS v n:=by
 rcases h.2 with⟨rfl,rfl⟩|⟨g,cap,cur,rfl,_,_,hle,_⟩
 . exact⟨none,0,rfl,zD _⟩
 . exact⟨_,cap,rfl,hle⟩
section
variable {α:Type} {enc:α->List Value} {kk:Nat}
theorem src_take{w:World}{ao:Option Addr}{n cap i:Nat}{L:List α}(h:Src enc kk w (.slice ao n cap) L)(hn:n=L.length)(hi:i<=n):Src enc kk w (.slice ao i cap) (L.take i):=by
 refine⟨sl_take h.sl (by omega),fun m c e=>?_⟩;injection e with e1 e2 e3;have:=h.no n cap (by rw[e1]);omega
end
theorem src_drop{α:Type}{enc:α->List Value}{w:World}{ao:Option Addr}{n cap i:Nat}{L:List α}(h:Src enc 1 w (.slice ao n cap) L)(hn:n=L.length)(hi:i<=n)(hc:n<=cap):Src enc 1 w (.slice (if cap=i then ao else Option.map (fun x=>x.add i) ao) (n-i) (cap-i)) (L.drop i):=by
 cases ao with
 |none=>
  have h0:=h.no n cap rfl;have hL:L=[]:=yP.1 (by omega);subst hL;have e1:(if cap=i then none else Option.map (fun x:Addr=>x.add i) none)=none:=by split<;>rfl
  rw[e1,List.drop_nil,show n-i=0 by omega,show cap-i=0 by omega];exact⟨SlS.nil _ _,fun m c e=>by injection e with _ e2 e3;exact⟨e2.symm,e3.symm⟩⟩
 |some a=>
  by_cases e:cap=i
  . rw[if_pos e];have h1:L.drop i=[]:=List.drop_eq_nil_iff.2 (by omega);rw[h1,show n-i=0 by omega];exact⟨sl_end _ _,fun m c e=>by cases e⟩
  . rw[if_neg e];refine⟨?_,fun m c e=>by cases e⟩;rcases L with _|⟨y,L⟩
    . rw[List.drop_nil,show n-i=0 by rw[hn];simp];exact sl_end _ _
    . obtain⟨g,off,e1,_⟩:=h.sl.get (j:=0) (x:=y) rfl;injection e1 with e1;subst e1;have:=sl_drop (i:=i) (cap2:=cap-i) h.sl hn;rw[yF]at this;rw[Option.map_some,addA];exact this
def SrcW(w:World)(v:Value)(L:List Wd):Prop:=Src csT 1 w v L/\CapS v L.length
theorem SrcW.below{w w':World}{v:Value}{L:List Wd}(h:SrcW w v L)(hb:Below w.heap.size w w'):SrcW w' v L:=⟨h.1.below hb,h.2⟩
abbrev csF(f:Fa):List Value:=[.string ⟨f.1.toArray⟩,.string ⟨f.2.1.toArray⟩,.string ⟨f.2.2.toArray⟩]
theorem csF_len(x:Fa):(csF x).length=3:=rfl
abbrev FasS:=SlS csF 3
theorem getF{w:World}{g o:Nat}{f:Fa}(h:∀(c:Nat) u,(csF f)[c]?=some u->w.cell? ⟨g,o+c,none⟩=some u):w.cell? ⟨g,o,none⟩=some (.string ⟨f.1.toArray⟩)/\w.cell? ⟨g,o+1,none⟩=some (.string ⟨f.2.1.toArray⟩)/\w.cell? ⟨g,o+2,none⟩=some (.string ⟨f.2.2.toArray⟩):=
 ⟨h 0 _ rfl,h 1 _ rfl,h 2 _ rfl⟩
end Go.Proofs.YtkbgmcmcpbegjabGreatDoor
namespace Go.Proofs.YtkbgmcmcpbegjabGreatDoor
open Go.RowKit
theorem cellsMT:Tryz.prog.cellsOf 25=3:=by kernel_rfl
theorem open_fact{H:Type}{enc:TypeId×Value->H}{W:World}{fuel:Nat}{cs:List Value}{x:DataW H×List MemPlace}
 (hf:DataW.trod enc Tryz.prog W 0 (fun _=>true) true fuel 25 cs=some x) (hw:∀m∈x.1.weights Tryz.prog 25,m<=reachBytes):∃t:Fa,cs=csF t/\t.1.length<=140737488351232/\t.2.1.length<=140737488351232/\t.2.2.length<=140737488351232:=by
 obtain⟨y0,y1,y2,n,hx,hlen,h0,h1,h2⟩:=Go.Deep.trod_struct3 Tryz.underlying25 hf;rw[cellsMT]at hlen;obtain⟨c0,c1,c2,rfl⟩:∃c0 c1 c2,cs=[c0,c1,c2]:=by
  match cs,hlen with
  |[c0,c1,c2],_=>exact⟨c0,c1,c2,rfl⟩
 simp only[cellsQS,List.drop_zero,List.drop_succ_cons,List.take_succ_cons,List.take_zero]at h0 h1 h2;obtain⟨s0,k0,e0,l0⟩:=DataW.trod_string Tryz.underlying9 h0;obtain⟨s1,k1,e1,l1⟩:=DataW.trod_string Tryz.underlying9 h1;obtain⟨s2,k2,e2,l2⟩:=DataW.trod_string Tryz.underlying9 h2;simp only[List.cons.injEq,and_true]at k0 k1 k2;subst k0 k1 k2;rw[hx]at hw;simp only[DataW.weights,Tryz.underlying25,List.map_cons,List.map_nil,DataW.weightsEach,List.append_nil]at hw;refine⟨(s0.data.toList,s1.data.toList,s2.data.toList),rfl,?_,?_,?_⟩
 . exact hw _ (by rw[e0];simp[DataW.weights])
 . exact hw _ (by rw[e1];simp[DataW.weights])
 . exact hw _ (by rw[e2];simp[DataW.weights])
theorem open_facts{H:Type}{enc:TypeId×Value->H}{W:World}{fuel:Nat}{v:Value}{x:DataW H×List MemPlace}
 (hf:DataW.trod enc Tryz.prog W 0 (fun _=>true) true fuel 22 [v]=some x) (hw:∀m∈x.1.weights Tryz.prog 22,m<=reachBytes):
 ∃L:List Fa,FasS (fun _=>True) W v L/\(∀t∈L,t.1.length<=140737488351232/\t.2.1.length<=140737488351232/\t.2.2.length<=140737488351232)/\L.length<=maxLen/\CapS v L.length:=
 open_slN (en:=csF) ([],[],[]) csF_len (by decide) Tryz.underlying22 cellsMT (fun t=>t.1.length<=140737488351232/\t.2.1.length<=140737488351232/\t.2.2.length<=140737488351232) (fun _ cs y _ h hq=>open_fact h hq) hf hw
def FinF(v:Value)(L:List Fa):Prop:=L.length<=9223372036854775807/\(∀t∈L,t.1.length<=140737488351232/\t.2.1.length<=140737488351232/\t.2.2.length<=140737488351232)/\CapS v L.length
end Go.Proofs.YtkbgmcmcpbegjabGreatDoor
namespace Go.Proofs.YtkbgmcmcpbegjabGreatDoor
open Go.RowKit Go.Shelf
theorem lessR_drop:∀(i:Nat) (a b:Rw),a.take i=b.take i->i<=a.length->i<=b.length->lessR a b=lessR (a.drop i) (b.drop i)
 |0,_,_,_,_,_=>rfl
 |i+1,[],_,_,h,_=>by simp at h
 |i+1,_::_,[],_,_,h=>by simp at h
 |i+1,x::a,y::b,h,h1,h2=>by
  simp only[List.take_succ_cons,List.cons.injEq]at h;rw[lessR,if_pos h.1,List.drop_succ_cons,List.drop_succ_cons];exact lessR_drop i a b h.2 (by simpa using h1) (by simpa using h2)
theorem drop_at{α:Type}{l:List α}{i:Nat}{x:α}(h:l[i]?=some x):l.drop i=x::l.drop (i+1):=by
 have hi:=(zE.1 h).1;have he:=(zE.1 h).2;rw[List.drop_eq_getElem_cons hi,he]
set_option maxHeartbeats 4000000 in
theorem rLess_any{S T:Nat->Prop}{w:World}{v1 v2:Value}{L1 L2:Rw}(h1:TxtS S w v1 L1)(h2:TxtS T w v2 L2)(hl1:L1.length<=1000000):
 Calls Tryz.prog 33 #[v1,v2] w fun e w'=>e=.returned (.bool (lessR L1 L2))/\Below w.heap.size w w':=by
 obtain⟨a1,c1,rfl⟩:=h1.slice;obtain⟨a2,c2,rfl⟩:=h2.slice;have H1:=zA h1;have H2:=zA h2;obtain⟨n1,hn1⟩:∃n,n=L1.length:=⟨_,rfl⟩
 obtain⟨n2,hn2⟩:∃n,n=L2.length:=⟨_,rfl⟩
 rw[<- hn1]at H1 hl1 ⊢;rw[<- hn2]at H2 ⊢;have HN1:=zA hn1;have HN2:=zA hn2;obtain⟨r,hr⟩:∃r,r=lessR L1 L2:=⟨_,rfl⟩
 rw[<- hr];have HR:=zA hr;clear h1 h2 hn1 hn2 hr;go_enter Tryz.func33,Tryz.ntmps33;go_wp2_with fail;go_loopw [5] (fun c wr=>∃i:Nat,i<=n1/\i<=n2/\c=.int .i64 i/\L1.take i=L2.take i/\Below w.heap.size w wr) (fun c _=>n1-(intOf c).toNat)
 case atStart=>exact⟨0,zR _,zR _,rfl,rfl,zF _ _⟩
 case round=>
  obtain⟨i,hi1,hi2,rfl,htk,hbq⟩:=hrel;have HBQ:=zA hbq;have HTK:=zA htk;have HD:Hid (r=lessR (L1.drop i) (L2.drop i)):=zA (by rw[HR.out];exact lessR_drop i L1 L2 htk (by rw[<- HN1.out];exact hi1) (by rw[<- HN2.out];exact hi2));clear hbq htk;by_cases hlt1:i<n1
  . have hlt1I:(i:Int)<(n1:Int):=by omega
    by_cases hlt2:i<n2
    . have hlt2I:(i:Int)<(n2:Int):=by omega
      obtain⟨x,hx⟩:∃x,L1[i]?=some x:=⟨_,zB (by rw[<- HN1.out];exact hlt1)⟩
      obtain⟨y,hy⟩:∃y,L2[i]?=some y:=⟨_,zB (by rw[<- HN2.out];exact hlt2)⟩
      obtain⟨g1,o1,e1,_,_,hc1⟩:=(H1.out.below HBQ.out).get hx;obtain⟨g2,o2,e2,_,_,hc2⟩:=(H2.out.below HBQ.out).get hy;subst e1 e2;have q1:=hc1 0 _ rfl;have q2:=hc2 0 _ rfl;rw[yF,yJ]at q1 q2;rw[drop_at hx,drop_at hy,lessR]at HD;have HX:=zA (And.intro hx hy);clear hx hy hc1 hc2;by_cases exy:x=y
      . have HT2:Hid (L1.take (i+1)=L2.take (i+1)):=zA (by rw[zU,zU,HX.out.1,HX.out.2,HTK.out,exy]);subst exy;go_wp2_with fail;go_quiet (fail);have HB9:=zA (below_drewN HBQ.out nq);go_wp2;go_roundw
        case rel=>exact⟨i+1,by omega,by omega,by go_num,HT2.out,HB9.out⟩
        case measure=>simp[intOf];omega
      . obtain⟨e1,e2⟩:=not_bothW exy;rw[if_neg exy]at HD;have HD2:Hid (r=Op.bytesLess x y):=HD;clear exy HD;cases hls:Op.bytesLess x y with
        |true=>
         rw[hls]at HD2;go_wp2_with fail;go_quiet (fail);obtain⟨W,hW⟩:∃W,W=wr.drewN nq:=⟨_,rfl⟩
         have HBW:Hid (Below w.heap.size w W):=zA (by rw[hW];exact below_drewN HBQ.out nq);have p1:W.cell? ⟨g1,o1+i,none⟩=some (.string ⟨x.toArray⟩):=by rw[hW];exact q1
         have p2:W.cell? ⟨g2,o2+i,none⟩=some (.string ⟨y.toArray⟩):=by rw[hW];exact q2
         rw[<- hW];clear hW q1 q2;go_wp2_with fail;go_quiet (fail);have HB9:=zA (below_drewN HBW.out nq);go_wp2;go_ret;exact⟨by rw[HD2.out];rfl,HB9.out⟩
        |false=>
         rw[hls]at HD2;go_wp2_with fail;go_quiet (fail);obtain⟨W,hW⟩:∃W,W=wr.drewN nq:=⟨_,rfl⟩
         have HBW:Hid (Below w.heap.size w W):=zA (by rw[hW];exact below_drewN HBQ.out nq);have p1:W.cell? ⟨g1,o1+i,none⟩=some (.string ⟨x.toArray⟩):=by rw[hW];exact q1
         have p2:W.cell? ⟨g2,o2+i,none⟩=some (.string ⟨y.toArray⟩):=by rw[hW];exact q2
         rw[<- hW];clear hW q1 q2;go_wp2_with fail;go_quiet (fail);have HB9:=zA (below_drewN HBW.out nq);go_wp2;go_ret;exact⟨by rw[HD2.out];rfl,HB9.out⟩
    . have hlt2I:¬(i:Int)<(n2:Int):=by omega
      have hd:decide ((i:Int)<(n2:Int))=false:=decide_eq_false hlt2I;have hnn:¬(n1:Int)<(n2:Int):=by omega
      have HT:Hid (r=false):=zA (by
       have e2:L2.drop i=[]:=List.drop_eq_nil_iff.2 (by rw[<- HN2.out];omega);obtain⟨x,hx⟩:∃x,L1[i]?=some x:=⟨_,zB (by rw[<- HN1.out];exact hlt1)⟩
       rw[HD.out,e2,drop_at hx];rfl)
      go_wp2;go_ret;exact⟨by rw[HT.out];rfl,HBQ.out⟩
  . have hlt1I:¬(i:Int)<(n1:Int):=by omega
    have hd:decide ((i:Int)<(n1:Int))=false:=decide_eq_false hlt1I;have e1:L1.drop i=[]:=List.drop_eq_nil_iff.2 (by rw[<- HN1.out];omega);by_cases hnn:(n1:Int)<(n2:Int)
    . have HT:Hid (r=true):=zA (by
       obtain⟨y,hy⟩:∃y,L2[i]?=some y:=⟨_,zB (by rw[<- HN2.out];omega)⟩
       rw[HD.out,e1,drop_at hy];rfl)
      clear e1;go_wp2;go_ret;exact⟨by rw[HT.out];rfl,HBQ.out⟩
    . have HT:Hid (r=false):=zA (by
       have e2:L2.drop i=[]:=List.drop_eq_nil_iff.2 (by rw[<- HN2.out];omega);rw[HD.out,e1,e2];rfl)
      clear e1;go_wp2;go_ret;exact⟨by rw[HT.out];rfl,HBQ.out⟩
set_option maxHeartbeats 2000000 in
theorem rSameRow_any{S T:Nat->Prop}{w:World}{v1 v2:Value}{L1 L2:Rw}(h1:TxtS S w v1 L1)(h2:TxtS T w v2 L2)(hl1:L1.length<=1000000)(hl2:L2.length<=1000000):
 Calls Tryz.prog 34 #[v1,v2] w fun e w'=>e=.returned (.bool (decide (L1=L2)))/\Below w.heap.size w w':=by
 obtain⟨r,hr⟩:∃r,r=decide (L1=L2):=⟨_,rfl⟩
 rw[<- hr];have HR:=zA hr;have C1:=zA (rLess_any h1 h2 hl1);have C2:=zA (fun u (hu:Below w.heap.size w u)=>rLess_any (h2.below hu) (h1.below hu) hl2);obtain⟨x,hx⟩:∃x,x=lessR L1 L2:=⟨_,rfl⟩
 obtain⟨y,hy⟩:∃y,y=lessR L2 L1:=⟨_,rfl⟩
 rw[<- hx]at C1;rw[<- hy]at C2;have HX:=zA hx;have HY:=zA hy;clear hr hx hy h1 h2;go_enter Tryz.func34,Tryz.ntmps34;go_wp2_with fail;refine C1.out.mono ?_;rintro e w1 ⟨rfl,hb1⟩;have HB1:=zA hb1;clear hb1;cases x with
 |true=>
  have HT:Hid (r=false):=zA (by rw[HR.out];exact decide_eq_false (ordR.ne HX.out.symm));go_wp2;go_ret;exact⟨by rw[HT.out];rfl,HB1.out⟩
 |false=>
  have HT:Hid (r= !y):=zA (by
   rw[HR.out];cases y with
   |true=>exact decide_eq_false (fun e=>ordR.ne HY.out.symm e.symm)
   |false=>exact yA (lessR_tot _ _ HX.out.symm HY.out.symm))
  go_wp2_with fail;refine(C2.out _ HB1.out).mono ?_;rintro e w2 ⟨rfl,hb2⟩;have HB2:=zA (HB1.out.trans (hb2.mono HB1.out.size));clear hb2;cases y with
  |true=>
   go_wp2;go_ret;exact⟨by rw[HT.out];rfl,HB2.out⟩
  |false=>
   go_wp2;go_ret;exact⟨by rw[HT.out];rfl,HB2.out⟩
end Go.Proofs.YtkbgmcmcpbegjabGreatDoor
namespace Go.Proofs.YtkbgmcmcpbegjabGreatDoor
open Go.RowKit
def wsetN(ws:List Wd)(s:Wd):Nat->Nat
 |0=>0
 |k+1=>if ws[k]?=some s then wsetN ws s k ||| 2^k else wsetN ws s k
theorem wset_bit(ws:List Wd)(s:Wd)(j:Nat):∀k,(wsetN ws s k).testBit j=true↔j<k/\ws[j]?=some s
 |0=>by simp[wsetN]
 |k+1=>by
  rw[wsetN];split
  . rename_i h;rw[Nat.testBit_or,Bool.or_eq_true,wset_bit ws s j k,Nat.testBit_two_pow,decide_eq_true_eq];constructor
    . rintro (⟨h1,h2⟩|rfl)
      . exact⟨by omega,h2⟩
      . exact⟨by omega,h⟩
    . rintro⟨h1,h2⟩;by_cases e:k=j
      . exact .inr e
      . exact .inl ⟨by omega,h2⟩
  . rename_i h;rw[wset_bit ws s j k];constructor
    . rintro⟨h1,h2⟩;exact⟨by omega,h2⟩
    . rintro⟨h1,h2⟩;have:j≠k:=fun e=>h (by rw[<- e];exact h2)
      exact⟨by omega,h2⟩
theorem wset_lt(ws:List Wd)(s:Wd):∀k,k<=24->wsetN ws s k<16777216
 |0,_=>by simp[wsetN]
 |k+1,h=>by
  rw[wsetN];have:=wset_lt ws s k (by omega);split
  . exact or_lt24 this (pow_lt24 (by omega))
  . exact this
def FolAt(w:World)(b o:Nat)(F:Nat->Nat):Prop:=∀j,j<24->w.cell? ⟨b,o+j,none⟩=some (.int .u32 (F j:Int))/\w.frozen? ⟨b,o+j,none⟩=false
theorem FolAt.keep{w w':World}{b o:Nat}{F:Nat->Nat}(h:FolAt w b o F)(hb:w'.heap[b]?=w.heap[b]?):FolAt w' b o F:=fun j hj=>by
 have:=h j hj;simpa only[World.cell?,World.frozen?,hb]using this
theorem FolAt.set{w:World}{b o:Nat}{F:Nat->Nat}(h:FolAt w b o F){i x:Nat}(hi:i<24):FolAt (w.setCell ⟨b,o+i,none⟩ (.int .u32 (x:Int))) b o (fun j=>if j=i then x else F j):=fun j hj=>by
 rw[World.frozen?_setCell];refine⟨?_,(h j hj).2⟩;by_cases e:j=i
 . subst e;rw[World.cell?_setCell_same _ _ _ (h j hj).1];simp
 . rw[World.cell?_setCell_other _ _ _ _ (fun h=>e (by injection h with h1 h2;omega)),(h j hj).1];simp[e]
theorem FolAt.congr{w:World}{b o:Nat}{F G:Nat->Nat}(h:FolAt w b o F)(hg:∀j,j<24->F j=G j):FolAt w b o G:=fun j hj=>by rw[(h j hj).1,hg j hj];exact⟨rfl,(h j hj).2⟩
end Go.Proofs.YtkbgmcmcpbegjabGreatDoor
namespace Go.Proofs.YtkbgmcmcpbegjabGreatDoor
open Go.RowKit Go.Shelf
def bCells(n:Nat)(f:Nat->Bool):Array Value:=((List.range n).map fun k=>Value.bool (f k)).toArray
theorem bCells_size(n:Nat)(f:Nat->Bool):(bCells n f).size=n:=by simp[bCells]
theorem bCells_get{n k:Nat}(f:Nat->Bool)(h:k<n):(bCells n f)[k]?=some (.bool (f k)):=by
 simp[bCells,h]
theorem bCells_congr{n:Nat}{f f':Nat->Bool}(h:∀k,k<n->f k=f' k):bCells n f=bCells n f':=by
 unfold bCells;congr 1;exact yQ (fun k hk=>by rw[h k (yD.1 hk)])
theorem bCells_set{n k:Nat}(f:Nat->Bool)(b:Bool):(bCells n f).setIfInBounds k (.bool b)=bCells n (fun j=>if j=k then b else f j):=by
 apply Array.ext_getElem?;intro j;rw[Array.getElem?_setIfInBounds,bCells_size];by_cases hj:j<n
 . rw[bCells_get _ hj,bCells_get _ hj];by_cases e:k=j
   . subst e;simp[hj]
   . rw[if_neg e,if_neg (fun x=>e x.symm)]
 . have h1:(bCells n f)[j]?=none:=by rw[Array.getElem?_eq_none];rw[bCells_size];omega
   have h2:(bCells n (fun j=>if j=k then b else f j))[j]?=none:=by rw[Array.getElem?_eq_none];rw[bCells_size];omega
   rw[h1,h2];split
   . split
     . omega
     . rfl
   . rfl
def BRow(w:World)(g n:Nat)(f:Nat->Bool):Prop:=w.heap[g]?=some (.cells (bCells n f) 4 (0,0))
theorem BRow.cell{w:World}{g n k:Nat}{f:Nat->Bool}(h:BRow w g n f)(hk:k<n):w.cell? ⟨g,k,none⟩=some (.bool (f k))/\w.frozen? ⟨g,k,none⟩=false:=by
 have h:w.heap[g]?=_:=h;have h2:=bCells_get f hk;constructor
 . simp[World.cell?,h,h2]
 . simp[World.frozen?,h]
theorem BRow.congr{w:World}{g n:Nat}{f f':Nat->Bool}(h:BRow w g n f)(e:∀k,k<n->f k=f' k):BRow w g n f':=by
 unfold BRow at h ⊢;rw[h,bCells_congr e]
theorem BRow.set{w:World}{g n k:Nat}{f:Nat->Bool}(h:BRow w g n f)(b:Bool):BRow (w.setCell ⟨g,k,none⟩ (.bool b)) g n (fun j=>if j=k then b else f j):=by
 unfold BRow at h ⊢;simp[World.setCell,Array.getElem?_modify,h,bCells_set]
end Go.Proofs.YtkbgmcmcpbegjabGreatDoor
