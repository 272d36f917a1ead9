/- ABoth, ACut, MPut, MVert, MOpen, MRow, MPutR, BAcc, BFol. -/
import Derived.Test.YtkbgmcmcpbegjabGreatDoorMH12
import Derived.Test.YtkbgmcmcpbegjabGreatDoorMH8
import Derived.Test.YtkbgmcmcpbegjabGreatDoorMH7
import Derived.Maps.AppendAt
import Derived.Deep.RegionLaw
import Derived.Laws.ResultCell
import Derived.Deep.WholeRow
set_option maxRecDepth 100000
namespace Go.Proofs.YtkbgmcmcpbegjabGreatDoor
open Go.RowKit Go.Shelf
theorem run_append_many{w:World}{B n k:Nat}{v:Value}{xs:List Value}{t e:TypeId}{i0:TypeInfo}{z:Value}{bytes:Nat}(ht:Tryz.prog.underlying t=some (.slice e))(hi:Tryz.prog.info? e=some i0)(hz0:i0.zero=some z)(hz1:i0.size=k)(hz2:i0.bytes=bytes)(hz3:z.cells.size=k)(hk:0<k)
 (hown:w.ownsRow B e k v n xs) (ao:Option Addr) (us:List Value) (m cap:Nat) (hm:us.length=m*k) (hnone:ao=none->m=0/\cap=0) (hc:∀ad,ao=some ad->∀j u,us[j]?=some u->w.cell? (ad.add j)=some u) (h1:∀u∈us,u.oneCell'=true)
 (h63:n+m<=maxLen) (hb:(n+m)*bytes<=140737488355328) (hB:B<=w.heap.size) (ty:TypeId):
 ∃v' w',(Builtin.append_ #[t,t] ty #[v,.slice ao m cap]).run Tryz.prog w=.ok v' w'/\w'.ownsRow B e k v' (n+m) (xs++us)/\w.grownBy w' v.ownBlock:=by
 cases ao with
 |some ad=>
  obtain⟨v',w',hr,h2,h3,_,_⟩:=run_append_own_at (P:=Tryz.prog) w B t ty e i0 z k bytes ht hi hz0 hz1 hz2 hz3 hk v n xs hown ad m cap us hm (hc ad rfl) h1 h63 hb hB;exact⟨v',w',hr,h2,h3⟩
 |none=>
  obtain⟨rfl,rfl⟩:=hnone rfl;have e0:us=[]:=yP.1 (by omega);subst e0;have hrun:=run_append_owned_none (P:=Tryz.prog) w B t ty e i0 k ht hi v n xs hown;exact⟨v,w,hrun,by simpa using hown,World.grownBy.refl _ _⟩
theorem wpList_append_many{w:World}{ops:Array Oper}{rest:List Oper}{o:Oper}{a:Act}{Q:Exit->Act->World->Prop}(hgd:o.guard=none)(sl x:Operand){t:TypeId}
 (ho:o.op=.call { callee:=.builtin .append,args:=#[sl,x],argTypes:=#[t,t] })
 {B n k:Nat} {v:Value} {xs:List Value} {e:TypeId} {i0:TypeInfo} {z:Value} {bytes:Nat} (ht:Tryz.prog.underlying t=some (.slice e)) (hi:Tryz.prog.info? e=some i0) (hz0:i0.zero=some z) (hz1:i0.size=k) (hz2:i0.bytes=bytes) (hz3:z.cells.size=k) (hk:0<k)
 (hs:a.eval sl=v) (hown:w.ownsRow B e k v n xs) (ao:Option Addr) (us:List Value) (m cap:Nat) (hx:a.eval x=.slice ao m cap) (hm:us.length=m*k) (hnone:ao=none->m=0/\cap=0) (hc:∀ad,ao=some ad->∀j u,us[j]?=some u->w.cell? (ad.add j)=some u) (h1:∀u∈us,u.oneCell'=true)
 (h63:n+m<=maxLen) (hb:(n+m)*bytes<=140737488355328) (hB:B<=w.heap.size)
 (h:∀v' w',w'.ownsRow B e k v' (n+m) (xs++us)->w.grownBy w' v.ownBlock->wpList Tryz.prog ops Q rest (a.put o.dst v') w'):wpList Tryz.prog ops Q (o::rest) a w:=by
 refine wpList_plain hgd fun K hK=>?_
 obtain⟨v',w',hr,h2,h3⟩:=run_append_many ht hi hz0 hz1 hz2 hz3 hk hown ao us m cap hm hnone hc h1 h63 hb hB o.type;unfold Oper.wp execOp;simp only[ho,resolve,invoke,builtin,Sem.run_bind,Sem.run_pure,Result.andThen_ok,List.map_toArray,List.map_cons,List.map_nil,hs,hx,hr];exact hK _ _ (h v' w' h2 h3)
structure Src {α:Type} (enc:α->List Value) (k:Nat) (w:World) (v:Value) (L:List α):Prop where
 sl:SlS enc k (fun _=>True) w v L
 no:∀n cap,v=.slice none n cap->n=0/\cap=0
section
variable {α:Type} {enc:α->List Value} {k:Nat}
theorem Src.below{w w':World}{v:Value}{L:List α}(h:Src enc k w v L)(hb:Below w.heap.size w w'):Src enc k w' v L:=⟨h.sl.below hb,h.no⟩
theorem Src.own(hk:∀x,(enc x).length=k){w:World}{B n:Nat}{e:TypeId}{v:Value}{L:List α}(h:w.ownsRow B e k v n (L.flatMap enc))(hn:n=L.length):Src enc k w v L:=by
 refine⟨(own_sl hk h hn).sub (fun _ _ _=>trivial),fun m cap e=>?_⟩;rcases h.2 with⟨h1,_⟩|⟨g,c,cur,h1,_⟩
 . rw[h1]at e;injection e with _ e2 e3;exact⟨e2.symm,e3.symm⟩
 . rw[h1]at e;injection e with e1;cases e1
theorem addA(g i j:Nat):(⟨g,i,none⟩:Addr).add j=⟨g,i+j,none⟩:=by
 unfold Addr.add;split<;>simp_all
theorem Src.cells(hk:∀x,(enc x).length=k)(hk0:0<k){w:World}{ao:Option Addr}{n cap:Nat}{L:List α}(h:Src enc k w (.slice ao n cap) L):∀ad,ao=some ad->∀j u,(L.flatMap enc)[j]?=some u->w.cell? (ad.add j)=some u:=by
 intro ad he j u hu;have hj:j<(L.flatMap enc).length:=(zE.1 hu).1;rw[flat_len hk]at hj;have hq:j/k<L.length:=Nat.div_lt_of_lt_mul (by rw[Nat.mul_comm];exact hj);have hx:=zB hq;have hc:=Nat.mod_lt j hk0;have hs:=Nat.div_add_mod' j k;obtain⟨g,off,e1,_,_,hcell⟩:=h.sl.get hx;rw[he]at e1;injection e1 with e1;subst e1;rw[addA,<- hs,show off+(j/k*k+j%k)=off+j/k*k+j%k by omega];refine hcell _ u ?_;rw[<- flat_at hk L _ _ _ hx hc,hs];exact hu
end
theorem csZ_len(x:Int):(csZ x).length=1:=rfl
section
variable {α:Type} {enc:α->List Value} {k:Nat}
theorem sl_take{S:Nat->Prop}{w:World}{ao:Option Addr}{n cap cap2 i:Nat}{L:List α}(h:SlS enc k S w (.slice ao n cap) L)(hi:i<=L.length):SlS enc k S w (.slice ao i cap2) (L.take i):=by
 obtain⟨a,c,e,h⟩:=h;injection e with e1 e2 e3;subst e1;refine⟨ao,cap2,by rw[yH];congr 1;omega,?_⟩;rcases h with rfl|⟨g,off,e1,hs,hl,hc⟩
 . left;simp
 . refine .inr ⟨g,off,e1,hs,hl,fun j x hx c u hu=>hc j x ?_ c u hu⟩;rw[List.getElem?_take]at hx;split at hx
   . exact hx
   . cases hx
theorem sl_drop{S:Nat->Prop}{w:World}{g off n cap cap2 i:Nat}{L:List α}(h:SlS enc k S w (.slice (some ⟨g,off,none⟩) n cap) L)(hn:n=L.length):SlS enc k S w (.slice (some ⟨g,off+i*k,none⟩) (n-i) cap2) (L.drop i):=by
 obtain⟨a,c,e,h⟩:=h;injection e with e1 e2 e3;subst e1;refine⟨_,cap2,by rw[List.length_drop,hn],?_⟩;rcases h with rfl|⟨g',off',e1,hs,hl,hc⟩
 . left;simp
 . injection e1 with e1;injection e1 with e1 e4;subst e1 e4;refine .inr ⟨g,_,rfl,hs,hl,fun j x hx c u hu=>?_⟩;rw[List.getElem?_drop]at hx;have:=hc (i+j) x hx c u hu;rw[Nat.add_mul]at this;rw[show off+i*k+j*k+c=off+(i*k+j*k)+c by omega];exact this
theorem sl_end{S:Nat->Prop}{w:World}(ao:Option Addr)(cap:Nat):SlS enc k S w (.slice ao 0 cap) []:=⟨ao,cap,rfl,.inl rfl⟩
end
theorem not_bothW{a b:Wd}(h:¬a=b):¬a=b/\(a==b)=false:=⟨h,by simpa using h⟩
theorem own_capM{w:World}{B n:Nat}{e:TypeId}{size:Nat}{v:Value}{xs:List Value}(h:w.ownsRow B e size v n xs):CapS v n:=by
 rcases h.2 with⟨rfl,rfl⟩|⟨g,cap,cur,rfl,_,_,hle,_⟩
 . exact⟨none,0,rfl,zD _⟩
 . exact⟨_,cap,rfl,hle⟩
section
variable {α:Type} {enc:α->List Value} {kk:Nat}
theorem src_take{w:World}{ao:Option Addr}{n cap i:Nat}{L:List α}(h:Src enc kk w (.slice ao n cap) L)(hn:n=L.length)(hi:i<=n):Src enc kk w (.slice ao i cap) (L.take i):=by
 refine⟨sl_take h.sl (by omega),fun m c e=>?_⟩;injection e with e1 e2 e3;have:=h.no n cap (by rw[e1]);omega
end
theorem src_drop{α:Type}{enc:α->List Value}{w:World}{ao:Option Addr}{n cap i:Nat}{L:List α}(h:Src enc 1 w (.slice ao n cap) L)(hn:n=L.length)(hi:i<=n)(hc:n<=cap):Src enc 1 w (.slice (if cap=i then ao else Option.map (fun x=>x.add i) ao) (n-i) (cap-i)) (L.drop i):=by
 cases ao with
 |none=>
  have h0:=h.no n cap rfl;have hL:L=[]:=yP.1 (by omega);subst hL;have e1:(if cap=i then none else Option.map (fun x:Addr=>x.add i) none)=none:=by split<;>rfl
  rw[e1,List.drop_nil,show n-i=0 by omega,show cap-i=0 by omega];exact⟨SlS.nil _ _,fun m c e=>by injection e with _ e2 e3;exact⟨e2.symm,e3.symm⟩⟩
 |some a=>
  by_cases e:cap=i
  . rw[if_pos e];have h1:L.drop i=[]:=List.drop_eq_nil_iff.2 (by omega);rw[h1,show n-i=0 by omega];exact⟨sl_end _ _,fun m c e=>by cases e⟩
  . rw[if_neg e];refine⟨?_,fun m c e=>by cases e⟩;rcases L with _|⟨y,L⟩
    . rw[List.drop_nil,show n-i=0 by rw[hn];simp];exact sl_end _ _
    . obtain⟨g,off,e1,_⟩:=h.sl.get (j:=0) (x:=y) rfl;injection e1 with e1;subst e1;have:=sl_drop (i:=i) (cap2:=cap-i) h.sl hn;rw[yF]at this;rw[Option.map_some,addA];exact this
def SrcW(w:World)(v:Value)(L:List Wd):Prop:=Src csT 1 w v L/\CapS v L.length
theorem SrcW.below{w w':World}{v:Value}{L:List Wd}(h:SrcW w v L)(hb:Below w.heap.size w w'):SrcW w' v L:=⟨h.1.below hb,h.2⟩
abbrev csF(f:Fa):List Value:=[.string ⟨f.1.toArray⟩,.string ⟨f.2.1.toArray⟩,.string ⟨f.2.2.toArray⟩]
theorem csF_len(x:Fa):(csF x).length=3:=rfl
abbrev FasS:=SlS csF 3
theorem getF{w:World}{g o:Nat}{f:Fa}(h:∀(c:Nat) u,(csF f)[c]?=some u->w.cell? ⟨g,o+c,none⟩=some u):w.cell? ⟨g,o,none⟩=some (.string ⟨f.1.toArray⟩)/\w.cell? ⟨g,o+1,none⟩=some (.string ⟨f.2.1.toArray⟩)/\w.cell? ⟨g,o+2,none⟩=some (.string ⟨f.2.2.toArray⟩):=
 ⟨h 0 _ rfl,h 1 _ rfl,h 2 _ rfl⟩
end Go.Proofs.YtkbgmcmcpbegjabGreatDoor
namespace Go.Proofs.YtkbgmcmcpbegjabGreatDoor
open Go.RowKit
theorem cellsMT:Tryz.prog.cellsOf 25=3:=by kernel_rfl
theorem open_fact{H:Type}{enc:TypeId×Value->H}{W:World}{fuel:Nat}{cs:List Value}{x:DataW H×List MemPlace}
 (hf:DataW.trod enc Tryz.prog W 0 (fun _=>true) true fuel 25 cs=some x) (hw:∀m∈x.1.weights Tryz.prog 25,m<=reachBytes):∃t:Fa,cs=csF t/\t.1.length<=140737488351232/\t.2.1.length<=140737488351232/\t.2.2.length<=140737488351232:=by
 obtain⟨y0,y1,y2,n,hx,hlen,h0,h1,h2⟩:=Go.Deep.trod_struct3 Tryz.underlying25 hf;rw[cellsMT]at hlen;obtain⟨c0,c1,c2,rfl⟩:∃c0 c1 c2,cs=[c0,c1,c2]:=by
  match cs,hlen with
  |[c0,c1,c2],_=>exact⟨c0,c1,c2,rfl⟩
 simp only[cellsQS,List.drop_zero,List.drop_succ_cons,List.take_succ_cons,List.take_zero]at h0 h1 h2;obtain⟨s0,k0,e0,l0⟩:=DataW.trod_string Tryz.underlying9 h0;obtain⟨s1,k1,e1,l1⟩:=DataW.trod_string Tryz.underlying9 h1;obtain⟨s2,k2,e2,l2⟩:=DataW.trod_string Tryz.underlying9 h2;simp only[List.cons.injEq,and_true]at k0 k1 k2;subst k0 k1 k2;rw[hx]at hw;simp only[DataW.weights,Tryz.underlying25,List.map_cons,List.map_nil,DataW.weightsEach,List.append_nil]at hw;refine⟨(s0.data.toList,s1.data.toList,s2.data.toList),rfl,?_,?_,?_⟩
 . exact hw _ (by rw[e0];simp[DataW.weights])
 . exact hw _ (by rw[e1];simp[DataW.weights])
 . exact hw _ (by rw[e2];simp[DataW.weights])
theorem open_facts{H:Type}{enc:TypeId×Value->H}{W:World}{fuel:Nat}{v:Value}{x:DataW H×List MemPlace}
 (hf:DataW.trod enc Tryz.prog W 0 (fun _=>true) true fuel 22 [v]=some x) (hw:∀m∈x.1.weights Tryz.prog 22,m<=reachBytes):
 ∃L:List Fa,FasS (fun _=>True) W v L/\(∀t∈L,t.1.length<=140737488351232/\t.2.1.length<=140737488351232/\t.2.2.length<=140737488351232)/\L.length<=maxLen/\CapS v L.length:=
 open_slN (en:=csF) ([],[],[]) csF_len (by decide) Tryz.underlying22 cellsMT (fun t=>t.1.length<=140737488351232/\t.2.1.length<=140737488351232/\t.2.2.length<=140737488351232) (fun _ cs y _ h hq=>open_fact h hq) hf hw
def FinF(v:Value)(L:List Fa):Prop:=L.length<=9223372036854775807/\(∀t∈L,t.1.length<=140737488351232/\t.2.1.length<=140737488351232/\t.2.2.length<=140737488351232)/\CapS v L.length
end Go.Proofs.YtkbgmcmcpbegjabGreatDoor
namespace Go.Proofs.YtkbgmcmcpbegjabGreatDoor
open Go.RowKit Go.Shelf
theorem lessR_drop:∀(i:Nat) (a b:Rw),a.take i=b.take i->i<=a.length->i<=b.length->lessR a b=lessR (a.drop i) (b.drop i)
 |0,_,_,_,_,_=>rfl
 |i+1,[],_,_,h,_=>by simp at h
 |i+1,_::_,[],_,_,h=>by simp at h
 |i+1,x::a,y::b,h,h1,h2=>by
  simp only[List.take_succ_cons,List.cons.injEq]at h;rw[lessR,if_pos h.1,List.drop_succ_cons,List.drop_succ_cons];exact lessR_drop i a b h.2 (by simpa using h1) (by simpa using h2)
theorem drop_at{α:Type}{l:List α}{i:Nat}{x:α}(h:l[i]?=some x):l.drop i=x::l.drop (i+1):=by
 have hi:=(zE.1 h).1;have he:=(zE.1 h).2;rw[List.drop_eq_getElem_cons hi,he]
set_option maxHeartbeats 4000000 in
theorem rLess_any{S T:Nat->Prop}{w:World}{v1 v2:Value}{L1 L2:Rw}(h1:TxtS S w v1 L1)(h2:TxtS T w v2 L2)(hl1:L1.length<=1000000):
 Calls Tryz.prog 33 #[v1,v2] w fun e w'=>e=.returned (.bool (lessR L1 L2))/\Below w.heap.size w w':=by
 obtain⟨a1,c1,rfl⟩:=h1.slice;obtain⟨a2,c2,rfl⟩:=h2.slice;have H1:=zA h1;have H2:=zA h2;obtain⟨n1,hn1⟩:∃n,n=L1.length:=⟨_,rfl⟩
 obtain⟨n2,hn2⟩:∃n,n=L2.length:=⟨_,rfl⟩
 rw[<- hn1]at H1 hl1 ⊢;rw[<- hn2]at H2 ⊢;have HN1:=zA hn1;have HN2:=zA hn2;obtain⟨r,hr⟩:∃r,r=lessR L1 L2:=⟨_,rfl⟩
 rw[<- hr];have HR:=zA hr;clear h1 h2 hn1 hn2 hr;go_enter Tryz.func33,Tryz.ntmps33;go_wp2_with fail;go_loopw [5] (fun c wr=>∃i:Nat,i<=n1/\i<=n2/\c=.int .i64 i/\L1.take i=L2.take i/\Below w.heap.size w wr) (fun c _=>n1-(intOf c).toNat)
 case atStart=>exact⟨0,zR _,zR _,rfl,rfl,zF _ _⟩
 case round=>
  obtain⟨i,hi1,hi2,rfl,htk,hbq⟩:=hrel;have HBQ:=zA hbq;have HTK:=zA htk;have HD:Hid (r=lessR (L1.drop i) (L2.drop i)):=zA (by rw[HR.out];exact lessR_drop i L1 L2 htk (by rw[<- HN1.out];exact hi1) (by rw[<- HN2.out];exact hi2));clear hbq htk;by_cases hlt1:i<n1
  . have hlt1I:(i:Int)<(n1:Int):=by omega
    by_cases hlt2:i<n2
    . have hlt2I:(i:Int)<(n2:Int):=by omega
      obtain⟨x,hx⟩:∃x,L1[i]?=some x:=⟨_,zB (by rw[<- HN1.out];exact hlt1)⟩
      obtain⟨y,hy⟩:∃y,L2[i]?=some y:=⟨_,zB (by rw[<- HN2.out];exact hlt2)⟩
      obtain⟨g1,o1,e1,_,_,hc1⟩:=(H1.out.below HBQ.out).get hx;obtain⟨g2,o2,e2,_,_,hc2⟩:=(H2.out.below HBQ.out).get hy;subst e1 e2;have q1:=hc1 0 _ rfl;have q2:=hc2 0 _ rfl;rw[yF,yJ]at q1 q2;rw[drop_at hx,drop_at hy,lessR]at HD;have HX:=zA (And.intro hx hy);clear hx hy hc1 hc2;by_cases exy:x=y
      . have HT2:Hid (L1.take (i+1)=L2.take (i+1)):=zA (by rw[zU,zU,HX.out.1,HX.out.2,HTK.out,exy]);subst exy;go_wp2_with fail;go_quiet (fail);have HB9:=zA (below_drewN HBQ.out nq);go_wp2;go_roundw
        case rel=>exact⟨i+1,by omega,by omega,by go_num,HT2.out,HB9.out⟩
        case measure=>simp[intOf];omega
      . obtain⟨e1,e2⟩:=not_bothW exy;rw[if_neg exy]at HD;have HD2:Hid (r=Op.bytesLess x y):=HD;clear exy HD;cases hls:Op.bytesLess x y with
        |true=>
         rw[hls]at HD2;go_wp2_with fail;go_quiet (fail);obtain⟨W,hW⟩:∃W,W=wr.drewN nq:=⟨_,rfl⟩
         have HBW:Hid (Below w.heap.size w W):=zA (by rw[hW];exact below_drewN HBQ.out nq);have p1:W.cell? ⟨g1,o1+i,none⟩=some (.string ⟨x.toArray⟩):=by rw[hW];exact q1
         have p2:W.cell? ⟨g2,o2+i,none⟩=some (.string ⟨y.toArray⟩):=by rw[hW];exact q2
         rw[<- hW];clear hW q1 q2;go_wp2_with fail;go_quiet (fail);have HB9:=zA (below_drewN HBW.out nq);go_wp2;go_ret;exact⟨by rw[HD2.out];rfl,HB9.out⟩
        |false=>
         rw[hls]at HD2;go_wp2_with fail;go_quiet (fail);obtain⟨W,hW⟩:∃W,W=wr.drewN nq:=⟨_,rfl⟩
         have HBW:Hid (Below w.heap.size w W):=zA (by rw[hW];exact below_drewN HBQ.out nq);have p1:W.cell? ⟨g1,o1+i,none⟩=some (.string ⟨x.toArray⟩):=by rw[hW];exact q1
         have p2:W.cell? ⟨g2,o2+i,none⟩=some (.string ⟨y.toArray⟩):=by rw[hW];exact q2
         rw[<- hW];clear hW q1 q2;go_wp2_with fail;go_quiet (fail);have HB9:=zA (below_drewN HBW.out nq);go_wp2;go_ret;exact⟨by rw[HD2.out];rfl,HB9.out⟩
    . have hlt2I:¬(i:Int)<(n2:Int):=by omega
      have hd:decide ((i:Int)<(n2:Int))=false:=decide_eq_false hlt2I;have hnn:¬(n1:Int)<(n2:Int):=by omega
      have HT:Hid (r=false):=zA (by
       have e2:L2.drop i=[]:=List.drop_eq_nil_iff.2 (by rw[<- HN2.out];omega);obtain⟨x,hx⟩:∃x,L1[i]?=some x:=⟨_,zB (by rw[<- HN1.out];exact hlt1)⟩
       rw[HD.out,e2,drop_at hx];rfl)
      go_wp2;go_ret;exact⟨by rw[HT.out];rfl,HBQ.out⟩
  . have hlt1I:¬(i:Int)<(n1:Int):=by omega
    have hd:decide ((i:Int)<(n1:Int))=false:=decide_eq_false hlt1I;have e1:L1.drop i=[]:=List.drop_eq_nil_iff.2 (by rw[<- HN1.out];omega);by_cases hnn:(n1:Int)<(n2:Int)
    . have HT:Hid (r=true):=zA (by
       obtain⟨y,hy⟩:∃y,L2[i]?=some y:=⟨_,zB (by rw[<- HN2.out];omega)⟩
       rw[HD.out,e1,drop_at hy];rfl)
      clear e1;go_wp2;go_ret;exact⟨by rw[HT.out];rfl,HBQ.out⟩
    . have HT:Hid (r=false):=zA (by
       have e2:L2.drop i=[]:=List.drop_eq_nil_iff.2 (by rw[<- HN2.out];omega);rw[HD.out,e1,e2];rfl)
      clear e1;go_wp2;go_ret;exact⟨by rw[HT.out];rfl,HBQ.out⟩
set_option maxHeartbeats 2000000 in
theorem rSameRow_any{S T:Nat->Prop}{w:World}{v1 v2:Value}{L1 L2:Rw}(h1:TxtS S w v1 L1)(h2:TxtS T w v2 L2)(hl1:L1.length<=1000000)(hl2:L2.length<=1000000):
 Calls Tryz.prog 34 #[v1,v2] w fun e w'=>e=.returned (.bool (decide (L1=L2)))/\Below w.heap.size w w':=by
 obtain⟨r,hr⟩:∃r,r=decide (L1=L2):=⟨_,rfl⟩
 rw[<- hr];have HR:=zA hr;have C1:=zA (rLess_any h1 h2 hl1);have C2:=zA (fun u (hu:Below w.heap.size w u)=>rLess_any (h2.below hu) (h1.below hu) hl2);obtain⟨x,hx⟩:∃x,x=lessR L1 L2:=⟨_,rfl⟩
 obtain⟨y,hy⟩:∃y,y=lessR L2 L1:=⟨_,rfl⟩
 rw[<- hx]at C1;rw[<- hy]at C2;have HX:=zA hx;have HY:=zA hy;clear hr hx hy h1 h2;go_enter Tryz.func34,Tryz.ntmps34;go_wp2_with fail;refine C1.out.mono ?_;rintro e w1 ⟨rfl,hb1⟩;have HB1:=zA hb1;clear hb1;cases x with
 |true=>
  have HT:Hid (r=false):=zA (by rw[HR.out];exact decide_eq_false (ordR.ne HX.out.symm));go_wp2;go_ret;exact⟨by rw[HT.out];rfl,HB1.out⟩
 |false=>
  have HT:Hid (r= !y):=zA (by
   rw[HR.out];cases y with
   |true=>exact decide_eq_false (fun e=>ordR.ne HY.out.symm e.symm)
   |false=>exact yA (lessR_tot _ _ HX.out.symm HY.out.symm))
  go_wp2_with fail;refine(C2.out _ HB1.out).mono ?_;rintro e w2 ⟨rfl,hb2⟩;have HB2:=zA (HB1.out.trans (hb2.mono HB1.out.size));clear hb2;cases y with
  |true=>
   go_wp2;go_ret;exact⟨by rw[HT.out];rfl,HB2.out⟩
  |false=>
   go_wp2;go_ret;exact⟨by rw[HT.out];rfl,HB2.out⟩
abbrev csRw(p:Value×Rw):List Value:=[p.1]
theorem csRw_len(x:Value×Rw):(csRw x).length=1:=rfl
structure RowsS (w:World) (v:Value) (rs:List (Value×Rw)):Prop where
 src:Src csRw 1 w v rs
 cap:CapS v rs.length
 rows:∀p∈rs,TxtS (fun _=>True) w p.1 p.2/\p.2.length<=1000000
def RowsM(w:World)(v:Value)(L:List Rw):Prop:=∃rs:List (Value×Rw),RowsS w v rs/\rs.map (·.2)=L
theorem RowsS.below{w w':World}{v:Value}{rs:List (Value×Rw)}(h:RowsS w v rs)(hb:Below w.heap.size w w'):RowsS w' v rs:=⟨h.src.below hb,h.cap,fun p hp=>⟨(h.rows p hp).1.below hb,(h.rows p hp).2⟩⟩
theorem RowsM.below{w w':World}{v:Value}{L:List Rw}(h:RowsM w v L)(hb:Below w.heap.size w w'):RowsM w' v L:=by
 obtain⟨rs,h1,h2⟩:=h;exact⟨rs,h1.below hb,h2⟩
theorem rowsM_nil(w:World):RowsM w (.slice none 0 0) []:=⟨[],⟨⟨SlS.nil _ _,fun m c e=>by injection e with _ e2 e3;exact⟨e2.symm,e3.symm⟩⟩,⟨none,0,rfl,zD _⟩,by simp⟩,rfl⟩
theorem one_csRw(rs:List (Value×Rw))(h:∀p∈rs,p.1.oneCell'=true):∀u∈rs.flatMap csRw,u.oneCell'=true:=by
 intro u hu;obtain⟨x,hx,h2⟩:=List.mem_flatMap.1 hu;simp at h2;rw[h2];exact h x hx
theorem infoRw:(Tryz.prog.info? 30).map (fun i=>(i.zero,i.size,i.bytes))=some (some (.slice none 0 0),1,24):=by kernel_rfl
set_option maxHeartbeats 16000000 in
theorem rPutRow_any{w:World}{v vr:Value}{L:List Rw}{r:Rw}(h:RowsM w v L)(hl:L.length<=1000000000000)(hrise:RiseL lessR L)(hv:TxtS (fun _=>True) w vr r)(hrl:r.length<=1000000):
 Calls Tryz.prog 15 #[v,vr] w fun e w'=>∃v',e=.returned v'/\RowsM w' v' (putL lessR L r)/\Below w.heap.size w w':=by
 obtain⟨i0,hi0,hz0,hz1,hz2⟩:=info_parts infoRw;obtain⟨R,hR⟩:∃R,R=putL lessR L r:=⟨_,rfl⟩
 rw[<- hR];have HR:=zA hR;obtain⟨rs,hrs,hmap⟩:=h;obtain⟨la,lc,hvv,hlc⟩:=hrs.cap;subst hvv;obtain⟨ra,rc,hvr⟩:=hv.slice;have HV:=zA hv;obtain⟨rn,hrn⟩:∃n,n=r.length:=⟨_,rfl⟩
 rw[<- hrn]at hvr;obtain⟨n,hn⟩:∃n,n=rs.length:=⟨_,rfl⟩
 have HLL:Hid (rs.length=L.length):=zA (by rw[<- hmap,zH]);have hnl:n<=1000000000000:=by rw[hn,HLL.out];exact hl
 have HRS:=zA hrs;rw[<- hn]at HRS hlc ⊢;have HN:=zA hn;have HLM:=zA hmap;have HRI:=zA hrise;have HRO0:Hid (∀p∈rs,p.1.oneCell'=true):=zA (fun p hp=>by
  obtain⟨a,c,e⟩:=(hrs.rows p hp).1.slice;rw[e];rfl)
 have hvo:vr.oneCell'=true:=by rw[hvr];rfl
 clear hrs hmap hrise hR hv hn hl hrn;subst hvr;have C:Hid (∀u,Below w.heap.size w u->∀p∈rs,Calls Tryz.prog 33 #[p.1,(.slice ra rn rc)] u fun e w'=>e=.returned (.bool (lessR p.2 r))/\Below u.heap.size u w'):=zA (fun u hu p hp=>rLess_any ((HRS.out.rows p hp).1.below hu) (HV.out.below hu) (HRS.out.rows p hp).2);have CS:Hid (∀u,Below w.heap.size w u->∀p∈rs,Calls Tryz.prog 34 #[p.1,(.slice ra rn rc)] u fun e w'=>e=.returned (.bool (decide (p.2=r)))/\Below u.heap.size u w'):=zA (fun u hu p hp=>rSameRow_any ((HRS.out.rows p hp).1.below hu) (HV.out.below hu) (HRS.out.rows p hp).2 hrl);go_enter Tryz.func15,Tryz.ntmps15;go_wp2_with fail;go_loopw [5,6] (fun c d wr=>∃(a b:Nat),a<=b/\b<=n/\c=.int .i64 a/\d=.int .i64 b/\(∀(j:Nat) x,j<a->L[j]?=some x->lessR x r=true)/\(∀(j:Nat) x,b<=j->L[j]?=some x->lessR x r=false)/\Below w.heap.size w wr) (fun c d _=>(intOf d).toNat-(intOf c).toNat)
 case atStart=>exact⟨0,n,zR _,zD _,rfl,rfl,fun j x hj=>absurd hj (by omega),fun j x hj hx=>by
  have:=(zE.1 hx).1;rw[<- HLL.out,<- HN.out]at this;omega,zF _ _⟩
 case round=>
  obtain⟨a,b,hab,hbn,rfl,rfl,hlow,hhigh,hbq⟩:=hrel;have HLOW:=zA hlow;have HHIGH:=zA hhigh;have HBQ:=zA hbq;clear hlow hhigh hbq;by_cases hlt:a<b
  . have hltI:(a:Int)<(b:Int):=by omega
    obtain⟨mid,hmid⟩:∃m,m=(a+b)/2:=⟨_,rfl⟩
    have hm1:a<=mid:=by omega
    have hm2:mid<b:=by omega
    have hmI:(mid:Int)<(n:Int):=by omega
    have hsum:IntKind.i64.wrap ((a:Int)+(b:Int))=(a:Int)+(b:Int):=by rw[IntKind.wrap_i64];omega
    have hdiv:((a:Int)+(b:Int)).tdiv 2=(mid:Int):=by
     rw[Int.tdiv_eq_ediv_of_nonneg (by omega),hmid];omega
    obtain⟨⟨xv,xr⟩,hx⟩:∃x,rs[mid]?=some x:=⟨_,zB (by rw[<- HN.out];omega)⟩
    have hxL:L[mid]?=some xr:=by rw[<- HLM.out,zI,hx];rfl
    obtain⟨g,off,hla,_,_,hcell⟩:=(HRS.out.src.sl.below HBQ.out).get hx;subst hla;have q0:=hcell 0 _ rfl;rw[yF,yJ]at q0;have C1:=zA (C.out wr HBQ.out (xv,xr) (zC hx));have HXL:=zA hxL;obtain⟨xa,xc,hxv⟩:=(HRS.out.rows _ (zC hx)).1.slice;dsimp only at hxv;have HXV:=zA hxv;obtain⟨ls,hls⟩:∃b,b=lessR xr r:=⟨_,rfl⟩
    have HLS:=zA hls;have C2:Hid (Calls Tryz.prog 33 #[xv,(.slice ra rn rc)] wr fun e w'=>e=.returned (.bool ls)/\Below wr.heap.size wr w'):=zA (by rw[hls];exact C1.out);clear hx hxL hcell hxv hls hmid C1;go_wp2_with fail;refine C2.out.mono ?_;rintro e w3 ⟨rfl,hb3⟩;have HB3:=zA (HBQ.out.trans (hb3.mono HBQ.out.size));clear hb3;cases ls with
    |true=>
     have HL2:Hid (∀(j:Nat) x,j<mid+1->L[j]?=some x->lessR x r=true):=zA (fun j x hj hx=>by
      by_cases e:j=mid
      . subst e;rw[HXL.out]at hx;injection hx with hx;rw[<- hx];exact HLS.out.symm
      . exact lessR_tr _ _ _ (HRI.out.lt_at ordR hx HXL.out (by omega)) HLS.out.symm)
     go_wp2;go_roundw
     case rel=>exact⟨mid+1,b,by omega,by omega,by go_num,rfl,HL2.out,HHIGH.out,HB3.out⟩
     case measure=>simp[intOf];omega
    |false=>
     have HH2:Hid (∀(j:Nat) x,mid<=j->L[j]?=some x->lessR x r=false):=zA (fun j x hj hx=>by
      by_cases e:j=mid
      . subst e;rw[HXL.out]at hx;injection hx with hx;rw[<- hx];exact HLS.out.symm
      . cases h:lessR x r with
        |false=>rfl
        |true=>
         have h2:=lessR_tr _ _ _ (HRI.out.lt_at ordR HXL.out hx (by omega)) h;rw[<- HLS.out]at h2;cases h2)
     go_wp2;go_roundw
     case rel=>exact⟨a,mid,by omega,by omega,rfl,rfl,HLOW.out,HH2.out,HB3.out⟩
     case measure=>simp[intOf];omega
  . have hltI:¬(a:Int)<(b:Int):=by omega
    obtain rfl:a=b:=by omega
    obtain⟨k,hk0⟩:∃k,k=a:=⟨_,rfl⟩
    subst hk0;have hk:k<=n:=hbn;have HNOT:Hid (∀y,L[k]?=some y->lessR y r=false):=zA (fun y hy=>HHIGH.out k y (zD _) hy);obtain⟨RS,hRS⟩:∃l,l=rs.take k++[(Value.slice ra rn rc,r)]++rs.drop k:=⟨_,rfl⟩
    obtain⟨wy,hwy⟩:∃wy,wy=wr:=⟨_,rfl⟩
    subst hwy;by_cases hkn:k<n
    . have hknI:(k:Int)<(n:Int):=by omega
      obtain⟨⟨xv,xr⟩,hx⟩:∃x,rs[k]?=some x:=⟨_,zB (by rw[<- HN.out];exact hkn)⟩
      have hxL:L[k]?=some xr:=by rw[<- HLM.out,zI,hx];rfl
      obtain⟨g,off,hla,_,_,hcell⟩:=(HRS.out.src.sl.below HBQ.out).get hx;subst hla;have q0:=hcell 0 _ rfl;rw[yF,yJ]at q0;obtain⟨sm,hsm⟩:∃b,b=decide (xr=r):=⟨_,rfl⟩
      have C2:Hid (Calls Tryz.prog 34 #[xv,(.slice ra rn rc)] wy fun e w'=>e=.returned (.bool sm)/\Below wy.heap.size wy w'):=zA (by rw[hsm];exact CS.out wy HBQ.out (xv,xr) (zC hx));have HXL:=zA hxL;have HSM:=zA hsm;clear hx hxL hcell hsm;go_wp2_with fail;refine C2.out.mono ?_;rintro e wx ⟨rfl,hb3⟩;have HBX:=zA (HBQ.out.trans (hb3.mono HBQ.out.size));clear hb3 q0;cases sm with
      |true=>
       have HT:Hid (R=L):=zA (by rw[HR.out,putL_at (k:=k) (by rw[<- HLL.out,<- HN.out];exact hk) HLOW.out HNOT.out,if_pos (by rw[HXL.out,of_decide_eq_true HSM.out.symm])]);go_wp2;go_ret;exact⟨_,rfl,by rw[HT.out];exact⟨rs,HRS.out.below HBX.out,HLM.out⟩,HBX.out⟩
      |false=>
       have HNE:Hid (¬L[k]?=some r):=zA (fun h=>by rw[HXL.out]at h;injection h with h;exact of_decide_eq_false HSM.out.symm h);have H:=zA (HRS.out.src.below HBX.out);have HROWS:=zA (HRS.out.below HBX.out).rows;have HVR:=zA (HV.out.below HBX.out);have HRO:∀p∈rs,p.1.oneCell'=true:=HRO0.out;have HT:Hid (RS=rs.take k++[(Value.slice ra rn rc,r)]++rs.drop k):=zA hRS;have HRM:Hid (RS.map (·.2)=R):=zA (by
        rw[hRS,HR.out,putL_at (k:=k) (by rw[<- HLL.out,<- HN.out];exact hk) HLOW.out HNOT.out,if_neg HNE.out,yL,yL,List.map_take,List.map_drop,HLM.out];rfl)
       have HRR:Hid (∀u,Below wx.heap.size wx u->∀p∈RS,TxtS (fun _=>True) u p.1 p.2/\p.2.length<=1000000):=zA (fun u hu p hp=>by
        rw[hRS]at hp;rcases zM.1 hp with hp|hp
        . rcases zM.1 hp with hp|hp
          . have h:=HROWS.out p (List.mem_of_mem_take hp);exact⟨h.1.below hu,h.2⟩
          . simp at hp;subst hp;exact⟨HVR.out.below hu,hrl⟩
        . have h:=HROWS.out p (List.mem_of_mem_drop hp);exact⟨h.1.below hu,h.2⟩)
       clear hRS;have hkc:(k:Int)<=(lc:Int):=by omega
       have hnc:(n:Int)<=(lc:Int):=by omega
       have hkn:(k:Int)<=(n:Int):=by omega
       have HS1:Hid (Src csRw 1 wx (.slice (some ⟨g,off,none⟩) k lc) (rs.take k)):=zA (src_take H.out HN.out hk);have hck:¬lc=k:=by omega
       have HS2:Hid (Src csRw 1 wx (.slice (some ⟨g,off+k,none⟩) (n-k) (lc-k)) (rs.drop k)):=zA (by
        have h:=src_drop H.out HN.out hk hlc;rw[if_neg hck,Option.map_some,addA]at h;exact h)
       go_wp2_with (at_builtin;refine wpList_append_many rfl _ _ rfl Tryz.underlying38 hi0 hz0 hz1 hz2 rfl (by decide) (by rfl) (World.ownsRow_nil _ wx.heap.size _ _) (some ⟨g,off,none⟩) ((rs.take k).flatMap csRw) k lc (by rfl) (by rw[flat_len csRw_len,yH,<- HN.out];omega) (fun e=>HS1.out.no _ _ (by rw[e])) (HS1.out.cells csRw_len (by decide)) (one_csRw _ (fun p hp=>HRO p (by first|exact List.mem_of_mem_take hp|exact List.mem_of_mem_drop hp))) (by unfold maxLen;omega) (by omega) (zD _) ?_);intro v3 w3 hown3 hgrow3;obtain⟨X3,hX3⟩:∃l,l=(rs.take k).flatMap csRw:=⟨_,rfl⟩
       have HX3:=zA hX3;have hown3':w3.ownsRow wx.heap.size 30 1 v3 k X3:=by
        rw[hX3];simpa using hown3
       have HB3:Hid (Below wx.heap.size wx w3):=zA (Below.grown (zF _ _) hgrow3 (zD _) (fun k hk=>by cases hk));obtain⟨a3,c3,hv3⟩:=own_slice hown3';subst hv3;have HO3:=zA hown3';have hs3:wx.heap.size<=w3.heap.size:=HB3.out.size;clear hown3 hgrow3 hown3' hX3;go_wp2_with (at_builtin;refine wpList_append_lies _ rfl _ _ _ rfl wx.heap.size 30 i0 _ 1 24 Tryz.underlying38 hi0 hz0 hz1 hz2 rfl (by decide) (.slice a3 k c3) _ _ (by rfl) (HO3.out.alloc _) ⟨w3.heap.size,0,none⟩ 1 1 [.slice ra rn rc] (by rfl) (by rfl) (World.news_of_block (cs:=#[.slice ra rn rc]) (t:=30) (fr:=(0,0)) (heap_alloc_new w3 _)) (by simp[hvo]) (by decide) (by unfold maxLen;omega) (by omega) (by simp;omega) (w3.heap.size+1) (by simp) ?_);intro gg cap2 w4 hown4 hgrow4 hat4 hlt4;have ba:Below w3.heap.size w3 (w3.alloc (.cells #[.slice ra rn rc] 30)):=(zF _ _).alloc (zD _) _;have HB4:Hid (Below wx.heap.size wx w4):=zA ((HB3.out.trans (ba.mono HB3.out.size)).grown hgrow4 (by simp;omega) (fun k e=>(HO3.out.lt k e).1));obtain⟨X4,hX4⟩:∃l,l=X3++[.slice ra rn rc]:=⟨_,rfl⟩
       have HX4:=zA hX4;rw[<- hX4]at hown4;have HO4:=zA hown4;have HS4:=zA (HS2.out.below HB4.out);have hs4:wx.heap.size<=w4.heap.size:=HB4.out.size;clear hown4 hgrow4 hat4 hlt4 ba hX4;go_wp2_with (at_builtin;refine wpList_append_many rfl _ _ rfl Tryz.underlying38 hi0 hz0 hz1 hz2 rfl (by decide) (by rfl) HO4.out (some ⟨g,off+k,none⟩) ((rs.drop k).flatMap csRw) (n-k) (lc-k) (by rfl) (by rw[flat_len csRw_len,List.length_drop,<- HN.out];try omega) (fun e=>HS4.out.no _ _ (by rw[e])) (HS4.out.cells csRw_len (by decide)) (one_csRw _ (fun p hp=>HRO p (by first|exact List.mem_of_mem_take hp|exact List.mem_of_mem_drop hp))) (by unfold maxLen;omega) (by omega) hs4 ?_);intro v5 w5 hown5 hgrow5;have HB5:Hid (Below wx.heap.size wx w5):=zA (HB4.out.grown hgrow5 HB4.out.size (fun k hk=>(HO4.out.lt k hk).1));have HO5:Hid (w5.ownsRow wx.heap.size 30 1 v5 RS.length (RS.flatMap csRw)):=zA (by
        rw[HT.out,zG,zG,yH,List.length_drop,zT,zT,<- HX3.out,<- HN.out];rw[HX4.out]at hown5;have e1:min k n+[(Value.slice ra rn rc,r)].length+(n-k)=k+1+(n-k):=by rw[Nat.min_eq_left hk];rfl
        rw[e1];simpa using hown5)
       obtain⟨a5,c5,hv5⟩:=own_slice hown5;subst hv5;clear hown5 hgrow5;go_wp2;go_ret;exact⟨_,rfl,⟨RS,⟨Src.own csRw_len HO5.out rfl,own_capM HO5.out,HRR.out _ HB5.out⟩,HRM.out⟩,HBX.out.trans (HB5.out.mono HBX.out.size)⟩
    . have hknI:¬(k:Int)<(n:Int):=by omega
      have hdk:decide ((k:Int)<(n:Int))=false:=decide_eq_false hknI;have hkn2:k=n:=by omega
      have HNE:Hid (¬L[k]?=some r):=zA (fun hy=>by
       have:=(zE.1 hy).1;rw[<- HLL.out,<- HN.out]at this;omega)
      obtain⟨wx,hwx⟩:∃wx,wx=wy:=⟨_,rfl⟩
      subst hwx;have HBX:=HBQ;have H:=zA (HRS.out.src.below HBX.out);have HROWS:=zA (HRS.out.below HBX.out).rows;have HVR:=zA (HV.out.below HBX.out);have HRO:∀p∈rs,p.1.oneCell'=true:=HRO0.out;have HT:Hid (RS=rs.take k++[(Value.slice ra rn rc,r)]++rs.drop k):=zA hRS;have HRM:Hid (RS.map (·.2)=R):=zA (by
       rw[hRS,HR.out,putL_at (k:=k) (by rw[<- HLL.out,<- HN.out];exact hk) HLOW.out HNOT.out,if_neg HNE.out,yL,yL,List.map_take,List.map_drop,HLM.out];rfl)
      have HRR:Hid (∀u,Below wx.heap.size wx u->∀p∈RS,TxtS (fun _=>True) u p.1 p.2/\p.2.length<=1000000):=zA (fun u hu p hp=>by
       rw[hRS]at hp;rcases zM.1 hp with hp|hp
       . rcases zM.1 hp with hp|hp
         . have h:=HROWS.out p (List.mem_of_mem_take hp);exact⟨h.1.below hu,h.2⟩
         . simp at hp;subst hp;exact⟨HVR.out.below hu,hrl⟩
       . have h:=HROWS.out p (List.mem_of_mem_drop hp);exact⟨h.1.below hu,h.2⟩)
      clear hRS;cases la with
      |none=>
       obtain⟨hn0,hc0⟩:=H.out.no n lc rfl;subst hn0 hc0;obtain rfl:k=0:=by omega
       have HS1:Hid (Src csRw 1 wx (.slice none 0 0) (rs.take 0)):=zA (src_take H.out HN.out hk);have HS2:Hid (Src csRw 1 wx (.slice none 0 0) (rs.drop 0)):=zA (by simpa using H.out);go_wp2_with (at_builtin;refine wpList_append_many rfl _ _ rfl Tryz.underlying38 hi0 hz0 hz1 hz2 rfl (by decide) (by rfl) (World.ownsRow_nil _ wx.heap.size _ _) none ((rs.take 0).flatMap csRw) 0 0 (by rfl) (by rw[flat_len csRw_len,yH,<- HN.out];omega) (fun e=>HS1.out.no _ _ (by rw[e])) (HS1.out.cells csRw_len (by decide)) (one_csRw _ (fun p hp=>HRO p (by first|exact List.mem_of_mem_take hp|exact List.mem_of_mem_drop hp))) (by unfold maxLen;omega) (by omega) (zD _) ?_);intro v3 w3 hown3 hgrow3;obtain⟨X3,hX3⟩:∃l,l=(rs.take 0).flatMap csRw:=⟨_,rfl⟩
       have HX3:=zA hX3;have hown3':w3.ownsRow wx.heap.size 30 1 v3 0 X3:=by
        rw[hX3];simpa using hown3
       have HB3:Hid (Below wx.heap.size wx w3):=zA (Below.grown (zF _ _) hgrow3 (zD _) (fun z hz=>by cases hz));obtain⟨a3,c3,hv3⟩:=own_slice hown3';subst hv3;have HO3:=zA hown3';have hs3:wx.heap.size<=w3.heap.size:=HB3.out.size;clear hown3 hgrow3 hown3' hX3;go_wp2_with (at_builtin;refine wpList_append_lies _ rfl _ _ _ rfl wx.heap.size 30 i0 _ 1 24 Tryz.underlying38 hi0 hz0 hz1 hz2 rfl (by decide) (.slice a3 0 c3) _ _ (by rfl) (HO3.out.alloc _) ⟨w3.heap.size,0,none⟩ 1 1 [.slice ra rn rc] (by rfl) (by rfl) (World.news_of_block (cs:=#[.slice ra rn rc]) (t:=30) (fr:=(0,0)) (heap_alloc_new w3 _)) (by simp[hvo]) (by decide) (by unfold maxLen;omega) (by omega) (by simp;omega) (w3.heap.size+1) (by simp) ?_);intro gg cap2 w4 hown4 hgrow4 hat4 hlt4;have ba:Below w3.heap.size w3 (w3.alloc (.cells #[.slice ra rn rc] 30)):=(zF _ _).alloc (zD _) _;have HB4:Hid (Below wx.heap.size wx w4):=zA ((HB3.out.trans (ba.mono HB3.out.size)).grown hgrow4 (by simp;omega) (fun z e=>(HO3.out.lt z e).1));obtain⟨X4,hX4⟩:∃l,l=X3++[.slice ra rn rc]:=⟨_,rfl⟩
       have HX4:=zA hX4;rw[<- hX4]at hown4;have HO4:=zA hown4;have HS4:=zA (HS2.out.below HB4.out);have hs4:wx.heap.size<=w4.heap.size:=HB4.out.size;clear hown4 hgrow4 hat4 hlt4 ba hX4;go_wp2_with (at_builtin;refine wpList_append_many rfl _ _ rfl Tryz.underlying38 hi0 hz0 hz1 hz2 rfl (by decide) (by rfl) HO4.out none ((rs.drop 0).flatMap csRw) 0 0 (by rfl) (by rw[flat_len csRw_len,List.length_drop,<- HN.out];try omega) (fun e=>HS4.out.no _ _ (by rw[e])) (HS4.out.cells csRw_len (by decide)) (one_csRw _ (fun p hp=>HRO p (by first|exact List.mem_of_mem_take hp|exact List.mem_of_mem_drop hp))) (by unfold maxLen;omega) (by omega) hs4 ?_);intro v5 w5 hown5 hgrow5;have HB5:Hid (Below wx.heap.size wx w5):=zA (HB4.out.grown hgrow5 HB4.out.size (fun z hz=>(HO4.out.lt z hz).1));have HO5:Hid (w5.ownsRow wx.heap.size 30 1 v5 RS.length (RS.flatMap csRw)):=zA (by
        rw[HT.out,zG,zG,yH,List.length_drop,zT,zT,<- HX3.out,<- HN.out];rw[HX4.out]at hown5;have e1:min 0 0+[(Value.slice ra rn rc,r)].length+(0-0)=0+1+(0-0):=by rw[Nat.min_eq_left hk];rfl
        rw[e1];simpa using hown5)
       obtain⟨a5,c5,hv5⟩:=own_slice hown5;subst hv5;clear hown5 hgrow5;go_wp2;go_ret;exact⟨_,rfl,⟨RS,⟨Src.own csRw_len HO5.out rfl,own_capM HO5.out,HRR.out _ HB5.out⟩,HRM.out⟩,HBX.out.trans (HB5.out.mono HBX.out.size)⟩
      |some ad=>
       subst hkn2;by_cases hck:lc=k
       . subst hck;have hkc:(lc:Int)<=(lc:Int):=by omega
         have hnc:(lc:Int)<=(lc:Int):=by omega
         have hkn:(lc:Int)<=(lc:Int):=by omega
         have HS1:Hid (Src csRw 1 wx (.slice (some ad) lc lc) (rs.take lc)):=zA (src_take H.out HN.out hk);have HS2:Hid (Src csRw 1 wx (.slice (some ad) 0 0) (rs.drop lc)):=zA (by
          have h:=src_drop H.out HN.out hk hlc;rw[if_pos rfl,Nat.sub_self]at h;exact h)
         go_wp2_with (at_builtin;refine wpList_append_many rfl _ _ rfl Tryz.underlying38 hi0 hz0 hz1 hz2 rfl (by decide) (by rfl) (World.ownsRow_nil _ wx.heap.size _ _) (some ad) ((rs.take lc).flatMap csRw) lc lc (by rfl) (by rw[flat_len csRw_len,yH,<- HN.out];omega) (fun e=>HS1.out.no _ _ (by rw[e])) (HS1.out.cells csRw_len (by decide)) (one_csRw _ (fun p hp=>HRO p (by first|exact List.mem_of_mem_take hp|exact List.mem_of_mem_drop hp))) (by unfold maxLen;omega) (by omega) (zD _) ?_);intro v3 w3 hown3 hgrow3;obtain⟨X3,hX3⟩:∃l,l=(rs.take lc).flatMap csRw:=⟨_,rfl⟩
         have HX3:=zA hX3;have hown3':w3.ownsRow wx.heap.size 30 1 v3 lc X3:=by
          rw[hX3];simpa using hown3
         have HB3:Hid (Below wx.heap.size wx w3):=zA (Below.grown (zF _ _) hgrow3 (zD _) (fun k hk=>by cases hk));obtain⟨a3,c3,hv3⟩:=own_slice hown3';subst hv3;have HO3:=zA hown3';have hs3:wx.heap.size<=w3.heap.size:=HB3.out.size;clear hown3 hgrow3 hown3' hX3;go_wp2_with (at_builtin;refine wpList_append_lies _ rfl _ _ _ rfl wx.heap.size 30 i0 _ 1 24 Tryz.underlying38 hi0 hz0 hz1 hz2 rfl (by decide) (.slice a3 lc c3) _ _ (by rfl) (HO3.out.alloc _) ⟨w3.heap.size,0,none⟩ 1 1 [.slice ra rn rc] (by rfl) (by rfl) (World.news_of_block (cs:=#[.slice ra rn rc]) (t:=30) (fr:=(0,0)) (heap_alloc_new w3 _)) (by simp[hvo]) (by decide) (by unfold maxLen;omega) (by omega) (by simp;omega) (w3.heap.size+1) (by simp) ?_);intro gg cap2 w4 hown4 hgrow4 hat4 hlt4;have ba:Below w3.heap.size w3 (w3.alloc (.cells #[.slice ra rn rc] 30)):=(zF _ _).alloc (zD _) _;have HB4:Hid (Below wx.heap.size wx w4):=zA ((HB3.out.trans (ba.mono HB3.out.size)).grown hgrow4 (by simp;omega) (fun k e=>(HO3.out.lt k e).1));obtain⟨X4,hX4⟩:∃l,l=X3++[.slice ra rn rc]:=⟨_,rfl⟩
         have HX4:=zA hX4;rw[<- hX4]at hown4;have HO4:=zA hown4;have HS4:=zA (HS2.out.below HB4.out);have hs4:wx.heap.size<=w4.heap.size:=HB4.out.size;clear hown4 hgrow4 hat4 hlt4 ba hX4;go_wp2_with (at_builtin;refine wpList_append_many rfl _ _ rfl Tryz.underlying38 hi0 hz0 hz1 hz2 rfl (by decide) (by rfl) HO4.out (some ad) ((rs.drop lc).flatMap csRw) 0 0 (by rfl) (by rw[flat_len csRw_len,List.length_drop,<- HN.out];try omega) (fun e=>HS4.out.no _ _ (by rw[e])) (HS4.out.cells csRw_len (by decide)) (one_csRw _ (fun p hp=>HRO p (by first|exact List.mem_of_mem_take hp|exact List.mem_of_mem_drop hp))) (by unfold maxLen;omega) (by omega) hs4 ?_);intro v5 w5 hown5 hgrow5;have HB5:Hid (Below wx.heap.size wx w5):=zA (HB4.out.grown hgrow5 HB4.out.size (fun k hk=>(HO4.out.lt k hk).1));have HO5:Hid (w5.ownsRow wx.heap.size 30 1 v5 RS.length (RS.flatMap csRw)):=zA (by
          rw[HT.out,zG,zG,yH,List.length_drop,zT,zT,<- HX3.out,<- HN.out];rw[HX4.out]at hown5;have e1:min lc lc+[(Value.slice ra rn rc,r)].length+(lc-lc)=lc+1+(lc-lc):=by rw[Nat.min_eq_left hk];rfl
          rw[e1];simpa using hown5)
         obtain⟨a5,c5,hv5⟩:=own_slice hown5;subst hv5;clear hown5 hgrow5;go_wp2;go_ret;exact⟨_,rfl,⟨RS,⟨Src.own csRw_len HO5.out rfl,own_capM HO5.out,HRR.out _ HB5.out⟩,HRM.out⟩,HBX.out.trans (HB5.out.mono HBX.out.size)⟩
       . have hkc:(k:Int)<=(lc:Int):=by omega
         have hnc:(k:Int)<=(lc:Int):=by omega
         have hkn:(k:Int)<=(k:Int):=by omega
         have HS1:Hid (Src csRw 1 wx (.slice (some ad) k lc) (rs.take k)):=zA (src_take H.out HN.out hk);have HS2:Hid (Src csRw 1 wx (.slice (some (ad.add k)) 0 (lc-k)) (rs.drop k)):=zA (by
          have h:=src_drop H.out HN.out hk hlc;rw[if_neg hck,Nat.sub_self,Option.map_some]at h;exact h)
         go_wp2_with (at_builtin;refine wpList_append_many rfl _ _ rfl Tryz.underlying38 hi0 hz0 hz1 hz2 rfl (by decide) (by rfl) (World.ownsRow_nil _ wx.heap.size _ _) (some ad) ((rs.take k).flatMap csRw) k lc (by rfl) (by rw[flat_len csRw_len,yH,<- HN.out];omega) (fun e=>HS1.out.no _ _ (by rw[e])) (HS1.out.cells csRw_len (by decide)) (one_csRw _ (fun p hp=>HRO p (by first|exact List.mem_of_mem_take hp|exact List.mem_of_mem_drop hp))) (by unfold maxLen;omega) (by omega) (zD _) ?_);intro v3 w3 hown3 hgrow3;obtain⟨X3,hX3⟩:∃l,l=(rs.take k).flatMap csRw:=⟨_,rfl⟩
         have HX3:=zA hX3;have hown3':w3.ownsRow wx.heap.size 30 1 v3 k X3:=by
          rw[hX3];simpa using hown3
         have HB3:Hid (Below wx.heap.size wx w3):=zA (Below.grown (zF _ _) hgrow3 (zD _) (fun k hk=>by cases hk));obtain⟨a3,c3,hv3⟩:=own_slice hown3';subst hv3;have HO3:=zA hown3';have hs3:wx.heap.size<=w3.heap.size:=HB3.out.size;clear hown3 hgrow3 hown3' hX3;go_wp2_with (at_builtin;refine wpList_append_lies _ rfl _ _ _ rfl wx.heap.size 30 i0 _ 1 24 Tryz.underlying38 hi0 hz0 hz1 hz2 rfl (by decide) (.slice a3 k c3) _ _ (by rfl) (HO3.out.alloc _) ⟨w3.heap.size,0,none⟩ 1 1 [.slice ra rn rc] (by rfl) (by rfl) (World.news_of_block (cs:=#[.slice ra rn rc]) (t:=30) (fr:=(0,0)) (heap_alloc_new w3 _)) (by simp[hvo]) (by decide) (by unfold maxLen;omega) (by omega) (by simp;omega) (w3.heap.size+1) (by simp) ?_);intro gg cap2 w4 hown4 hgrow4 hat4 hlt4;have ba:Below w3.heap.size w3 (w3.alloc (.cells #[.slice ra rn rc] 30)):=(zF _ _).alloc (zD _) _;have HB4:Hid (Below wx.heap.size wx w4):=zA ((HB3.out.trans (ba.mono HB3.out.size)).grown hgrow4 (by simp;omega) (fun k e=>(HO3.out.lt k e).1));obtain⟨X4,hX4⟩:∃l,l=X3++[.slice ra rn rc]:=⟨_,rfl⟩
         have HX4:=zA hX4;rw[<- hX4]at hown4;have HO4:=zA hown4;have HS4:=zA (HS2.out.below HB4.out);have hs4:wx.heap.size<=w4.heap.size:=HB4.out.size;clear hown4 hgrow4 hat4 hlt4 ba hX4;go_wp2_with (at_builtin;refine wpList_append_many rfl _ _ rfl Tryz.underlying38 hi0 hz0 hz1 hz2 rfl (by decide) (by rfl) HO4.out (some (ad.add k)) ((rs.drop k).flatMap csRw) 0 (lc-k) (by rfl) (by rw[flat_len csRw_len,List.length_drop,<- HN.out];try omega) (fun e=>HS4.out.no _ _ (by rw[e])) (HS4.out.cells csRw_len (by decide)) (one_csRw _ (fun p hp=>HRO p (by first|exact List.mem_of_mem_take hp|exact List.mem_of_mem_drop hp))) (by unfold maxLen;omega) (by omega) hs4 ?_);intro v5 w5 hown5 hgrow5;have HB5:Hid (Below wx.heap.size wx w5):=zA (HB4.out.grown hgrow5 HB4.out.size (fun k hk=>(HO4.out.lt k hk).1));have HO5:Hid (w5.ownsRow wx.heap.size 30 1 v5 RS.length (RS.flatMap csRw)):=zA (by
          rw[HT.out,zG,zG,yH,List.length_drop,zT,zT,<- HX3.out,<- HN.out];rw[HX4.out]at hown5;have e1:min k k+[(Value.slice ra rn rc,r)].length+(k-k)=k+1+(k-k):=by rw[Nat.min_eq_left hk];rfl
          rw[e1];simpa using hown5)
         obtain⟨a5,c5,hv5⟩:=own_slice hown5;subst hv5;clear hown5 hgrow5;go_wp2;go_ret;exact⟨_,rfl,⟨RS,⟨Src.own csRw_len HO5.out rfl,own_capM HO5.out,HRR.out _ HB5.out⟩,HRM.out⟩,HBX.out.trans (HB5.out.mono HBX.out.size)⟩
end Go.Proofs.YtkbgmcmcpbegjabGreatDoor
namespace Go.Proofs.YtkbgmcmcpbegjabGreatDoor
open Go.RowKit
def wsetN(ws:List Wd)(s:Wd):Nat->Nat
 |0=>0
 |k+1=>if ws[k]?=some s then wsetN ws s k ||| 2^k else wsetN ws s k
theorem wset_bit(ws:List Wd)(s:Wd)(j:Nat):∀k,(wsetN ws s k).testBit j=true↔j<k/\ws[j]?=some s
 |0=>by simp[wsetN]
 |k+1=>by
  rw[wsetN];split
  . rename_i h;rw[Nat.testBit_or,Bool.or_eq_true,wset_bit ws s j k,Nat.testBit_two_pow,decide_eq_true_eq];constructor
    . rintro (⟨h1,h2⟩|rfl)
      . exact⟨by omega,h2⟩
      . exact⟨by omega,h⟩
    . rintro⟨h1,h2⟩;by_cases e:k=j
      . exact .inr e
      . exact .inl ⟨by omega,h2⟩
  . rename_i h;rw[wset_bit ws s j k];constructor
    . rintro⟨h1,h2⟩;exact⟨by omega,h2⟩
    . rintro⟨h1,h2⟩;have:j≠k:=fun e=>h (by rw[<- e];exact h2)
      exact⟨by omega,h2⟩
theorem wset_lt(ws:List Wd)(s:Wd):∀k,k<=24->wsetN ws s k<16777216
 |0,_=>by simp[wsetN]
 |k+1,h=>by
  rw[wsetN];have:=wset_lt ws s k (by omega);split
  . exact or_lt24 this (pow_lt24 (by omega))
  . exact this
def FolAt(w:World)(b o:Nat)(F:Nat->Nat):Prop:=∀j,j<24->w.cell? ⟨b,o+j,none⟩=some (.int .u32 (F j:Int))/\w.frozen? ⟨b,o+j,none⟩=false
theorem FolAt.keep{w w':World}{b o:Nat}{F:Nat->Nat}(h:FolAt w b o F)(hb:w'.heap[b]?=w.heap[b]?):FolAt w' b o F:=fun j hj=>by
 have:=h j hj;simpa only[World.cell?,World.frozen?,hb]using this
theorem FolAt.set{w:World}{b o:Nat}{F:Nat->Nat}(h:FolAt w b o F){i x:Nat}(hi:i<24):FolAt (w.setCell ⟨b,o+i,none⟩ (.int .u32 (x:Int))) b o (fun j=>if j=i then x else F j):=fun j hj=>by
 rw[World.frozen?_setCell];refine⟨?_,(h j hj).2⟩;by_cases e:j=i
 . subst e;rw[World.cell?_setCell_same _ _ _ (h j hj).1];simp
 . rw[World.cell?_setCell_other _ _ _ _ (fun h=>e (by injection h with h1 h2;omega)),(h j hj).1];simp[e]
theorem FolAt.congr{w:World}{b o:Nat}{F G:Nat->Nat}(h:FolAt w b o F)(hg:∀j,j<24->F j=G j):FolAt w b o G:=fun j hj=>by rw[(h j hj).1,hg j hj];exact⟨rfl,(h j hj).2⟩
end Go.Proofs.YtkbgmcmcpbegjabGreatDoor
