/- QOpen. -/
import Derived.Test.YtkbgmcmcpbegjabGreatDoorMH3
import Derived.Deep.Slices
import Derived.Deep.Strs
import Derived.ChangeSame
import Derived.OpenShut
import Derived.SizedLaws
import Derived.WideShapes
import Derived.Lib.SmallJoins
set_option maxRecDepth 100000
namespace Go.Proofs.YtkbgmcmcpbegjabGreatDoor
open Go.RowKit
theorem weights_in{H:Type}{P:Program}{e:TypeId}{d:DataW H}:∀ {l:List (DataW H)},d∈l->∀q∈d.weights P e,q∈DataW.weightsAll P e l
 |x::l,h,q,hq=>by
  unfold DataW.weightsAll;rcases zY.1 h with rfl|h
  . exact yG _ hq
  . exact List.mem_append_right _ (weights_in h q hq)
theorem open_slN{α:Type}{en:α->List Value}{k:Nat}(d0:α)(hk:∀x,(en x).length=k)(hk0:0<k){t el:TypeId}(ht:Tryz.prog.underlying t=some (.slice el))(hc:Tryz.prog.cellsOf el=k)(Pr:α->Prop)
 {H:Type} {enc:TypeId×Value->H} {W:World} {fuel:Nat} {v:Value} {x:DataW H×List MemPlace}
 (op:∀(fuel:Nat) (cs:List Value) (y:DataW H×List MemPlace),SizeOf.sizeOf y.1<SizeOf.sizeOf x.1->DataW.trod enc Tryz.prog W 0 (fun _=>true) true fuel el cs=some y->(∀m∈y.1.weights Tryz.prog el,m<=reachBytes)->∃a:α,cs=en a/\Pr a)
 (hf:DataW.trod enc Tryz.prog W 0 (fun _=>true) true fuel t [v]=some x) (hw:∀m∈x.1.weights Tryz.prog t,m<=reachBytes):
 ∃L:List α,SlS en k (fun _=>True) W v L/\(∀a∈L,Pr a)/\L.length<=maxLen/\CapS v L.length:=by
 rcases Go.Deep.open_slice ht hf with⟨hcs,_⟩|⟨a,len,cap,m,n,D,Pl,hcs,_,hl,hm,hmm,hx,hcell⟩
 . simp only[List.cons.injEq,and_true]at hcs;subst hcs;exact⟨[],SlS.nil _ _,by simp,by simp,none,0,rfl,zD _⟩
 . simp only[List.cons.injEq,and_true]at hcs;subst hcs;simp only[if_true]at hmm;rw[hc]at hcell;have key:∀i,i<len->∃r:α,W.cells? 0 (a.add (i*k)) k=some (en r)/\Pr r:=by
    intro i hi;obtain⟨cs,h1,h2⟩:=hcell i (by omega);obtain⟨r,rfl,h3⟩:=op _ _ _ (by
     rw[hx];have h4:=List.sizeOf_lt_of_mem (show D i∈(List.range len).map D from zS.2 ⟨i,yD.2 hi,rfl⟩);simp only[DataW.slice.sizeOf_spec];omega) h2 (fun q hq=>hw q (by
     rw[hx];simp only[DataW.weights,ht];exact zP _ (yG _ (weights_in (zS.2 ⟨i,yD.2 hi,rfl⟩) q hq))))
    exact⟨r,h1,h3⟩
   obtain⟨F,hF⟩:∃F:Nat->α,∀i,i<len->W.cells? 0 (a.add (i*k)) k=some (en (F i))/\Pr (F i):=
    ⟨fun i=>if h:i<len then Classical.choose (key i h)else d0,fun i hi=>by simp only[hi,dif_pos];exact Classical.choose_spec (key i hi)⟩
   have hvl:((List.range len).map F).length=len:=by simp
   refine⟨(List.range len).map F,⟨some a,cap,by rw[hvl],?_⟩,?_,by rw[hvl];omega,some a,cap,by rw[hvl],by rw[hvl];exact hl⟩
   . by_cases h0:len=0
     . left;rw[h0];rfl
     . right;obtain⟨b,off,spot⟩:=a;obtain⟨g1,_⟩:=hF 0 (by omega);have g2:=(World.cells?_some g1).2.2 0 (by omega);have hspot:spot=none:=by
        have hz:(en (F 0))[0]?=some ((en (F 0))[0]'(by rw[hk];exact hk0)):=zB _;rw[hz]at g2;simpa[Addr.add]using World.cell?_spot g2
       subst hspot;have hlt:b<W.heap.size:=by
        have hz:(en (F 0))[0]?=some ((en (F 0))[0]'(by rw[hk];exact hk0)):=zB _;rw[hz]at g2;have:=World.block_lt_of_cell? W _ g2;simpa only[Go.WideShapes.add_plain]using this
       refine⟨b,off,rfl,trivial,hlt,fun j r hj c u hu=>?_⟩;have hj1:j<len:=by have:=(zE.1 hj).1;rwa[hvl]at this
       rw[zI,yO hj1]at hj;simp only[Option.map_some,Option.some.injEq]at hj;subst hj;have hck:c<k:=by have:=(zE.1 hu).1;rw[hk]at this;exact this
       have q:=(World.cells?_some (hF j hj1).1).2.2 c hck;simp only[Go.WideShapes.add_plain]at q;rw[q,hu]
   . intro r hr;obtain⟨i,hi,rfl⟩:=zS.1 hr;exact(hF i (yD.1 hi)).2
theorem cellsQS:Tryz.prog.cellsOf 9=1:=by kernel_rfl
theorem cellsQI:Tryz.prog.cellsOf 3=1:=by kernel_rfl
theorem cellsQP:Tryz.prog.cellsOf 28=3:=by kernel_rfl
theorem cellsQK:Tryz.prog.cellsOf 26=1:=by kernel_rfl
theorem open_node{H:Type}{enc:TypeId×Value->H}{W:World}:∀(m fuel:Nat) (cs:List Value) (x:DataW H×List MemPlace),SizeOf.sizeOf x.1<m->
 DataW.trod enc Tryz.prog W 0 (fun _=>true) true fuel 28 cs=some x->(∀m∈x.1.weights Tryz.prog 28,m<=reachBytes)->∃t:Vt,cs=csN t/\VOk (fun _=>True) W t:=by
 intro m;induction m with
 |zero=>intro _ _ _ h;omega
 |succ m ih=>
  intro fuel cs x hm hf hw;obtain⟨y0,y1,y2,n,hx,hlen,h0,h1,h2⟩:=Go.Deep.trod_struct3 Tryz.underlying28 hf;rw[cellsQP]at hlen;obtain⟨c0,c1,c2,rfl⟩:∃c0 c1 c2,cs=[c0,c1,c2]:=by
   match cs,hlen with
   |[c0,c1,c2],_=>exact⟨c0,c1,c2,rfl⟩
  simp only[cellsQI,cellsQS,cellsQK,List.drop_zero,List.drop_succ_cons,List.take_succ_cons,List.take_zero]at h0 h1 h2;obtain⟨z,k0,_,_⟩:=DataW.trod_int Tryz.underlying3 h0;obtain⟨s1,k1,_,l1⟩:=DataW.trod_string Tryz.underlying9 h1;simp only[List.cons.injEq,and_true]at k0 k1;subst k0 k1;have hsz:SizeOf.sizeOf y2.1<SizeOf.sizeOf x.1:=by
   rw[hx];simp only[DataW.agg.sizeOf_spec,List.cons.sizeOf_spec];omega
  rw[hx]at hw;simp only[DataW.weights,Tryz.underlying28,List.map_cons,List.map_nil,DataW.weightsEach,List.append_nil]at hw;obtain⟨L,g1,g2,g3,_⟩:=open_slN (en:=csN) ⟨0,[],.slice none 0 0,[]⟩ csN_len (by decide) Tryz.underlying26 cellsQP (VOk (fun _=>True) W) (fun fuel cs y hy h hq=>ih fuel cs y (by omega) h hq) h2 (fun m hm=>hw m (by simp[hm]));refine⟨⟨z,s1.data.toList,c2,L⟩,rfl,vok_mk.2 ⟨g1,?_,g3,g2⟩⟩;rw[data_len];exact l1
theorem open_path{H:Type}{enc:TypeId×Value->H}{W:World}{fuel:Nat}{cs:List Value}{x:DataW H×List MemPlace}
 (hf:DataW.trod enc Tryz.prog W 0 (fun _=>true) true fuel 28 cs=some x) (hw:∀m∈x.1.weights Tryz.prog 28,m<=reachBytes):∃t:Vt,cs=csN t/\VOk (fun _=>True) W t:=open_node _ _ _ _ (Nat.lt_succ_self _) hf hw
end Go.Proofs.YtkbgmcmcpbegjabGreatDoor
