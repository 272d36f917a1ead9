/- WOpen. -/
import Derived.Test.YtjoddkeamboeoaaMG19
import Derived.Lib.SmallJoins
import Derived.Deep.Slices
import Derived.SizedLaws
set_option maxRecDepth 100000
namespace Go.Proofs.Ytjoddkeamboeoaa
open Go.RowKit Go.Joins
theorem reach_le:reachBytes<=140737488355328:=by decide
theorem open_strs2{H:Type}{enc:TypeId×Value->H}{W:World}{fuel:Nat}{v:Value}{x:DataW H×List MemPlace}
 (hf:DataW.trod enc Try.prog W 0 (fun _=>true) true fuel 27 [v]=some x) (hw:∀m∈x.1.weights Try.prog 27,m<=reachBytes):∃ls,StrsAt W v ls/\ls.length<=4611686018427387904:=by
 have hf0:=hf;rcases Go.ChangeShapes.open_strings Try.underlying27 Try.underlying9 (by kernel_rfl) hf with⟨hcs,_⟩|⟨ad,len',cap',ss,hcs,_,hl,hm,hz,hx,hcell,_⟩
 . simp only[List.cons.injEq,and_true]at hcs;subst hcs;exact⟨[],⟨by simp,none,0,rfl,.inl rfl⟩,by simp⟩
 . simp only[List.cons.injEq,and_true]at hcs;subst hcs;obtain⟨ls,h1⟩:=open_strs hf0 rfl;refine⟨ls,h1,?_⟩;obtain⟨_,ao,cap,e1,_⟩:=h1;simp only[Value.slice.injEq]at e1;obtain⟨_,rfl,_⟩:=e1;rw[hx]at hw;have hb:Try.prog.bytesOf 9=16:=by kernel_rfl
   have:=hw (((Go.ChangeShapes.strs (H:=H) (ss.take ls.length)).length+(Go.ChangeShapes.strs (H:=H) (ss.drop ls.length)).length)*16) (by simp[DataW.weights,Try.underlying27,hb]);have hr:=reach_le;simp only[if_true]at hz;simp only[Go.ChangeShapes.strs,List.length_map,zQ,zN]at this;omega
theorem weights_mem_all{H:Type}{P:Program}{e:TypeId}:∀ {l:List (DataW H)} {d:DataW H},d∈l->∀n∈d.weights P e,n∈DataW.weightsAll P e l
 |[],_,h,_,_=>by simp at h
 |x::l,d,h,n,hn=>by
  rw[DataW.weightsAll,zZ];rcases List.mem_cons.1 h with rfl|h
  . exact .inl hn
  . exact .inr (weights_mem_all h n hn)
theorem open_rows2{H:Type}{enc:TypeId×Value->H}{W:World}{fuel:Nat}{v:Value}{x:DataW H×List MemPlace}
 (hf:DataW.trod enc Try.prog W 0 (fun _=>true) true fuel 34 [v]=some x) (hw:∀m∈x.1.weights Try.prog 34,m<=reachBytes):
 ∃rs,RowsAt W v rs/\∀r∈rs,r.length<=4611686018427387904:=by
 rcases Go.Deep.open_slice1 Try.underlying34 (by kernel_rfl) hf with⟨hcs,_⟩|⟨a,len,cap,m,n,V,D,Pl,hcs,_,hl,hm,hmm,hx,hcell⟩
 . simp only[List.cons.injEq,and_true]at hcs;subst hcs;exact⟨[],⟨[],⟨by simp,none,0,rfl,.inl rfl⟩,rfl,by simp⟩,by simp⟩
 . simp only[List.cons.injEq,and_true]at hcs;subst hcs;simp only[if_true]at hmm;have key:∀i,i<len->∃ls,StrsAt W (V i) ls/\ls.length<=4611686018427387904:=by
    intro i hi;refine open_strs2 (hcell i (by omega)).2 (fun q hq=>hw q ?_);rw[hx];simp only[DataW.weights,Try.underlying34];exact List.mem_cons_of_mem _ (List.mem_append_left _ (weights_mem_all (List.mem_map.2 ⟨i,List.mem_range.2 hi,rfl⟩) q hq))
   obtain⟨F,hF⟩:∃F:Nat->List (List UInt8),∀i,i<len->StrsAt W (V i) (F i)/\(F i).length<=4611686018427387904:=
    ⟨fun i=>if h:i<len then Classical.choose (key i h)else [],fun i hi=>by simp only[hi,dif_pos];exact Classical.choose_spec (key i hi)⟩
   have hvl:((List.range len).map V).length=len:=by simp
   refine⟨(List.range len).map F,⟨(List.range len).map V,⟨by rw[hvl];unfold maxLen at hm;omega,some a,cap,by rw[hvl],?_⟩,by simp,?_⟩,?_⟩
   . by_cases h0:len=0
     . left;rw[h0];rfl
     . right;obtain⟨b,off,spot⟩:=a;have hspot:spot=none:=by simpa[Addr.add]using World.cell?_spot (hcell 0 (by omega)).1
       subst hspot;refine⟨b,off,rfl,World.block_lt_of_cell? W _ (hcell 0 (by omega)).1,fun j u hj=>?_⟩;have hj1:j<len:=by have:=(zG.1 hj).1;rwa[hvl]at this
       rw[zP,List.getElem?_range hj1]at hj;simp only[Option.map_some,Option.some.injEq]at hj;rw[<- Go.WideShapes.add_plain,(hcell j (by omega)).1,hj]
   . intro j u r hu hr;have hj1:j<len:=by have:=(zG.1 hu).1;rwa[hvl]at this
     rw[zP,List.getElem?_range hj1]at hu hr;simp only[Option.map_some,Option.some.injEq]at hu hr;subst hu hr;exact(hF j hj1).1
   . intro r hr;obtain⟨i,hi,rfl⟩:=List.mem_map.1 hr;exact(hF i (List.mem_range.1 hi)).2
theorem open_nums2{H:Type}{enc:TypeId×Value->H}{W:World}{fuel:Nat}{v:Value}{x:DataW H×List MemPlace}
 (hf:DataW.trod enc Try.prog W 0 (fun _=>true) true fuel 33 [v]=some x):∃ns,IntsAt W v ns:=by
 rcases Go.ChangeShapes.open_ints Try.underlying33 Try.underlying3 (by kernel_rfl) hf with⟨hcs,_⟩|⟨a,len,cap,zs,hcs,_,hl,hm,hz,_,hcell,_⟩
 . simp only[List.cons.injEq,and_true]at hcs;subst hcs;exact⟨[],by simp[intCs],none,0,rfl,.inl rfl⟩
 . simp only[List.cons.injEq,and_true]at hcs;subst hcs;simp only[if_true]at hz;have hl2:(intCs (zs.take len)).length=len:=by rw[intCs_len,zQ];omega
   refine⟨zs.take len,by rw[hl2];unfold maxLen at hm;omega,some a,cap,by rw[hl2],?_⟩;by_cases h0:len=0
   . left;rw[h0];rfl
   . right;obtain⟨b,off,spot⟩:=a;have hspot:spot=none:=by simpa[Addr.add]using World.cell?_spot (hcell 0 (by omega))
     subst hspot;refine⟨b,off,rfl,World.block_lt_of_cell? W _ (hcell 0 (by omega)),fun j t hj=>?_⟩;have hj1:j<len:=by have:=(zG.1 hj).1;rw[hl2]at this;exact this
     rw[intCs,zP,List.getElem?_take_of_lt hj1,zD (by omega)]at hj;simp only[Option.map_some,Option.some.injEq]at hj;rw[<- Go.WideShapes.add_plain,hcell j (by omega),List.getD,zD (by omega),<- hj];rfl
theorem open_note{H:Type}{enc:TypeId×Value->H}{W:World}{fuel:Nat}{cs:List Value}{x:DataW H×List MemPlace}
 (hf:DataW.trod enc Try.prog W 0 (fun _=>true) true fuel 36 cs=some x) (hw:∀m∈x.1.weights Try.prog 36,m<=reachBytes):
 ∃nd c1 c2 c3,cs=[.int .i64 nd.kind,c1,c2,c3]/\NoteAt W (.agg #[.int .i64 nd.kind,c1,c2,c3]) nd/\nd.sane:=by
 obtain⟨y0,y1,y2,y3,n,hx,hlen,h0,h1,h2,h3⟩:=trod_struct4 Try.underlying36 hf;have e4:Try.prog.cellsOf 36=4:=by kernel_rfl
 have e0:Try.prog.cellsOf 3=1:=by kernel_rfl
 have e1:Try.prog.cellsOf 33=1:=by kernel_rfl
 have e2:Try.prog.cellsOf 27=1:=by kernel_rfl
 have e3:Try.prog.cellsOf 34=1:=by kernel_rfl
 rw[e4]at hlen;obtain⟨c0,c1,c2,c3,rfl⟩:∃c0 c1 c2 c3,cs=[c0,c1,c2,c3]:=by
  match cs,hlen with
  |[c0,c1,c2,c3],_=>exact⟨c0,c1,c2,c3,rfl⟩
 simp only[e0,e1,e2,e3,List.drop_zero,List.drop_succ_cons,List.take_succ_cons,List.take_zero]at h0 h1 h2 h3;rw[hx]at hw;simp only[DataW.weights,Try.underlying36,List.map_cons,List.map_nil,DataW.weightsEach,List.append_nil]at hw;obtain⟨k,hk,_,_⟩:=DataW.trod_int Try.underlying3 h0;simp only[List.cons.injEq,and_true]at hk;subst hk;obtain⟨ns,hns⟩:=open_nums2 h1;obtain⟨ts,hts,htl⟩:=open_strs2 h2 (fun m hm=>hw m (by simp[hm]));obtain⟨rs,hrs,hrl⟩:=open_rows2 h3 (fun m hm=>hw m (by simp[hm]));exact⟨⟨k,ns,ts,rs⟩,c1,c2,c3,rfl,⟨c1,c2,c3,rfl,hns,hts,hrs⟩,htl,hrl⟩
end Go.Proofs.Ytjoddkeamboeoaa
