/- MRow, MOpen. -/
import Derived.Test.YtkbgmcmcpbegjaaGreatDoorMG27
import Derived.Test.YtkbgmcmcpbegjaaGreatDoorMG39
import Derived.Test.YtkbgmcmcpbegjaaGreatDoorMG18
set_option maxRecDepth 100000
namespace Go.Proofs.YtkbgmcmcpbegjaaGreatDoor
open Go.RowKit Go.Shelf
theorem lessR_drop:∀(i:Nat) (a b:Rw),a.take i=b.take i->i<=a.length->i<=b.length->lessR a b=lessR (a.drop i) (b.drop i)
 |0,_,_,_,_,_=>rfl
 |i+1,[],_,_,h,_=>by simp at h
 |i+1,_::_,[],_,_,h=>by simp at h
 |i+1,x::a,y::b,h,h1,h2=>by
  simp only[List.take_succ_cons,List.cons.injEq]at h;rw[lessR,if_pos h.1,List.drop_succ_cons,List.drop_succ_cons];exact lessR_drop i a b h.2 (by simpa using h1) (by simpa using h2)
theorem drop_at{α:Type}{l:List α}{i:Nat}{x:α}(h:l[i]?=some x):l.drop i=x::l.drop (i+1):=by
 have hi:=(zF.1 h).1;have he:=(zF.1 h).2;rw[List.drop_eq_getElem_cons hi,he]
set_option maxHeartbeats 4000000 in
theorem rLess_any{S T:Nat->Prop}{w:World}{v1 v2:Value}{L1 L2:Rw}(h1:TxtS S w v1 L1)(h2:TxtS T w v2 L2)(hl1:L1.length<=1000000):
 Calls Tryz.prog 25 #[v1,v2] w fun e w'=>e=.returned (.bool (lessR L1 L2))/\Below w.heap.size w w':=by
 obtain⟨a1,c1,rfl⟩:=h1.slice;obtain⟨a2,c2,rfl⟩:=h2.slice;have H1:=zA h1;have H2:=zA h2;obtain⟨n1,hn1⟩:∃n,n=L1.length:=⟨_,rfl⟩
 obtain⟨n2,hn2⟩:∃n,n=L2.length:=⟨_,rfl⟩
 rw[<- hn1]at H1 hl1 ⊢;rw[<- hn2]at H2 ⊢;have HN1:=zA hn1;have HN2:=zA hn2;obtain⟨r,hr⟩:∃r,r=lessR L1 L2:=⟨_,rfl⟩
 rw[<- hr];have HR:=zA hr;clear h1 h2 hn1 hn2 hr;go_enter Tryz.func25,Tryz.ntmps25;go_wp2_with fail;go_loopw [5] (fun c wr=>∃i:Nat,i<=n1/\i<=n2/\c=.int .i64 i/\L1.take i=L2.take i/\Below w.heap.size w wr) (fun c _=>n1-(intOf c).toNat)
 case atStart=>exact⟨0,zO _,zO _,rfl,rfl,zE _ _⟩
 case round=>
  obtain⟨i,hi1,hi2,rfl,htk,hbq⟩:=hrel;have HBQ:=zA hbq;have HTK:=zA htk;have HD:Hid (r=lessR (L1.drop i) (L2.drop i)):=zA (by rw[HR.out];exact lessR_drop i L1 L2 htk (by rw[<- HN1.out];exact hi1) (by rw[<- HN2.out];exact hi2));clear hbq htk;by_cases hlt1:i<n1
  . have hlt1I:(i:Int)<(n1:Int):=by omega
    by_cases hlt2:i<n2
    . have hlt2I:(i:Int)<(n2:Int):=by omega
      obtain⟨x,hx⟩:∃x,L1[i]?=some x:=⟨_,zB (by rw[<- HN1.out];exact hlt1)⟩
      obtain⟨y,hy⟩:∃y,L2[i]?=some y:=⟨_,zB (by rw[<- HN2.out];exact hlt2)⟩
      obtain⟨g1,o1,e1,_,_,hc1⟩:=(H1.out.below HBQ.out).get hx;obtain⟨g2,o2,e2,_,_,hc2⟩:=(H2.out.below HBQ.out).get hy;subst e1 e2;have q1:=hc1 0 _ rfl;have q2:=hc2 0 _ rfl;rw[yD,yA]at q1 q2;rw[drop_at hx,drop_at hy,lessR]at HD;have HX:=zA (And.intro hx hy);clear hx hy hc1 hc2;by_cases exy:x=y
      . have HT2:Hid (L1.take (i+1)=L2.take (i+1)):=zA (by rw[zS,zS,HX.out.1,HX.out.2,HTK.out,exy]);subst exy;go_wp2_with fail;go_quiet (fail);have HB9:=zA (below_drewN HBQ.out nq);go_wp2;go_roundw
        case rel=>exact⟨i+1,by omega,by omega,by go_num,HT2.out,HB9.out⟩
        case measure=>simp[intOf];omega
      . obtain⟨e1,e2⟩:=not_bothW exy;rw[if_neg exy]at HD;have HD2:Hid (r=Op.bytesLess x y):=HD;clear exy HD;cases hls:Op.bytesLess x y with
        |true=>
         rw[hls]at HD2;go_wp2_with fail;go_quiet (fail);obtain⟨W,hW⟩:∃W,W=wr.drewN nq:=⟨_,rfl⟩
         have HBW:Hid (Below w.heap.size w W):=zA (by rw[hW];exact below_drewN HBQ.out nq);have p1:W.cell? ⟨g1,o1+i,none⟩=some (.string ⟨x.toArray⟩):=by rw[hW];exact q1
         have p2:W.cell? ⟨g2,o2+i,none⟩=some (.string ⟨y.toArray⟩):=by rw[hW];exact q2
         rw[<- hW];clear hW q1 q2;go_wp2_with fail;go_quiet (fail);have HB9:=zA (below_drewN HBW.out nq);go_wp2;go_ret;exact⟨by rw[HD2.out];rfl,HB9.out⟩
        |false=>
         rw[hls]at HD2;go_wp2_with fail;go_quiet (fail);obtain⟨W,hW⟩:∃W,W=wr.drewN nq:=⟨_,rfl⟩
         have HBW:Hid (Below w.heap.size w W):=zA (by rw[hW];exact below_drewN HBQ.out nq);have p1:W.cell? ⟨g1,o1+i,none⟩=some (.string ⟨x.toArray⟩):=by rw[hW];exact q1
         have p2:W.cell? ⟨g2,o2+i,none⟩=some (.string ⟨y.toArray⟩):=by rw[hW];exact q2
         rw[<- hW];clear hW q1 q2;go_wp2_with fail;go_quiet (fail);have HB9:=zA (below_drewN HBW.out nq);go_wp2;go_ret;exact⟨by rw[HD2.out];rfl,HB9.out⟩
    . have hlt2I:¬(i:Int)<(n2:Int):=by omega
      have hd:decide ((i:Int)<(n2:Int))=false:=decide_eq_false hlt2I;have hnn:¬(n1:Int)<(n2:Int):=by omega
      have HT:Hid (r=false):=zA (by
       have e2:L2.drop i=[]:=List.drop_eq_nil_iff.2 (by rw[<- HN2.out];omega);obtain⟨x,hx⟩:∃x,L1[i]?=some x:=⟨_,zB (by rw[<- HN1.out];exact hlt1)⟩
       rw[HD.out,e2,drop_at hx];rfl)
      go_wp2;go_ret;exact⟨by rw[HT.out];rfl,HBQ.out⟩
  . have hlt1I:¬(i:Int)<(n1:Int):=by omega
    have hd:decide ((i:Int)<(n1:Int))=false:=decide_eq_false hlt1I;have e1:L1.drop i=[]:=List.drop_eq_nil_iff.2 (by rw[<- HN1.out];omega);by_cases hnn:(n1:Int)<(n2:Int)
    . have HT:Hid (r=true):=zA (by
       obtain⟨y,hy⟩:∃y,L2[i]?=some y:=⟨_,zB (by rw[<- HN2.out];omega)⟩
       rw[HD.out,e1,drop_at hy];rfl)
      clear e1;go_wp2;go_ret;exact⟨by rw[HT.out];rfl,HBQ.out⟩
    . have HT:Hid (r=false):=zA (by
       have e2:L2.drop i=[]:=List.drop_eq_nil_iff.2 (by rw[<- HN2.out];omega);rw[HD.out,e1,e2];rfl)
      clear e1;go_wp2;go_ret;exact⟨by rw[HT.out];rfl,HBQ.out⟩
end Go.Proofs.YtkbgmcmcpbegjaaGreatDoor
namespace Go.Proofs.YtkbgmcmcpbegjaaGreatDoor
open Go.RowKit
theorem bytesMA:Tryz.prog.bytesOf 55=96:=by kernel_rfl
theorem cellsMQ:Tryz.prog.cellsOf 38=2:=by kernel_rfl
theorem cellsMA:Tryz.prog.cellsOf 55=7:=by kernel_rfl
theorem cellsMM:Tryz.prog.cellsOf 53=2:=by kernel_rfl
theorem cellsML:Tryz.prog.cellsOf 36=1:=by kernel_rfl
theorem cellsMS:Tryz.prog.cellsOf 34=1:=by kernel_rfl
theorem open_term{H:Type}{enc:TypeId×Value->H}{W:World}{fuel:Nat}{c0 c1:Value}{x:DataW H×List MemPlace}
 (hf:DataW.trod enc Tryz.prog W 0 (fun _=>true) true fuel 53 [c0,c1]=some x) (hw:∀m∈x.1.weights Tryz.prog 53,m<=reachBytes):∃t:Tm,c0=.bool t.1/\c1=.string ⟨t.2.toArray⟩/\t.2.length<=140737488351232:=by
 obtain⟨y0,y1,n,hx,hlen,h0,h1⟩:=Go.ChangeShapes.trod_struct2 Tryz.underlying53 hf;simp only[cellsQB,cellsQS,List.drop_zero,List.drop_succ_cons,List.take_succ_cons,List.take_zero]at h0 h1;obtain⟨g,k0,_⟩:=DataW.trod_bool Tryz.underlying4 h0;obtain⟨s1,k1,e1,l1⟩:=DataW.trod_string Tryz.underlying9 h1;simp only[List.cons.injEq,and_true]at k0 k1;subst k0 k1;rw[hx]at hw;simp only[DataW.weights,Tryz.underlying53,List.map_cons,List.map_nil,DataW.weightsEach,List.append_nil]at hw;refine⟨(g,s1.data.toList),rfl,rfl,?_⟩;exact hw _ (by rw[e1];simp[DataW.weights])
theorem open_atom{H:Type}{enc:TypeId×Value->H}{W:World}{fuel:Nat}{cs:List Value}{x:DataW H×List MemPlace}
 (hf:DataW.trod enc Tryz.prog W 0 (fun _=>true) true fuel 55 cs=some x) (hw:∀m∈x.1.weights Tryz.prog 55,m<=reachBytes):∃a:Am,cs=csA a/\VOk (fun _=>True) W a.2.1/\FineA a:=by
 obtain⟨y0,y1,y2,n,hx,hlen,h0,h1,h2⟩:=Go.Deep.trod_struct3 Tryz.underlying55 hf;rw[cellsMA]at hlen;obtain⟨c0,c1,c2,c3,c4,c5,c6,rfl⟩:∃c0 c1 c2 c3 c4 c5 c6,cs=[c0,c1,c2,c3,c4,c5,c6]:=by
  match cs,hlen with
  |[c0,c1,c2,c3,c4,c5,c6],_=>exact⟨c0,c1,c2,c3,c4,c5,c6,rfl⟩
 simp only[cellsMM,cellsQP,List.drop_zero,List.drop_succ_cons,List.take_succ_cons,List.take_zero]at h0 h1 h2;rw[hx]at hw;simp only[DataW.weights,Tryz.underlying55,List.map_cons,List.map_nil,DataW.weightsEach,List.append_nil]at hw;obtain⟨t0,e0,e1,l0⟩:=open_term h0 (fun m hm=>hw m (by simp[hm]));obtain⟨p,e2,hp⟩:=open_path h1 (fun m hm=>hw m (by simp[hm]));obtain⟨t2,e3,e4,l2⟩:=open_term h2 (fun m hm=>hw m (by simp[hm]));simp only[csN,List.cons.injEq,and_true]at e2;obtain⟨e5,e6,e7⟩:=e2;exact⟨(t0,p,t2),by rw[e0,e1,e3,e4,e5,e6,e7],hp,l0,l2⟩
theorem open_query{H:Type}{enc:TypeId×Value->H}{W:World}{fuel:Nat}{cs:List Value}{x:DataW H×List MemPlace}
 (hf:DataW.trod enc Tryz.prog W 0 (fun _=>true) true fuel 38 cs=some x) (hw:∀m∈x.1.weights Tryz.prog 38,m<=reachBytes):∃q:Qm,cs=[q.vv,q.av]/\QOk (fun _=>True) W q/\CapS q.av q.atoms.length/\q.atoms.length<=1500000000000:=by
 obtain⟨y0,y1,n,hx,hlen,h0,h1⟩:=Go.ChangeShapes.trod_struct2 Tryz.underlying38 hf;rw[cellsMQ]at hlen;obtain⟨c0,c1,rfl⟩:∃c0 c1,cs=[c0,c1]:=by
  match cs,hlen with
  |[c0,c1],_=>exact⟨c0,c1,rfl⟩
 simp only[cellsMS,cellsML,List.drop_zero,List.drop_succ_cons,List.take_succ_cons,List.take_zero]at h0 h1;rw[hx]at hw;simp only[DataW.weights,Tryz.underlying38,List.map_cons,List.map_nil,DataW.weightsEach,List.append_nil]at hw;obtain⟨vs,v1,v2,v3,v4⟩:=open_txts h0 (fun m hm=>hw m (by simp[hm]));obtain⟨al,a1,a2,a3,a4⟩:=open_slN (en:=csA) ((false,[]),⟨0,[],.slice none 0 0,[]⟩,(false,[])) csA_len (by decide) Tryz.underlying36 cellsMA (fun a=>VOk (fun _=>True) W a.2.1/\FineA a) (fun _ cs y _ h hq=>open_atom h hq) h1 (fun m hm=>hw m (by simp[hm]));obtain⟨wa,wc,hwv⟩:=a1.slice;have hbd:=slice_weight Tryz.underlying36 h1 (fun m hm=>hw m (by simp[hm])) hwv;rw[bytesMA]at hbd;exact⟨⟨c0,vs,c1,al⟩,rfl,⟨v1,v2,v3,v4,a1,fun a ha=>(a2 a ha).1,fun a ha=>(a2 a ha).2,a3⟩,a4,by unfold reachBytes at hbd;show al.length<=_;omega⟩
end Go.Proofs.YtkbgmcmcpbegjaaGreatDoor
