/- EQueue, EPack, EOnly. -/
import Derived.Test.YtjoddkeamboeoaaMG17
set_option maxRecDepth 100000
namespace Go.Proofs.Ytjoddkeamboeoaa
open Go.RowKit
theorem fr_grown{S:Nat->Prop}{w w1 w2:World}{row:Option Nat}(h:Fr S w w1)(hS:Low S w)(hg:w1.grownBy w2 row)(hr:∀g,row=some g->¬S g):Fr S w w2:=
 ⟨hg.os.trans h.os,hg.tape.trans h.tape,hg.output.trans h.output,zS h.size hg.size,fun k hk=>(hg.block k (zF (hS k hk) h.size) (fun e=>hr k e.symm hk)).trans (h.block k hk)⟩
theorem below_drewE{B:Nat}{a w:World}(h:Below B a w):Below B a w.drew:=⟨h.os,h.tape,h.output,h.size,h.block⟩
section
variable {S:Nat->Prop} {w:World} {b:Nat} {vq:Value} {e:En}
theorem LB.row5{w1:World}{u:Value}{q:List (List UInt8)}(h:LB S w b vq e)(hb:LBlk w1 b vq e)(hq:QRow w1 u q)(hu:∀g,u.ownBlock=some g->¬S g/\g<w1.heap.size/\g≠b)(hk:(En.mk e.ep e.ot e.fs e.wt q).ok):
 LB S (w1.setCell ⟨b,5,none⟩ u) b u ⟨e.ep,e.ot,e.fs,e.wt,q⟩:=
 {blk:=six_set5 hb,out:=h.out,row:=hq.set hb (by decide) u,outq:=fun g hg=>(hu g hg).1,lowq:=fun g hg=>by simpa using (hu g hg).2.1,neb:=fun hg=>(hu b hg).2.2 rfl,ok:=hk }
theorem putQ_any(h:LB S w b vq e)(hS:Low S w)(t:List UInt8)(ht:t.length<=32768)(hl:e.q.length<4096):
 Calls Try.prog 34 #[.pointer (some ⟨b,4,none⟩),.string ⟨t.toArray⟩] w fun x w'=>x=.returned (.int .i64 ((e.fs+e.q.length:Nat):Int))/\∃vq',LB S w' b vq' (pushE e t)/\Fr S w w':=by
 have H:=zA h;obtain⟨ao,cap,hv,hcap⟩:=h.row.slice;subst hv;obtain⟨⟨g0,g1,g2,g3,g4,g5⟩,⟨f0,f1,f2,f3,f4,f5⟩⟩:=six_cells h.blk;have hbl:Below w.heap.size w (w.alloc (.cells #[.string ⟨t.toArray⟩] 9)):=(zB _ _).alloc (zC _) _;have HQ:Hid (QRow (w.alloc (.cells #[.string ⟨t.toArray⟩] 9)) (.slice ao e.q.length cap) e.q):=zA (h.row.below hbl);have HY:Hid ((w.alloc (.cells #[.string ⟨t.toArray⟩] 9)).cell? ⟨w.heap.size,0,none⟩=some (.string ⟨t.toArray⟩)):=zA (new_cell w _ _);have HB:Hid (LBlk (w.alloc (.cells #[.string ⟨t.toArray⟩] 9)) b (.slice ao e.q.length cap) e):=zA ((hbl.block b (lt_of_block h.blk)).trans h.blk);have hfs:=h.ok.fs2;have hfs1:=h.ok.fs1;have HOK:=zA (pushE_ok h.ok hl ht);have hblt:=lt_of_block h.blk;have hne:b≠w.heap.size:=by omega
 clear h;go_enter Try.func34,Try.ntmps34;go_wp2_with (refine wpList_append_t rfl _ _ rfl rfl HQ.out (by omega) _ _ t rfl HY.out ?_);intro u w1 hq hg hu;have HU:=zA hu;have HG:=zA hg;have hb2:LBlk w1 b (.slice ao e.q.length cap) e:=(hg.block b (by have:=lt_of_block HB.out;exact this) (fun e1=>H.out.neb e1.symm)).trans HB.out;obtain⟨⟨k0,k1,k2,k3,k4,k5⟩,⟨j0,j1,j2,j3,j4,j5⟩⟩:=six_cells hb2;have HB2:=zA hb2;have HQ2:=zA hq;have hus:∃ua uc,u=.slice ua (e.q.length+1) uc:=by
  obtain⟨ua,uc,e1,_⟩:=hq.slice;exact⟨ua,uc,by rw[e1,zE];rfl⟩
 obtain⟨ua,uc,rfl⟩:=hus;clear hu hg hb2 hq g0 g1 g2 g3 g4 g5 f0 f1 f2 f3 f4 f5 hbl;go_wp2_with fail;go_region;go_wp2;go_ret;refine⟨by go_num,.slice ua (e.q.length+1) uc,?_,?_⟩
 . exact(LB.row5 H.out HB2.out HQ2.out (fun g hg=>by
    rcases HU.out g hg with h1|h1
    . refine⟨H.out.outq g h1,?_,fun e1=>H.out.neb (by rw[<- e1];exact h1)⟩;exact zF (H.out.lowq g h1) (by have:=HG.out.size;simp at this;omega)
    . have h2:=h1.1;try simp at h2
      exact⟨fun hs=>by have:=hS g hs;omega,h1.2,by omega⟩) HOK.out).below (below_drewE (zB _ _))
 . have h1:Fr S w w1:=fr_grown (fr_below hS ((zB _ _).alloc (zC _) _)) hS HG.out H.out.outq;have h2:=h1.setCell (i:=5) H.out.out (.slice ua (e.q.length+1) uc);exact⟨h2.os,h2.tape,h2.output,h2.size,h2.block⟩
theorem zeroT(w:World):(zeroValue 9).run Try.prog w=.ok (.string ByteArray.empty) w:=by kernel_rfl
theorem setCells_block{x:Nat}{t:TypeId}:∀(l:List Value) (o:Nat) (w:World) (cur:Array Value),w.heap[x]?=some (.cells cur t (0,0))->∃cur2:Array Value,(w.setCells x o l).heap[x]?=some (.cells cur2 t (0,0))/\cur2.size=cur.size/\∀j,(j<o\/o+l.length<=j)->cur2[j]?=cur[j]?
 |[],_,_,cur,h=>⟨cur,h,rfl,fun _ _=>rfl⟩
 |v::r,o,w,cur,h=>by
  have h1:(w.setCell ⟨x,o,none⟩ v).heap[x]?=some (.cells (cur.setIfInBounds o v) t (0,0)):=by simp[World.setCell,Array.getElem?_modify,h]
  obtain⟨c2,g1,g2,g3⟩:=setCells_block r (o+1) _ _ h1;refine⟨c2,g1,by rw[g2];simp,fun j hj=>?_⟩;simp only[zR]at hj;rw[g3 j (by omega),Array.getElem?_setIfInBounds,if_neg (by omega)]
theorem setCells_grown{x:Nat}:∀(l:List Value) (o:Nat) (w:World),w.grownBy (w.setCells x o l) (some x)
 |[],_,_=>⟨rfl,rfl,rfl,zC _,fun _ _ _=>rfl⟩
 |v::r,o,w=>by
  have h1:=setCells_grown r (o+1) (w.setCell ⟨x,o,none⟩ v) (x:=x);refine⟨h1.os,h1.tape,h1.output,by have:=h1.size;simp at this;exact this,fun k hk hne=>?_⟩;exact(h1.block k (by simpa using hk) hne).trans (zK w ⟨x,o,none⟩ v k (fun e=>hne (by rw[show k=x from e])))
theorem clear_q{ao:Option Addr}{cap:Nat}{q:List (List UInt8)}(h:QRow w (.slice ao q.length cap) q)(g:Nat)(hg:g<=q.length):
 ∃W2,(∀ty,(Builtin.clear_ #[27] ty #[.slice ao g g]).run Try.prog w=.ok (.tuple #[]) W2)/\w.grownBy W2 (Value.slice ao q.length cap).ownBlock/\
  ((q.length=g/\QRow W2 (.slice ao 0 0) [])\/(g<q.length/\∃x off,ao=some ⟨x,off,none⟩/\QRow W2 (.slice (some ⟨x,off+g,none⟩) (q.length-g) (q.length-g)) (q.drop g))):=by
 rcases h with⟨ao2,e1,rfl⟩|⟨x,off,cap2,cur,e1,e2,e3,e4,e5⟩
 . obtain rfl:g=0:=by simpa using hg
   refine⟨w,fun ty=>?_,⟨rfl,rfl,rfl,zC _,fun _ _ _=>rfl⟩,.inl ⟨rfl,.inl ⟨ao,rfl,rfl⟩⟩⟩;cases ao<;>simp[Builtin.clear_,run_underlying Try.underlying27]
 . injection e1 with e1 _ e6;subst e1 e6;by_cases h0:g=0
   . subst h0;refine⟨w,fun ty=>?_,⟨rfl,rfl,rfl,zC _,fun _ _ _=>rfl⟩,?_⟩
     . simp[Builtin.clear_,run_underlying Try.underlying27]
     . by_cases hl:q.length=0
       . exact .inl ⟨hl,.inl ⟨_,rfl,rfl⟩⟩
       . refine .inr ⟨by omega,x,off,rfl,.inr ⟨x,off,q.length,cur,by simp,e2,by omega,by simp,fun j t hj=>e5 j t (by simpa using hj)⟩⟩
   . have hsome:∀j,j<g->(w.cell? ⟨x,off+j,none⟩).isSome=true:=fun j hj=>by
      simp only[World.cell?,e2];rw[Array.getElem?_eq_getElem (by omega)];rfl
     have hfz:∀j,j<g->w.frozen? ⟨x,off+j,none⟩=false:=fun j _=>by simp[World.frozen?,e2]
     obtain⟨c2,g1,g2,g3⟩:=setCells_block (List.replicate g (.string ByteArray.empty)) off w cur e2;refine⟨w.setCells x off (List.replicate g (.string ByteArray.empty)),fun ty=>Lib.run_clear_slice w 27 9 ty (.string ByteArray.empty) Try.underlying27 zeroT rfl rfl x off g g (by omega) hsome hfz,setCells_grown _ _ _,?_⟩;by_cases hl:q.length=g
     . exact .inl ⟨hl,.inl ⟨_,rfl,rfl⟩⟩
     . refine .inr ⟨by omega,x,off,rfl,.inr ⟨x,off+g,q.length-g,c2,by rw[zN],g1,by omega,by rw[zN];omega,fun j t hj=>?_⟩⟩;rw[g3 _ (by rw[List.length_replicate];omega),Nat.add_assoc];exact e5 (g+j) t (by rw[<- hj,List.getElem?_drop])
def DrpE(S:Nat->Prop)(w:World)(b:Nat)(vq:Value)(e:En)(k:Nat)(x:Ending)(w':World):Prop:=x=.returned (.tuple #[])/\∃vq',LB S w' b vq' (dropE e k)/\Fr S w w'/\∀g,vq'.ownBlock=some g->vq.ownBlock=some g
theorem LB.row45{w1:World}{u:Value}{q:List (List UInt8)}{f:Nat}(h:LB S w b vq e)(hb:LBlk w1 b vq e)(hq:QRow w1 u q)(hu:∀g,u.ownBlock=some g->¬S g/\g<w1.heap.size/\g≠b)(hk:(En.mk e.ep e.ot f e.wt q).ok):
 LB S ((w1.setCell ⟨b,5,none⟩ u).setCell ⟨b,4,none⟩ (.int .i64 (f:Int))) b u ⟨e.ep,e.ot,f,e.wt,q⟩:=
 {blk:=six_set4 (six_set5 hb),out:=h.out,row:=(hq.set hb (by decide) u).set (six_set5 hb) (by decide) _,outq:=fun g hg=>(hu g hg).1,lowq:=fun g hg=>by simpa using (hu g hg).2.1,neb:=fun hg=>(hu b hg).2.2 rfl,ok:=hk }
theorem fr_row{S:Nat->Prop}{w w2:World}{row:Option Nat}(hg:w.grownBy w2 row)(hS:Low S w)(hr:∀g,row=some g->¬S g):Fr S w w2:=fr_grown (Fr.refl _ _) hS hg hr
theorem dropQ_any(h:LB S w b vq e)(hS:Low S w)(k:Nat)(hk:k<=4611686018427387903):
 Calls Try.prog 42 #[.pointer (some ⟨b,4,none⟩),.int .i64 (k:Int)] w (DrpE S w b vq e k):=by
 have H:=zA h;obtain⟨ao,cap,hv,hcap⟩:=h.row.slice;subst hv;obtain⟨⟨g0,g1,g2,g3,g4,g5⟩,⟨f0,f1,f2,f3,f4,f5⟩⟩:=six_cells h.blk;have hfs:=h.ok.fs2;have hfs1:=h.ok.fs1;have hql:=h.ok.ql;have HOK:=zA (dropE_ok h.ok hk);obtain⟨g,HGE⟩:∃g,Hid (g=goneE e k):=⟨_,zA rfl⟩
 have hm:min (max ((k:Int)-(e.fs:Int)) 0) (e.q.length:Int)=(g:Int):=by rw[HGE.out,goneE];omega
 have hg:g<=e.q.length:=by rw[HGE.out];exact goneE_le e k
 have hsum:e.fs+g<=4611686018427387904:=by rw[HGE.out,goneE];omega
 obtain⟨W2,hcl,hgr,hq⟩:=clear_q h.row g hg;have hb2:LBlk W2 b (.slice ao e.q.length cap) e:=(hgr.block b (lt_of_block h.blk) (fun e1=>h.neb e1.symm)).trans h.blk;have HB2:=zA hb2;have HGR:=zA hgr;have HOK2:Hid ((En.mk e.ep e.ot (e.fs+g) e.wt (e.q.drop g)).ok):=zA (by rw[HGE.out];exact HOK.out);have HF:Hid (Fr S w W2):=zA (fr_row hgr hS h.outq);obtain⟨⟨k0,k1,k2,k3,k4,k5⟩,⟨j0,j1,j2,j3,j4,j5⟩⟩:=six_cells hb2;have hnew:∀u:Value,(∀x,u.ownBlock=some x->(Value.slice ao e.q.length cap).ownBlock=some x)->Hid (∀x,u.ownBlock=some x->¬S x/\x<W2.heap.size/\x≠b):=fun u hu=>zA (fun x hx=>⟨h.outq x (hu x hx),zF (h.lowq x (hu x hx)) hgr.size,fun e1=>h.neb (by rw[<- e1];exact hu x hx)⟩)
 clear h hb2 hgr;rcases hq with⟨hql2,hq⟩|⟨hlt,x,off,rfl,hq⟩
 . have hq2:QRow W2 (.slice ao 0 0) (e.q.drop g):=by rw[List.drop_eq_nil_of_le (by omega)];exact hq
   have HE:Hid (DrpE S w b (.slice ao e.q.length cap) e k (.returned (.tuple #[])) ((W2.setCell ⟨b,5,none⟩ (.slice ao 0 0)).setCell ⟨b,4,none⟩ (.int .i64 ((e.fs:Int)+(g:Int))))):=zA ⟨rfl,.slice ao 0 0,by
    have h1:=LB.row45 H.out HB2.out hq2 (hnew _ (fun x hx=>by cases ao with|none=>cases hx|some a=>exact hx)).out HOK2.out;rw[dropE,<- HGE.out];exact h1,(HF.out.setCell H.out.out _).setCell H.out.out _,fun x hx=>by cases ao with|none=>cases hx|some a=>exact hx⟩
   have HQL:=zA hql2;clear hq hq2 hql2 hnew;go_enter Try.func42,Try.ntmps42;go_wp2_with (simp only[hcl]);all_goals first
    |(exfalso;have:=HQL.out;omega)
    |(go_end0;have h9:=HE.out;rw[HQL.out]at h9;exact h9)
 . have HE:Hid (DrpE S w b (.slice (some ⟨x,off,none⟩) e.q.length cap) e k (.returned (.tuple #[])) ((W2.setCell ⟨b,5,none⟩ (.slice (some ⟨x,off+g,none⟩) (e.q.length-g) (e.q.length-g))).setCell ⟨b,4,none⟩ (.int .i64 ((e.fs:Int)+(g:Int))))):=zA ⟨rfl,.slice (some ⟨x,off+g,none⟩) (e.q.length-g) (e.q.length-g),by
    have h1:=LB.row45 H.out HB2.out hq (hnew _ (fun x hx=>by simpa[Value.ownBlock]using hx)).out HOK2.out;rw[dropE,<- HGE.out];exact h1,(HF.out.setCell H.out.out _).setCell H.out.out _,fun x hx=>hx⟩
   clear hq hnew;go_enter Try.func42,Try.ntmps42;go_wp2_with (simp only[hcl]);go_end0;exact HE.out
end
theorem packed_any(v:Value)(n:NoteD)(w:World)(h:NoteAt w v n)(hs:n.sane):
 Calls Try.prog 50 #[v] w fun e w'=>e=.returned (.string ⟨(packN n).toArray⟩)/\Below w.heap.size w w':=by
 have hN:=h;obtain⟨vn,vt,vr,rfl,hn,ht,hr⟩:=h;have hbb:Below w.heap.size w (w.alloc (.cells #[.int .i64 n.kind,vn,vt,vr] 36)):=(zB _ _).alloc (zC _) _;have C:=zA (pack_any _ n _ (hN.below hbb) hs);have HB:=zA hbb;obtain⟨t,ht⟩:∃t,t=packN n:=⟨_,rfl⟩
 rw[<- ht];have HV:Hid (∃x,packV n=.tuple #[.string ⟨t.toArray⟩,.int .i64 x]):=zA (by
  rw[ht,packV,packN];split
  . exact⟨0,rfl⟩
  . exact⟨1,rfl⟩)
 clear hN hbb ht hn hr hs;go_enter Try.func50,Try.ntmps50;go_wp2_with fail;refine C.out.mono ?_;rintro e w1 ⟨rfl,hb⟩;obtain⟨x,hx⟩:=HV.out;rw[hx];clear HV hx;go_wp2;go_ret;exact⟨rfl,HB.out.trans (hb.mono HB.out.size)⟩
section
variable {S:Nat->Prop} {w:World} {b:Nat} {vq:Value} {e:En}
theorem ints_new{W:World}{g:Nat}{ns:List Int}(h:W.heap[g]?=some (.cells (intCs ns).toArray 3 (0,0)))(hl:ns.length<=64):IntsAt W (.slice (some ⟨g,0,none⟩) ns.length ns.length) ns:=by
 refine⟨by rw[intCs_len];omega,some ⟨g,0,none⟩,ns.length,by rw[intCs_len],.inr ⟨g,0,rfl,lt_of_block h,fun j x hj=>?_⟩⟩;simp only[World.cell?,h,Nat.zero_add];simpa using hj
theorem strs_new{W:World}{g:Nat}{t:List UInt8}(h:W.heap[g]?=some (.cells #[.string ⟨t.toArray⟩] 9 (0,0))):StrsAt W (.slice (some ⟨g,0,none⟩) 1 1) [t]:=by
 refine⟨by simp,some ⟨g,0,none⟩,1,rfl,.inr ⟨g,0,rfl,lt_of_block h,fun j x hj=>?_⟩⟩;have:j=0:=by have:=(zG.1 hj).1;simp at this;exact this
 subst this;simp at hj;subst hj;simp only[World.cell?,h];rfl
theorem rows_nil(W:World):RowsAt W (.slice none 0 0) []:=⟨[],⟨by simp,none,0,rfl,.inl rfl⟩,rfl,by simp⟩
theorem strs_nil(W:World):StrsAt W (.slice none 0 0) []:=⟨by simp,none,0,rfl,.inl rfl⟩
theorem tell_any(h:LB S w b vq e):
 Calls Try.prog 41 #[.pointer (some ⟨b,0,none⟩)] w fun x w'=>x=.returned (.string ⟨(telB e).toArray⟩)/\Below w.heap.size w w':=by
 obtain⟨⟨g0,g1,g2,g3,g4,g5⟩,-⟩:=six_cells h.blk;have KS:Hid (∀W,Below w.heap.size w W->W.cell? ⟨b,1,none⟩=some (.int .i64 e.ep)/\W.cell? ⟨b,2,none⟩=some (.int .i64 e.ot)/\W.cell? ⟨b,3,none⟩=some (.int .i64 e.wt)):=zA (fun W hW=>by
  obtain⟨⟨k0,k1,k2,k3,k4,k5⟩,-⟩:=six_cells (h.below hW).blk;exact⟨k1,k2,k3⟩)
 have b1:Below w.heap.size w (w.alloc (.cells #[.int .i64 e.ep,.int .i64 e.ot,.int .i64 e.wt] 3)):=(zB _ _).alloc (zC _) _;have HB:=zA (below_drewE b1);have C:=zA (packed_any (.agg #[.int .i64 2,.slice (some ⟨w.heap.size,0,none⟩) 3 3,.slice none 0 0,.slice none 0 0]) (telN e) (w.alloc (.cells #[.int .i64 e.ep,.int .i64 e.ot,.int .i64 e.wt] 3)).drew
  ⟨_,_,_,rfl,ints_new (by exact box_at w _) (by simp[telN]),strs_nil _,rows_nil _⟩ ⟨by simp[telN],by simp[telN]⟩)
 have HB1:=zA b1;clear h b1;rw[telB];go_enter Try.func41,Try.ntmps41;go_wp2_with fail;go_region_held3 (fun u=>u.cell? ⟨b,1,none⟩=some (.int .i64 e.ep)/\u.cell? ⟨b,2,none⟩=some (.int .i64 e.ot)/\u.cell? ⟨b,3,none⟩=some (.int .i64 e.wt))
  (first|with_reducible exact KS.out _ (HB.out.trans (hb.mono HB.out.size))|with_reducible exact KS.out _ (below_drewE (zB _ _))|with_reducible exact KS.out _ (zB _ _)|with_reducible exact KS.out _ HB.out|with_reducible exact KS.out _ HB1.out)
  (first|(with_reducible refine C.out.mono ?_;rintro x w1 ⟨rfl,hb⟩))
 go_wp2;go_ret;exact⟨rfl,HB.out.trans (hb.mono HB.out.size)⟩
theorem carry_any(h:LB S w b vq e)(k:Nat)(t:List UInt8):
 Calls Try.prog 35 #[.pointer (some ⟨b,0,none⟩),.int .i64 (k:Int),.string ⟨t.toArray⟩] w fun x w'=>x=.returned (.string ⟨(carB e k t).toArray⟩)/\Below w.heap.size w w':=by
 obtain⟨⟨g0,g1,g2,g3,g4,g5⟩,-⟩:=six_cells h.blk;have KS:Hid (∀W,Below w.heap.size w W->W.cell? ⟨b,1,none⟩=some (.int .i64 e.ep)/\W.cell? ⟨b,2,none⟩=some (.int .i64 e.ot)/\W.cell? ⟨b,3,none⟩=some (.int .i64 e.wt)):=zA (fun W hW=>by
  obtain⟨⟨k0,k1,k2,k3,k4,k5⟩,-⟩:=six_cells (h.below hW).blk;exact⟨k1,k2,k3⟩)
 obtain⟨oi,HOI⟩:∃oi,Hid (oi=Obj.cells #[.int .i64 e.ep,.int .i64 e.ot,.int .i64 (k:Int),.int .i64 e.wt] 3):=⟨_,zA rfl⟩
 obtain⟨os,HOS⟩:∃os,Hid (os=Obj.cells #[.string ⟨t.toArray⟩] 9):=⟨_,zA rfl⟩
 have bi:Below w.heap.size w (w.alloc oi):=(zB _ _).alloc (zC _) _;have bs:Below w.heap.size w (w.alloc os):=(zB _ _).alloc (zC _) _;have bis:Below w.heap.size w ((w.alloc oi).alloc os):=bi.alloc bi.size _;have bsi:Below w.heap.size w ((w.alloc os).alloc oi):=bs.alloc bs.size _;have HB1:=zA (below_drewE bi);have HB2:=zA (below_drewE bs);have HB3:=zA (below_drewE bis);have HB4:=zA (below_drewE bsi);have n1:((w.alloc oi).alloc os).heap[w.heap.size]?=some oi:=(Below.heap_alloc _ _ _ (by simp)).trans (box_at w _);have n2:((w.alloc oi).alloc os).heap[w.heap.size+1]?=some os:=by have:=box_at (w.alloc oi) os;simpa using this
 have n3:((w.alloc os).alloc oi).heap[w.heap.size]?=some os:=(Below.heap_alloc _ _ _ (by simp)).trans (box_at w _);have n4:((w.alloc os).alloc oi).heap[w.heap.size+1]?=some oi:=by have:=box_at (w.alloc os) oi;simpa using this
 have C1:=zA (packed_any (.agg #[.int .i64 1,.slice (some ⟨w.heap.size,0,none⟩) 4 4,.slice (some ⟨w.heap.size+1,0,none⟩) 1 1,.slice none 0 0]) (carN e k t) ((w.alloc oi).alloc os).drew
  ⟨_,_,_,rfl,ints_new (n1.trans (by rw[HOI.out];rfl)) (by simp[carN]),strs_new (n2.trans (by rw[HOS.out])),rows_nil _⟩ ⟨by simp[carN],by simp[carN]⟩)
 have C2:=zA (packed_any (.agg #[.int .i64 1,.slice (some ⟨w.heap.size+1,0,none⟩) 4 4,.slice (some ⟨w.heap.size,0,none⟩) 1 1,.slice none 0 0]) (carN e k t) ((w.alloc os).alloc oi).drew
  ⟨_,_,_,rfl,ints_new (n4.trans (by rw[HOI.out];rfl)) (by simp[carN]),strs_new (n3.trans (by rw[HOS.out])),rows_nil _⟩ ⟨by simp[carN],by simp[carN]⟩)
 rw[HOI.out,HOS.out]at C1 C2 HB3 HB4;rw[HOI.out]at HB1;rw[HOS.out]at HB2;clear h bi bs bis bsi n1 n2 n3 n4 HOI HOS;rw[carB];go_enter Try.func35,Try.ntmps35;go_wp2_with fail;go_region_held3 (fun u=>u.cell? ⟨b,1,none⟩=some (.int .i64 e.ep)/\u.cell? ⟨b,2,none⟩=some (.int .i64 e.ot)/\u.cell? ⟨b,3,none⟩=some (.int .i64 e.wt))
  (first|with_reducible exact KS.out _ (HB3.out.trans (hb3.mono HB3.out.size))|with_reducible exact KS.out _ (HB4.out.trans (hb4.mono HB4.out.size))|with_reducible exact KS.out _ (below_drewE (zB _ _))|with_reducible exact KS.out _ HB1.out|with_reducible exact KS.out _ HB2.out|with_reducible exact KS.out _ HB3.out|with_reducible exact KS.out _ HB4.out)
  (first|(with_reducible refine C1.out.mono ?_;rintro x w1 ⟨rfl,hb3⟩)|(with_reducible refine C2.out.mono ?_;rintro x w1 ⟨rfl,hb4⟩))
 . go_wp2;go_ret;first
    |exact⟨rfl,HB3.out.trans (hb3.mono HB3.out.size)⟩
    |exact⟨rfl,HB4.out.trans (hb4.mono HB4.out.size)⟩
 . go_wp2;go_ret;first
    |exact⟨rfl,HB3.out.trans (hb3.mono HB3.out.size)⟩
    |exact⟨rfl,HB4.out.trans (hb4.mono HB4.out.size)⟩
end
def OnE(l:List UInt8)(w:World)(x:Ending)(w':World):Prop:=
 ∃v,x=.returned (.tuple #[v,.bool (onlyP l).2])/\NoteOwn w' w.heap.size v (onlyP l).1/\Below w.heap.size w w'
theorem onE_of{l:List UInt8}{w w':World}{v:Value}{n:NoteD}{k r:Nat}{c:Bool}(hn:(unpackP l).1=n)(hk:(unpackP l).2.1=k)(hr:(unpackP l).2.2=r)(hc:c=(decide (r=0)&&decide (k=l.length)))(h1:NoteOwn w' w.heap.size v n)(h2:Below w.heap.size w w'):
 OnE l w (.returned (.tuple #[v,.bool c])) w':=⟨v,by rw[hc,onlyP,hk,hr],by rw[<- hn]at h1;exact h1,h2⟩
set_option maxHeartbeats 1000000 in
theorem only_any(l:List UInt8)(w:World)(hl:l.length<=140737488351232):Calls Try.prog 54 #[.string ⟨l.toArray⟩] w (OnE l w):=by
 have C:Hid (Calls Try.prog 72 #[.string ⟨l.toArray⟩] (resW w) (UEnd l (resW w))):=zA (unpack_any l (resW w) hl);unfold UEnd at C;obtain⟨n,hn⟩:∃n,(unpackP l).1=n:=⟨_,rfl⟩
 obtain⟨k,hk⟩:∃k,(unpackP l).2.1=k:=⟨_,rfl⟩
 obtain⟨r,hr⟩:∃r,(unpackP l).2.2=r:=⟨_,rfl⟩
 rw[hn,hk,hr]at C;have HN:=zA hn;have HK:=zA hk;have HR:=zA hr;clear hn hk hr;have hsz:(⟨l.toArray⟩:ByteArray).size=l.length:=by rw[size_list]
 have HRN:Hid ((resW w).heap.size=w.heap.size+1):=zA (by simp);go_enter Try.func54,Try.ntmps54;go_wp2_with fail;refine C.out.mono ?_;rintro x w1 ⟨v,rfl,hown,hb⟩;obtain⟨a0,l0,c0,a1,l1,c1,a2,l2,c2,rfl⟩:=own_parts hown;rw[HRN.out]at hown hb;obtain⟨W2,hW2⟩:∃W2,W2=w1.alloc (.cells #[.int .i64 n.kind,.slice a0 l0 c0,.slice a1 l1 c1,.slice a2 l2 c2] 36):=⟨_,rfl⟩
 have hb2:Below (w.heap.size+1) (resW w) W2:=by rw[hW2];exact hb.alloc (zS (by rw[HRN.out];exact zC _) hb.size) _
 have hown2:NoteOwn W2 (w.heap.size+1) (.agg #[.int .i64 n.kind,.slice a0 l0 c0,.slice a1 l1 c1,.slice a2 l2 c2]) n:=by rw[hW2];exact hown.below ((zB _ _).alloc (zC _) _)
 have hsz1:w1.heap.size+1=W2.heap.size:=by rw[hW2];simp
 obtain⟨⟨q0,q1,q2,q3⟩,-⟩:=four_cells (show W2.heap[w1.heap.size]?=some (.cells #[.int .i64 n.kind,.slice a0 l0 c0,.slice a1 l1 c1,.slice a2 l2 c2] 36 (0,0)) by rw[hW2];exact box_at w1 _);obtain⟨⟨r0,r1,r2,r3⟩,⟨f0,f1,f2,f3⟩⟩:=four_cells (res_block hb2);have hblk:=set4_block (res_block hb2) (.int .i64 n.kind) (.slice a0 l0 c0) (.slice a1 l1 c1) (.slice a2 l2 c2);obtain⟨⟨z0,z1,z2,z3⟩,-⟩:=four_cells hblk;have HE:Hid (∀c:Bool,c=(decide (r=0)&&decide (k=l.length))->OnE l w (.returned (.tuple #[.agg #[.int .i64 n.kind,.slice a0 l0 c0,.slice a1 l1 c1,.slice a2 l2 c2],.bool c])) (set4 W2 w.heap.size (.int .i64 n.kind) (.slice a0 l0 c0) (.slice a1 l1 c1) (.slice a2 l2 c2))):=
  zA (fun c hc=>onE_of HN.out HK.out HR.out hc ((set4_own hown2 (by omega) _ _ _ _).base (by omega)) (set4_below (res_below hb2) (zC _) _ _ _ _))
 have Z0:=zA z0;have Z1:=zA z1;have Z2:=zA z2;have Z3:=zA z3;have HSZ1:=zA hsz1;clear z0 z1 z2 z3 hown hown2 hb hb2 hblk hsz1 HSZ1;subst hW2;by_cases h1:r=0
 . subst h1;by_cases h2:k=l.length
   . have h2I:((k:Int)==(l.length:Int))=true:=by simp;omega
     have HE2:=zA (HE.out true (by simp[h2]));clear h2 HE;go_wp2;refine bodyPost_ret (v:=.tuple #[.agg #[.int .i64 n.kind,.slice a0 l0 c0,.slice a1 l1 c1,.slice a2 l2 c2],.bool true]) ?_ rfl HE2.out;simp[results,Try.results54,go_sem,Z0.out,Z1.out,Z2.out,Z3.out]
   . have h2I:((k:Int)==(l.length:Int))=false:=by simp;omega
     have HE2:=zA (HE.out false (by simp[h2]));clear h2 HE;go_wp2;refine bodyPost_ret (v:=.tuple #[.agg #[.int .i64 n.kind,.slice a0 l0 c0,.slice a1 l1 c1,.slice a2 l2 c2],.bool false]) ?_ rfl HE2.out;simp[results,Try.results54,go_sem,Z0.out,Z1.out,Z2.out,Z3.out]
 . have h1I:((r:Int)==0)=false:=by simp;omega
   have h1J:¬(r:Int)=0:=by omega
   have HE2:=zA (HE.out false (by simp[h1]));clear h1 HE;go_wp2;refine bodyPost_ret (v:=.tuple #[.agg #[.int .i64 n.kind,.slice a0 l0 c0,.slice a1 l1 c1,.slice a2 l2 c2],.bool false]) ?_ rfl HE2.out;simp[results,Try.results54,go_sem,Z0.out,Z1.out,Z2.out,Z3.out]
end Go.Proofs.Ytjoddkeamboeoaa
