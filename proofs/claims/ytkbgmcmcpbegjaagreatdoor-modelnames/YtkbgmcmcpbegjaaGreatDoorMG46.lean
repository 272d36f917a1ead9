/- XOpen, XGroup1, XGrpS, XGrpA, XGrp, XSome1, XSome2, XSome3, XFill0, XFill1, XFill2. -/
import Derived.Test.YtkbgmcmcpbegjaaGreatDoorMG44
set_option maxRecDepth 100000
namespace Go.Proofs.YtkbgmcmcpbegjaaGreatDoor
open Go.RowKit Go.Sort Go.Lib Go.Shelf
theorem idxI_none(ao:Option Addr)(cap:Nat)(fv:Value)(w:World):
 Calls Tryz.prog 154 #[.slice ao 0 cap,fv] w fun e w'=>e=.returned (.int .i64 (-1))/\w'=w:=Tryz.slices_IndexFunc_empty (α:=Nat) ao cap fv w
theorem delI_none(ao:Option Addr)(cap:Nat)(fv:Value)(w:World):
 Calls Tryz.prog 147 #[.slice ao 0 cap,fv] w fun e w'=>e=.returned (.slice ao 0 cap)/\w'=w:=by
 have C:=zA (idxI_none ao cap fv w);go_enter Tryz.func147,Tryz.ntmps147;go_wp2_with fail;refine C.out.mono ?_;rintro e w5 ⟨rfl,h⟩;rw[h];clear h;go_wp2;all_goals (first|(go_ret;exact⟨rfl,rfl⟩)|exact⟨rfl,rfl⟩)
def encM(m x:Nat):Value:=.int .i64 ((x%m:Nat):Int)
theorem map_encM{m:Nat}{L:List Nat}(hm:∀k∈L,k<m):L.flatMap csI=L.map (encM m):=by
 rw[flat_mapI,List.map_map];refine yS fun x hx=>?_
 show Value.int .i64 (x:Int)=encM m x;unfold encM;rw[Nat.mod_eq_of_lt (hm x hx)]
set_option maxHeartbeats 2000000 in
theorem delI_any{w:World}{B:Nat}{v:Value}{L:List Nat}(h:w.ownsRow B 3 1 v L.length (L.flatMap csI))(hl:L.length<=1000000){m:Nat}(hm0:0<m)(hm:∀k∈L,k<m){lb:Array Value}{p:Nat->Bool}
 (hp:∀W:World,(∀k,k<w.heap.size->v.ownBlock≠some k->W.heap[k]?=w.heap[k]?)->∀x,x<m->Calls Tryz.prog 148 (#[.int .i64 (x:Int)]++lb) W fun e w'=>e=.returned (.bool (p x))/\w'=W):
 Calls Tryz.prog 147 #[v,.func (.func 148) #[] lb] w fun e w'=>∃v',e=.returned v'/\w'.ownsRow B 3 1 v' (L.filter fun x=> !p x).length ((L.filter fun x=> !p x).flatMap csI)/\w.grownBy w' v.ownBlock:=by
 have h0:=h;rcases h.2 with⟨rfl,h1⟩|⟨g,cap,cur,rfl,_,_,hcap,_⟩
 . have hN:L=[]:=yL.1 h1;subst hN;refine(delI_none none 0 _ w).mono ?_;rintro e w' ⟨rfl,rfl⟩;exact⟨_,rfl,by simpa using h0,⟨rfl,rfl,rfl,zD _,fun _ _ _=>rfl⟩⟩
 . have hmod:∀x,x%m<m:=fun x=>Nat.mod_lt _ hm0
   have hfil:(L.filter fun x=> !p (x%m))=L.filter fun x=> !p x:=List.filter_congr fun x hx=>by rw[Nat.mod_eq_of_lt (hm x hx)]
   have h2:=h0;rw[map_encM hm]at h2;have hgl:=(h0.lt g rfl).2;have hgive:∀W:World,(∀k,k<w.heap.size->(Value.slice (some ⟨g,0,none⟩) L.length cap).ownBlock≠some k->W.heap[k]?=w.heap[k]?)->∀x,FnGives Tryz.prog 148 lb #[encM m x] (.bool (p (x%m))) W:=fun W hW x=>by
    refine(hp W hW (x%m) (hmod x)).mono ?_;rintro e w' ⟨he,hw⟩;exact⟨he,0,by rw[hw];rfl⟩
   have C:=Tryz.slices_DeleteFunc (encM m) (fun _=>rfl) (fun x=>p (x%m)) 148 lb (fun args w=>by kernel_rfl) 0 (fun w=>by kernel_rfl) g 0 cap L.toArray w (fun W x hb=>hgive W (fun k hk _=>hb.block k hk) x) (fun n os dk x _=>hgive _ (fun k hk hne=>(sort_grown (enc:=encM m) (q:=n) (d:=dk) (os:=os)).block k hk (by simpa[Value.ownBlock]using fun e=>hne (by simp[Value.ownBlock,e]))) x) (own_holds h2 (by simp)) (by simp;omega) (by simp;exact hcap);rw[List.size_toArray]at C;refine C.mono ?_;rintro e w' ⟨rfl,q,rfl⟩;have hle:(L.filter fun x=> !p x).length<=L.length:=yF _ _;refine⟨_,rfl,?_,?_⟩
   . have h3:=ownsRow_putRow (q:=q) (k:=(L.filter fun x=> !p x).length) (ys:=(L.filter fun x=> !p x)++List.replicate (L.length-(L.filter fun x=> !p x).length) 0) h2 (by rw[zG,List.length_replicate];omega) hle;rw[List.take_left'  rfl,<- map_encM (fun k hk=>hm k (zY.1 hk).1)]at h3;simp only[hfil];exact h3
   . have h4:=sort_grown (enc:=encM m) (w:=w) (g:=g) (q:=q) (d:=((L.filter fun x=> !p (x%m))++List.replicate (L.length-(L.filter fun x=> !p (x%m)).length) 0).toArray) (os:=#[]);exact⟨h4.os,h4.tape,h4.output,by simp[Sort.ahead],fun k hk hne=>by have:=h4.block k hk hne;simpa[grow]using this⟩
end Go.Proofs.YtkbgmcmcpbegjaaGreatDoor
namespace Go.Proofs.YtkbgmcmcpbegjaaGreatDoor
open Go.RowKit Go.Shelf
set_option maxHeartbeats 2000000 in
theorem groups1_any{w:World}{F:Nat->Prop}{cb slot n:Nat}{v:Value}{c:Ch}(hbox:w.cell? ⟨cb,0,none⟩=some v)(hc:ChR F w v n c)(hs:slot<c.length):
 Calls Tryz.prog 148 #[.int .i64 (slot:Int),.pointer (some ⟨cb,0,none⟩)] w fun e w'=>e=.returned (.bool (decide ((atC c slot).length=1)))/\w'=w:=by
 obtain⟨rows,hrc,hsl,hat,hbd⟩:=hc.ex;have hrl:rows.length=c.length:=by rw[<- hrc,zH]
 obtain⟨ao,cap,hv⟩:=hsl.slice;obtain⟨nr,hnr⟩:∃k,k=rows.length:=⟨_,rfl⟩
 rw[<- hnr]at hv;subst hv;obtain⟨r,hr⟩:∃r,rows[slot]?=some r:=⟨_,zB (by omega)⟩
 have hcs:atC c slot=r.2:=by unfold atC;rw[<- hrc,List.getD,zI,hr];rfl
 obtain⟨g,off,hao,_,hgl,hcell⟩:=hsl.get hr;subst hao;have c0:=hcell 0 _ rfl;rw[yD,yA]at c0;obtain⟨_,ra,rcap,hre,_⟩:=hat r (zC hr);rw[hre]at c0;obtain⟨k,hk⟩:∃k,k=r.2.length:=⟨_,rfl⟩
 rw[hcs,<- hk];rw[<- hk]at c0;have hsI:(slot:Int)<(nr:Int):=by omega
 have hsN:slot<nr:=by omega
 have hk2:=(hbd r (zC hr)).2;rw[<- hk]at hk2;clear hcell hcs hrc hat hbd hc hsl hr hre hk hnr hrl hs hgl;by_cases h1:k=1
 . subst h1;go_enter Tryz.func148,Tryz.ntmps148;go_wp2;all_goals (first|(go_ret;exact⟨rfl,rfl⟩)|exact⟨rfl,rfl⟩)
 . obtain⟨f1,g1⟩:=nz_int h1;have f2:¬(k:Int)=1:=by omega
   have g2:((k:Int)==1)=false:=by simp;omega
   have hd:decide (k=1)=false:=decide_eq_false h1;rw[hd];go_enter Tryz.func148,Tryz.ntmps148;go_wp2;all_goals (first|(go_ret;exact⟨rfl,rfl⟩)|exact⟨rfl,rfl⟩)
theorem QRow.natC{B:Nat}{w:World}{u:Value}{L:List Nat}(h:QRow B w u L):NatC (QB u) w u L:=by
 rcases h with⟨rfl,rfl⟩|⟨g,off,cap,cur,rfl,e2,e3,e4,e5,e6⟩
 . exact⟨SlS.nil _ _,none,0,rfl,zD _⟩
 . refine⟨⟨_,cap,rfl,.inr ⟨g,off,rfl,⟨off,_,cap,rfl⟩,lt_of_block e3,fun j x hx c u hu=>?_⟩⟩,_,cap,rfl,e5⟩
   match c,hu with
   |0,hu=>
    simp at hu;subst hu;rw[yD,yA];simp only[World.cell?,e3];exact e6 j x hx
   |c+1,hu=>simp at hu
theorem QRow.other{B:Nat}{w:World}{u:Value}{L:List Nat}(h:QRow B w u L){k:Nat}(hk:QB u k){A n:Nat}{v:Value}{xs:List Value}(ho:w.ownsRow A 59 1 v n xs):v.ownBlock≠some k:=fun e=>by
 obtain⟨off,n1,c1,e1⟩:=hk;rcases h with⟨h1,_⟩|⟨g,off2,cap,cur,e2,_,e3,_⟩
 . rw[h1]at e1;cases e1
 . rw[e2]at e1;injection e1 with e1;injection e1 with e1;injection e1 with e1;subst e1;rcases ho.2 with⟨rfl,_⟩|⟨g2,cap2,cur2,rfl,_,e5,_⟩
   . simp[Value.ownBlock]at e
   . have:g2=g:=by simpa[Value.ownBlock]using e
     subst this;rw[e3]at e5;injection e5 with e5;injection e5 with _ e6;exact absurd e6 (by decide)
structure GrM (w:World) (D:Nat->Prop) (wr:World) (ug:Value) (rows:List (Value×List Nat)) (us:List (Value×List Nat)):Prop where
 bel:Below w.heap.size w wr
 row:wr.ownsRow w.heap.size 59 1 ug rows.length (rows.flatMap csRow)
 ats:∀r∈rows,NatC D wr r.1 r.2
 dl:∀k,D k->w.heap.size<=k/\k<wr.heap.size
 dg:∀k,D k->ug.ownBlock≠some k
 dq:∀u∈us,∀k,QB u.1 k->¬D k
 qs:∀u∈us,QRow w.heap.size wr u.1 u.2
 ap:∀(i j:Nat) u v,us[i]?=some u->us[j]?=some v->i≠j->∀k,QB u.1 k->¬QB v.1 k
theorem GrM.grow{w wr w':World}{D:Nat->Prop}{ug:Value}{rows us:List (Value×List Nat)}{i:Nat}{u u':Value}{L L':List Nat}(h:GrM w D wr ug rows us)(hi:us[i]?=some (u,L))(hz:wr.heap.size<=w'.heap.size)(ho:w'.os=wr.os)(ht:w'.tape=wr.tape)(hu:w'.output=wr.output)(hk:∀k,k<wr.heap.size->¬QB u k->w'.heap[k]?=wr.heap[k]?)(hq:QRow w.heap.size w' u' L')(hn:∀k,QB u' k->QB u k\/(wr.heap.size<=k/\k<w'.heap.size)):GrM w D w' ug rows (us.set i (u',L')):=by
 have hil:=(zF.1 hi).1;have him:=zC hi;have hqu:=h.qs _ him;dsimp only at hqu;have hcase:∀y∈us.set i (u',L'),y=(u',L')\/∃j,j≠i/\us[j]?=some y:=fun y hy=>by
  obtain⟨j,hj⟩:=List.getElem?_of_mem hy;rw[List.getElem?_set]at hj;by_cases ej:i=j
  . rw[if_pos ej,if_pos (by omega)]at hj;injection hj with hj;exact .inl hj.symm
  . rw[if_neg ej]at hj;exact .inr ⟨j,fun e=>ej e.symm,hj⟩
 refine⟨⟨ho.trans h.bel.os,ht.trans h.bel.tape,hu.trans h.bel.output,zT h.bel.size hz,fun k hk2=>?_⟩,?_,fun r hr=>?_,fun k hk2=>⟨(h.dl k hk2).1,zQ (h.dl k hk2).2 hz⟩,h.dg,fun y hy k hk2 hd=>?_,fun y hy=>?_,fun a b x y hx hy hab k h1 h2=>?_⟩
 . exact(hk k (zQ hk2 h.bel.size) (fun hb=>by have:=(hqu.lt hb).1;omega)).trans (h.bel.block k hk2)
 . exact owns_key h.row (fun g o hg ho2=>(hk g (lt_of_block ho2) (fun hb=>hqu.other hb h.row hg)).trans ho2)
 . exact(h.ats r hr).keep hz (fun k hk2 hk3=>⟨hk2,hk k hk3 (fun hb=>h.dq _ him k hb hk2)⟩)
 . rcases hcase y hy with rfl|⟨j,hne,hj⟩
   . rcases hn k hk2 with h3|h3
     . exact h.dq _ him k h3 hd
     . have:=(h.dl k hd).2;omega
   . exact h.dq y (zC hj) k hk2 hd
 . rcases hcase y hy with rfl|⟨j,hne,hj⟩
   . exact hq
   . have hqy:=h.qs y (zC hj);exact hqy.keep (fun g _ hg=>hk g (hqy.lt hg).2 (fun hb=>h.ap j i y (u,L) hj hi hne g hg hb))
 . rw[List.getElem?_set]at hx hy;by_cases ea:i=a
   . rw[if_pos ea,if_pos (by omega)]at hx;injection hx with hx;subst hx;rw[if_neg (fun e=>hab (ea.symm.trans e))]at hy;rcases hn k h1 with h3|h3
     . exact h.ap i b (u,L) y hi hy (fun e=>hab (ea.symm.trans e)) k h3 h2
     . have:=((h.qs y (zC hy)).lt h2).2;omega
   . rw[if_neg ea]at hx;by_cases eb:i=b
     . rw[if_pos eb,if_pos (by omega)]at hy;injection hy with hy;subst hy;rcases hn k h2 with h3|h3
       . exact h.ap a i x (u,L) hx hi (fun e=>ea e.symm) k h1 h3
       . have:=((h.qs x (zC hx)).lt h1).2;omega
     . rw[if_neg eb]at hy;exact h.ap a b x y hx hy hab k h1 h2
theorem GrM.below{w wr w':World}{D:Nat->Prop}{ug:Value}{rows us:List (Value×List Nat)}(h:GrM w D wr ug rows us)(hb:Below wr.heap.size wr w'):GrM w D w' ug rows us:=
 ⟨h.bel.trans (hb.mono h.bel.size),owns_key h.row (fun g _ _ ho=>(hb.block g (lt_of_block ho)).trans ho),fun r hr=>(h.ats r hr).below hb,fun k hk=>⟨(h.dl k hk).1,zQ (h.dl k hk).2 hb.size⟩,h.dg,h.dq,fun u hu=>(h.qs u hu).keep (fun g _ hg=>hb.block g ((h.qs u hu).lt hg).2),h.ap⟩
theorem GrM.turn{w wr:World}{D:Nat->Prop}{ug:Value}{rows us vs:List (Value×List Nat)}(h:GrM w D wr ug rows us)(hd:∀u∈vs,∀k,QB u.1 k->¬D k)(hq:∀u∈vs,QRow w.heap.size wr u.1 u.2)(ha:∀(i j:Nat) u v,vs[i]?=some u->vs[j]?=some v->i≠j->∀k,QB u.1 k->¬QB v.1 k):GrM w D wr ug rows vs:=
 ⟨h.bel,h.row,h.ats,h.dl,h.dg,hd,hq,ha⟩
theorem GrM.put{w wr w':World}{D:Nat->Prop}{ug ug' u o:Value}{rows:List (Value×List Nat)}{G O:List Nat}(h:GrM w D wr ug rows [(u,G),(o,O)])(hg:wr.grownBy w' ug.ownBlock)(hrow:w'.ownsRow w.heap.size 59 1 ug' (rows++[(u,G)]).length ((rows++[(u,G)]).flatMap csRow))(hnew:∀g,ug'.ownBlock=some g->ug.ownBlock=some g\/wr.heap.size<=g):GrM w (fun k=>D k\/QB u k) w' ug' (rows++[(u,G)]) [(o,O)]:=by
 have hu:=h.qs (u,G) (by simp);have ho:=h.qs (o,O) (by simp);dsimp only at hu ho;have hkq:∀k,QB u k->w'.heap[k]?=wr.heap[k]?:=fun k hk=>hg.block k (hu.lt hk).2 (fun e=>hu.other hk h.row e.symm)
 have hko:∀k,QB o k->w'.heap[k]?=wr.heap[k]?:=fun k hk=>hg.block k (ho.lt hk).2 (fun e=>ho.other hk h.row e.symm)
 have hkd:∀k,D k->w'.heap[k]?=wr.heap[k]?:=fun k hk=>hg.block k (h.dl k hk).2 (fun e=>h.dg k hk e.symm)
 refine⟨⟨hg.os.trans h.bel.os,hg.tape.trans h.bel.tape,hg.output.trans h.bel.output,zT h.bel.size hg.size,fun k hk=>?_⟩,hrow,fun r hr=>?_,fun k hk=>?_,fun k hk e=>?_,fun y hy k hk hd=>?_,fun y hy=>?_,fun a b x y hx hy hab=>?_⟩
 . exact(hg.block k (zQ hk h.bel.size) (fun e=>by have:=(h.row.lt k e.symm).1;omega)).trans (h.bel.block k hk)
 . rcases zM.1 hr with hr|hr
   . exact(h.ats r hr).keep hg.size (fun k hk _=>⟨.inl hk,hkd k hk⟩)
   . rw[zK.1 hr];exact hu.natC.keep hg.size (fun k hk _=>⟨.inr hk,hkq k hk⟩)
 . rcases hk with hk|hk
   . exact⟨(h.dl k hk).1,zQ (h.dl k hk).2 hg.size⟩
   . exact⟨(hu.lt hk).1,zQ (hu.lt hk).2 hg.size⟩
 . rcases hnew k e with h1|h1
   . rcases hk with hk|hk
     . exact h.dg k hk h1
     . exact hu.other hk h.row h1
   . rcases hk with hk|hk
     . have:=(h.dl k hk).2;omega
     . have:=(hu.lt hk).2;omega
 . rw[zK.1 hy]at hk;rcases hd with hd|hd
   . exact h.dq (o,O) (by simp) k hk hd
   . exact h.ap 1 0 (o,O) (u,G) rfl rfl (by decide) k hk hd
 . rw[zK.1 hy];exact ho.keep (fun g _ hgq=>hko g hgq)
 . have ha:=(zF.1 hx).1;have hb:=(zF.1 hy).1;simp at ha hb;omega
theorem cloneI_all{S:Nat->Prop}{w:World}{v:Value}{L:List Nat}(h:NatS S w v L)(hL:L.length<=1000000000):
 Calls Tryz.prog 98 #[v] w fun e w'=>∃v',e=.returned v'/\w'.ownsRow w.heap.size 3 1 v' L.length (L.flatMap csI)/\Below w.heap.size w w':=by
 by_cases h0:L=[]
 . subst h0;obtain⟨ao,cap,e,_⟩:=h;subst e;cases ao with
   |none=>
    refine(Tryz.slices_Clone_int_nil 0 cap w).mono ?_;rintro e w' ⟨rfl,hw⟩;exact⟨_,rfl,World.ownsRow_nil _ _ _ _,by rw[hw];exact zE _ _⟩
   |some ad=>
    refine(Tryz.slices_Clone_int_zero ad cap w).mono ?_;rintro e w' ⟨v',rfl,h1,_,h2⟩;exact⟨v',rfl,h1,h2⟩
 . exact cloneI_any h h0 hL
def openX(c:Ch)(X:List Nat):List Nat:=X.filter fun k=> !decide ((atC c k).length=1)
theorem open_begin{w w0 w1:World}{F:Nat->Prop}{cv v1:Value}{n:Nat}{c:Ch}{X:List Nat}(hc:ChR F w cv n c)(hc0:0<c.length)(hX:∀k∈X,k<c.length)(hXl:X.length<=1000)(hw0:w0=w.alloc (.cells #[cv] 132))
 (hown:w1.ownsRow w0.heap.size 3 1 v1 X.length (X.flatMap csI)) (hb:Below w0.heap.size w0 w1):
 Calls Tryz.prog 147 #[v1,.func (.func 148) #[] #[.pointer (some ⟨w.heap.size,0,none⟩)]] w1 fun e w2=>∃v2,e=.returned v2/\GrM w (fun _=>False) w2 (.slice none 0 0) [] [(v2,openX c X)]:=by
 have hz0:w0.heap.size=w.heap.size+1:=by rw[hw0];simp
 have hb0:Below w.heap.size w w0:=by rw[hw0];exact(zE _ _).alloc (zD _) _
 have hbx:w0.heap[w.heap.size]?=some (.cells #[cv] 132 (0,0)):=by rw[hw0];exact heap_alloc_new _ _
 have hnb:∀k,k<w0.heap.size->v1.ownBlock≠some k:=fun k hk e=>by have:=(hown.lt k e).1;omega
 have hz1:=hb.size;refine(delI_any (p:=fun x=>decide ((atC c x).length=1)) hown (by omega) hc0 hX (lb:=#[.pointer (some ⟨w.heap.size,0,none⟩)]) (fun W hW x hx=>?_)).mono ?_
 . have hold:∀k,k<w0.heap.size->W.heap[k]?=w0.heap[k]?:=fun k hk=>(hW k (by omega) (hnb k hk)).trans (hb.block k hk)
   have h1:=(hold w.heap.size (by omega)).trans hbx;have hsz:w.heap.size<=W.heap.size:=by have:=lt_of_block h1;omega
   exact groups1_any (F:=F) (n:=n) (by simp[World.cell?,h1]) (hc.keep hsz (fun k hk hk2=>⟨hk,(hold k (by omega)).trans (hb0.block k hk2)⟩)) hx
 . rintro e w2 ⟨v2,rfl,h1,h2⟩;have hq:=QRow.of_own h1;have hbel:Below w.heap.size w w2:=⟨h2.os.trans (hb.os.trans hb0.os),h2.tape.trans (hb.tape.trans hb0.tape),h2.output.trans (hb.output.trans hb0.output),by have:=h2.size;have:=hb0.size;omega,fun k hk=>(h2.block k (by omega) (fun e=>hnb k (by omega) e.symm)).trans ((hb.block k (by omega)).trans (hb0.block k hk))⟩
   refine⟨v2,rfl,hbel,World.ownsRow_nil _ _ _ _,fun r hr=>by simp at hr,fun _ hk=>hk.elim,fun _ hk=>hk.elim,fun _ _ _ _ hk=>hk,fun u hu=>?_,fun i j u v hu hv hij=>?_⟩
   . rw[zK.1 hu];rcases hq with hq|⟨g,off,cap,cur,e1,e2,e3⟩
     . exact .inl hq
     . exact .inr ⟨g,off,cap,cur,e1,by omega,e3⟩
   . have ha:=(zF.1 hu).1;have hb:=(zF.1 hv).1;simp at ha hb;omega
def lnkOf(lks:List Lm)(x y:Nat):Bool:=lks.any (lnkB x y)
def GrpE(w:World)(lks:List Lm)(c:Ch)(X:List Nat)(e:Ending)(w':World):Prop:=
 ∃ug rows D,e=.returned ug/\GI (lnkOf lks) (openX c X) (rows.map (·.2)) []/\GrM w D w' ug rows []
theorem GrM.plusNil{w wr:World}{D:Nat->Prop}{ug:Value}{rows:List (Value×List Nat)}{x y:Value×List Nat}(h:GrM w D wr ug rows [x,y]):GrM w D wr ug rows [x,y,(.slice none 0 0,[])]:=by
 have hn:∀k,¬QB (.slice none 0 0) k:=fun k hk=>by obtain⟨_,_,_,e⟩:=hk;cases e
 refine h.turn (fun u hu k hk=>?_) (fun u hu=>?_) (fun i j u v hu hv hij k h1 h2=>?_)
 . simp only[yB,List.mem_nil_iff,or_false]at hu;rcases hu with rfl|rfl|rfl
   . exact h.dq _ (by simp) k hk
   . exact h.dq _ (by simp) k hk
   . exact absurd hk (hn k)
 . simp only[yB,List.mem_nil_iff,or_false]at hu;rcases hu with rfl|rfl|rfl
   . exact h.qs _ (by simp)
   . exact h.qs _ (by simp)
   . exact .inl ⟨rfl,rfl⟩
 . match i,j,hu,hv,hij with
   |0,0,_,_,hij=>exact hij rfl
   |1,1,_,_,hij=>exact hij rfl
   |2,2,_,_,hij=>exact hij rfl
   |0,1,hu,hv,hij=>exact h.ap 0 1 u v (by simpa using hu) (by simpa using hv) hij k h1 h2
   |1,0,hu,hv,hij=>exact h.ap 1 0 u v (by simpa using hu) (by simpa using hv) hij k h1 h2
   |2,_,hu,_,_=>simp at hu;subst hu;exact hn k h1
   |_,2,_,hv,_=>simp at hv;subst hv;exact hn k h2
   |i+3,_,hu,_,_=>simp at hu
   |_,j+3,_,hv,_=>simp at hv
theorem GrM.drop1{w wr:World}{D:Nat->Prop}{ug:Value}{rows:List (Value×List Nat)}{x y z:Value×List Nat}(h:GrM w D wr ug rows [x,y,z]):GrM w D wr ug rows [x,z]:=by
 refine h.turn (fun u hu k hk=>?_) (fun u hu=>?_) (fun i j u v hu hv hij k h1 h2=>?_)
 . simp only[yB,List.mem_nil_iff,or_false]at hu;rcases hu with rfl|rfl
   . exact h.dq _ (by simp) k hk
   . exact h.dq _ (by simp) k hk
 . simp only[yB,List.mem_nil_iff,or_false]at hu;rcases hu with rfl|rfl
   . exact h.qs _ (by simp)
   . exact h.qs _ (by simp)
 . match i,j,hu,hv,hij with
   |0,0,_,_,hij=>exact hij rfl
   |1,1,_,_,hij=>exact hij rfl
   |0,1,hu,hv,_=>exact h.ap 0 2 u v (by simpa using hu) (by simpa using hv) (by decide) k h1 h2
   |1,0,hu,hv,_=>exact h.ap 2 0 u v (by simpa using hu) (by simpa using hv) (by decide) k h1 h2
   |i+2,_,hu,_,_=>simp at hu
   |_,j+2,_,hv,_=>simp at hv
set_option maxHeartbeats 16000000 in
theorem groups_any{w:World}{F:Nat->Prop}{jb:Nat}{ds:List Sy}{n:Nat}{c:Ch}{lks:List Lm}{ls:List Lk}{l:List Sx}{cv sv:Value}{X:List Nat}
 (h:JS w F jb ds n c.length lks ls l) (hc:ChR F w cv n c) (hc0:0<c.length) (hsv:NatS F w sv X) (hX:∀k∈X,k<c.length) (hXl:X.length<=1000):
 Calls Tryz.prog 131 #[.pointer (some ⟨jb,0,none⟩),cv,sv] w (GrpE w lks c X):=by
 obtain⟨iR,hiR,hzR0,hzR1,hzR2⟩:=info_partsG infoRG;obtain⟨lv,hj,hlk⟩:=h.lk;have hjl:=h.low jb h.jF;obtain⟨ca,nc,cc,rfl⟩:∃a b d,cv=.slice a b d:=by
  obtain⟨rows0,_,hr2,_⟩:=hc.ex;obtain⟨ca,cc,e⟩:=hr2.slice;exact⟨_,_,_,e⟩
 have hll:=h.ll;obtain⟨w0,hw0⟩:∃W,W=w.alloc (.cells #[.slice ca nc cc] 132):=⟨_,rfl⟩
 have hb0:Below w.heap.size w w0:=by rw[hw0];exact(zE _ _).alloc (zD _) _
 have C0:=zA (cloneI_all (hsv.below hb0) (by omega));have C1:=zA (fun v1 w1=>open_begin (w1:=w1) (v1:=v1) hc hc0 hX hXl hw0);have CL:=zA (fun(a b:Nat) (W:World) (hW:Below w.heap.size w W)=>linked_any (a:=a) (b:=b) (by simpa only[World.cell?,hW.block jb hjl]using hj:W.cell? ⟨jb,3,none⟩=some lv) (hlk.below hW) hll);obtain⟨Y,hY⟩:∃Y,Y=openX c X:=⟨_,rfl⟩
 have hYl:Y.length<=1000:=by rw[hY];exact zT (yF _ _) hXl
 obtain⟨Q,hQ⟩:∃Q,Q=GrpE w lks c X:=⟨_,rfl⟩
 have HFIN:Hid (∀ug rows D w',GI (lnkOf lks) Y (rows.map (·.2)) []->GrM w D w' ug rows []->Q (.returned ug) w'):=zA (fun ug rows D w' h1 h2=>by
  rw[hQ];rw[hY]at h1;exact⟨ug,rows,D,rfl,h1,h2⟩)
 rw[<- hY]at C1;rw[<- hQ];obtain⟨lnk,hlnk⟩:∃f,f=lnkOf lks:=⟨_,rfl⟩
 rw[<- hlnk]at HFIN;have CL2:Hid (∀(a b:Nat) (W:World),Below w.heap.size w W->Calls Tryz.prog 149 #[.pointer (some ⟨jb,0,none⟩),.int .i64 (a:Int),.int .i64 (b:Int)] W fun e w'=>e=.returned (.bool (lnk a b))/\Below W.heap.size W w'):=zA (by rw[hlnk];exact CL.out);have HW0:=zA hw0;clear CL h hc hc0 hsv hX hXl hj hlk hll hjl hw0 hb0 hY hQ hlnk;go_enter Tryz.func131,Tryz.ntmps131;go_wp2_with fail;rw[<- HW0.out];refine C0.out.mono ?_;rintro e w1 ⟨v1,rfl,hown,hb1⟩;have C2:=zA (C1.out v1 w1 hown hb1);clear hown hb1 C0 C1 HW0;go_wp2_with fail;refine C2.out.mono ?_;rintro e w2 ⟨v2,rfl,hgm⟩;have HGM0:Hid (GrM w (fun _=>False) w2 (.slice none 0 0) [] [(v2,Y)]):=zA hgm;have HGI0:Hid (GI lnk Y [] Y):=zA (GI.start _ _);clear hgm C2;go_wp2_with fail;go_loopg [7,8] Y.length (fun gg u7 u8 wr=>∃(D:Nat->Prop) (rows:List (Value×List Nat)) (O:List Nat),gg=O.length/\Hid (GI lnk Y (rows.map (·.2)) O)/\Hid (GrM w D wr u7 rows [(u8,O)]))
 case atStart=>exact⟨fun _=>False,[],Y,rfl,HGI0,HGM0⟩
 case round=>
  obtain⟨D,rows,O,hgO,HGI,HGM⟩:=hrel;obtain⟨wx,hwx⟩:∃wx,wx=wr:=⟨_,rfl⟩
  subst hwx;obtain⟨gko,hgko⟩:∃x,x=gk:=⟨_,rfl⟩
  subst hgko;have hOl:=HGI.out.len.1;cases O with
  |nil=>
   have HF:=zA (HFIN.out u7 rows D wx HGI.out (HGM.out.turn (fun u hu=>by simp at hu) (fun u hu=>by simp at hu) (fun i j u v hu=>by simp at hu)));have HQ8:=HGM.out.qs (u8,[]) (by simp);dsimp only at HQ8;rcases HQ8 with⟨rfl,_⟩|⟨g,off,cap,cur,rfl,_⟩
   . go_wp2;all_goals (first|(go_ret;exact HF.out)|exact HF.out)
   . go_wp2;all_goals (first|(go_ret;exact HF.out)|exact HF.out)
  |cons a O'=>
   rcases HGM.out.qs (u8,a::O') (by simp)with⟨_,hq0⟩|⟨g,off,cap,cur,hue,hgB,hgb,hoc,hlc,hcells⟩
   . cases hq0
   . dsimp only at hue hgb;subst hue;have hca:wx.cell? ⟨g,off,none⟩=some (.int .i64 (a:Int)):=by
      have:=hcells 0 a rfl;rw[yA]at this;simp only[World.cell?,hgb];exact this
     obtain⟨nt,hnt⟩:∃k,k=O'.length:=⟨_,rfl⟩
     have hlc2:nt+1<=cap:=by rw[hnt];simpa using hlc
     have hgl:g<wx.heap.size:=lt_of_block hgb;obtain⟨ga,gc,hu7⟩:=own_slice HGM.out.row;obtain⟨nr,hnr⟩:∃k,k=rows.length:=⟨_,rfl⟩
     rw[<- hnr]at hu7;subst hu7;have HNR:=zA hnr;have HFLT:Hid ((rows.map (·.2)).flatten.length+(nt+1)=Y.length):=zA (by
      have:=HGI.out.perm.length_eq;rw[zG,yG,<- hnt]at this;exact this)
     have hnrl:nr<=1000:=by
      have:=HGI.out.count;rw[zH,<- hnr]at this;omega
     clear hnr;obtain⟨wq,hwq⟩:∃W,W=wx.alloc (.cells #[.int .i64 (a:Int)] 3):=⟨_,rfl⟩
     have hbq:Below wx.heap.size wx wq:=by rw[hwq];exact(zE _ _).alloc (zD _) _
     have haq:wq.heap[wx.heap.size]?=some (.cells #[.int .i64 (a:Int)] 3 (0,0)):=by rw[hwq];exact heap_alloc_new _ _
     have hgq:wq.heap[g]?=some (.cells cur 3 (0,0)):=(hbq.block g hgl).trans hgb;have hszw:w.heap.size<=wx.heap.size:=HGM.out.bel.size;have HQ1:Hid (∀u,(u=.slice (some ⟨g,off,none⟩) 0 0/\cap=1)\/(u=.slice (some ⟨g,off+1,none⟩) nt (cap-1)/\cap≠1)->GrM w D wq (.slice ga nr gc) rows [(.slice (some ⟨wx.heap.size,0,none⟩) 1 1,[a]),(u,O')]):=zA (fun u hu=>by
      have hQ:QRow w.heap.size wq u O':=by
       rcases hu with⟨rfl,hc1⟩|⟨rfl,hc1⟩
       . have h0:O'=[]:=yL.1 (by omega);subst h0;exact .inr ⟨g,off,0,cur,rfl,hgB,hgq,by omega,zD _,fun j x hx=>by simp at hx⟩
       . exact .inr ⟨g,off+1,cap-1,cur,by rw[hnt],hgB,hgq,by omega,by omega,fun j x hx=>by
          have:=hcells (j+1) x (by simpa using hx);rw[show off+1+j=off+(j+1) by omega];exact this⟩
      have hug:∀k,QB u k->k=g:=fun k hk=>by
       obtain⟨_,_,_,e⟩:=hk;rcases hu with⟨rfl,_⟩|⟨rfl,_⟩
       . injection e with e;injection e with e;injection e with e;exact e.symm
       . injection e with e;injection e with e;injection e with e;exact e.symm
      have hua:∀k,QB (.slice (some ⟨wx.heap.size,0,none⟩) 1 1) k->k=wx.heap.size:=fun k hk=>by
       obtain⟨_,_,_,e⟩:=hk;injection e with e;injection e with e;injection e with e;exact e.symm
      have hQa:QRow w.heap.size wq (.slice (some ⟨wx.heap.size,0,none⟩) 1 1) [a]:=.inr ⟨wx.heap.size,0,1,_,rfl,hszw,haq,by simp,by simp,fun j x hx=>by
       match j,hx with
       |0,hx=>simp at hx;subst hx;rfl
       |j+1,hx=>simp at hx⟩
      have hdg:¬D g:=HGM.out.dq _ (zL ..) g ⟨off,_,cap,rfl⟩;refine(HGM.out.below hbq).turn (fun y hy k hk=>?_) (fun y hy=>?_) (fun i j x y hx hy hij k hk1 hk2=>?_)
      . simp only[yB,List.mem_nil_iff,or_false]at hy;rcases hy with rfl|rfl
        . rw[hua k hk];exact fun hd=>by have:=(HGM.out.dl _ hd).2;omega
        . rw[hug k hk];exact hdg
      . simp only[yB,List.mem_nil_iff,or_false]at hy;rcases hy with rfl|rfl
        . exact hQa
        . exact hQ
      . match i,j,hx,hy,hij with
        |0,0,_,_,hij=>exact hij rfl
        |1,1,_,_,hij=>exact hij rfl
        |0,1,hx,hy,_=>
         simp at hx hy;subst hx hy;have h1:=hua k hk1;have h2:=hug k hk2;omega
        |1,0,hx,hy,_=>
         simp at hx hy;subst hx hy;have h1:=hua k hk2;have h2:=hug k hk1;omega
        |i+2,_,hx,_,_=>simp at hx
        |_,j+2,_,hy,_=>simp at hy)
     have HGM1:Hid (GM lnk Y (rows.map (·.2)) [a] 0 O'):=zA HGI.out.pop;have hcapI:(nt:Int)+1<=(cap:Int):=by omega
     have hntI:(0:Int)<(nt:Int)+1:=by omega
     rw[yG]at hOl hgO;rw[<- hnt]at hOl hgO;have hntl:nt<=1000:=by omega
     have HNT:=zA hnt;have HWQ:=zA hwq;have HGO:=zA hgO;rw[yG,<- hnt];clear hcells hlc hnt hwq hbq haq hgq hgO HGM HGI;go_upto_region 5 with fail;rw[<- HWQ.out];go_cut [8] (fun s8 wz=>Hid (GrM w D wq (.slice ga nr gc) rows [(.slice (some ⟨wx.heap.size,0,none⟩) 1 1,[a]),(s8,O')])/\wz=wq)
     case first=>
      by_cases hc1:cap=1
      . have HQ:=zA (HQ1.out _ (.inl ⟨rfl,hc1⟩));subst hc1;have hnt0:nt=0:=by omega
        subst hnt0;go_wp2_with fail;go_meet;exact⟨HQ,rfl⟩
      . have HQ:=zA (HQ1.out _ (.inr ⟨rfl,hc1⟩));have hc2:¬(cap:Int)=1:=by omega
        go_wp2_with fail;go_meet;exact⟨HQ,rfl⟩
     case rest=>
     obtain⟨HG1,rfl⟩:=hcut;go_wp2_with fail;go_loopg [8,9,10] Y.length (fun gg u8 u9 u10 wr=>∃(G:List Nat) (i:Nat) (O2:List Nat),gg+i=Y.length/\i<=G.length/\u10=.int .i64 i/\Hid (GM lnk Y (rows.map (·.2)) G i O2)/\Hid (GrM w D wr (.slice ga nr gc) rows [(u9,G),(u8,O2)]))
     case atStart=>exact⟨[a],0,O',rfl,by simp,rfl,HGM1,HG1⟩
     case round=>
      obtain⟨G,i,O2,hgi,hiG,rfl,HM,HG⟩:=hrel;obtain⟨wy,hwy⟩:∃wy,wy=wr:=⟨_,rfl⟩
      subst hwy;have hGl:=HM.out.len;have HQ9:=HG.out.qs (u9,G) (by simp);dsimp only at HQ9;rcases HQ9 with⟨_,hG0⟩|⟨g9,off9,cap9,cur9,rfl,hB9,hb9,hc9,hl9,hcl9⟩
      . exact absurd hG0 HM.out.nz
      . obtain⟨n9,hn9⟩:∃k,k=G.length:=⟨_,rfl⟩
        rw[<- hn9];by_cases hlt:i<n9
        . have hltI:(i:Int)<(n9:Int):=by omega
          obtain⟨b,hb⟩:∃b,G[i]?=some b:=⟨_,zB (by omega)⟩
          have HQ8:=HG.out.qs (u8,O2) (by simp);dsimp only at HQ8;obtain⟨a8,c8,hu8⟩:=HQ8.natC.1.slice;obtain⟨n8,hn8⟩:∃k,k=O2.length:=⟨_,rfl⟩
          rw[<- hn8]at hu8;subst hu8;have hn8l:n8<=1000:=by omega
          have hn9l:n9<=1000:=by omega
          have HN8:=zA hn8;have HN9:=zA hn9;have HBI:=zA hb;have HG0:Hid (GrM w D wy (.slice ga nr gc) rows [(.slice (some ⟨g9,off9,none⟩) n9 cap9,G),(.slice a8 n8 c8,O2),(.slice none 0 0,[])]):=zA (by have h1:=HG.out.plusNil;rw[<- hn9]at h1;exact h1);have hGO:n9+n8<=1000:=by omega
          clear hcl9 hn9 hn8 hb HG HQ8 hb9;go_wp2_with fail;go_loopw [9,11,35] (fun v9 v11 k wr=>∃(j:Nat) (G2 A:List Nat),j<=n8/\k=.int .i64 j/\Hid (G2=G++(O2.take j).filter (lnk b))/\Hid (A=(O2.take j).filter fun y=> !lnk b y)/\Hid (GrM w D wr (.slice ga nr gc) rows [(v9,G2),(.slice a8 n8 c8,O2),(v11,A)])) (fun _ _ k _=>n8-(intOf k).toNat)
          case atStart=>exact⟨0,G,[],zO _,rfl,zA (by simp),zA (by simp),HG0⟩
          case round=>
          obtain⟨j,G2,A,hj,rfl,HO9,HOA,HG1⟩:=hrel;obtain⟨wz,hwz⟩:∃wz,wz=wr:=⟨_,rfl⟩
          subst hwz;have hG2l:G2.length<=1000:=by
           rw[HO9.out,zG,<- HN9.out];have h1:=yF (lnk b) (O2.take j);rw[zX,<- HN8.out]at h1;omega
          have hAl:A.length<=1000:=by
           rw[HOA.out];have h1:=yF (fun y=> !lnk b y) (O2.take j);rw[zX,<- HN8.out]at h1;omega
          by_cases hjl:j<n8
          . have hjI:(j:Int)<(n8:Int):=by omega
            obtain⟨x,hx⟩:∃x,O2[j]?=some x:=⟨_,zB (by rw[<- HN8.out];exact hjl)⟩
            have HQ8:=HG1.out.qs (.slice a8 n8 c8,O2) (by simp);dsimp only at HQ8;obtain⟨g8,off8,ha8,_,hg8l,hc8⟩:=HQ8.natC.1.get hx;subst ha8;have cx:=hc8 0 _ rfl;rw[yD,yA]at cx;have HQ9:=HG1.out.qs (u9,G2) (by simp);dsimp only at HQ9;have hbi:G2[i]?=some b:=by
             rw[HO9.out,yH (by rw[<- HN9.out];exact hlt)];exact HBI.out
            obtain⟨aA,cA,hu9⟩:=HQ9.natC.1.slice;obtain⟨nA,hnA⟩:∃k,k=G2.length:=⟨_,rfl⟩
            rw[<- hnA]at hu9;subst hu9;have hiA:i<nA:=by have:=(zF.1 hbi).1;omega
            have hiAI:(i:Int)<(nA:Int):=by omega
            obtain⟨gA,oA,haA,_,hgAl,hcA⟩:=HQ9.natC.1.get hbi;subst haA;have cb:=hcA 0 _ rfl;rw[yD,yA]at cb;have CK:=zA (CL2.out b x wz HG1.out.bel);have htk:Hid (O2.take (j+1)=O2.take j++[x]):=zA (by rw[zS,hx];rfl);have HNA:=zA hnA;clear hc8 hcA HQ8 HQ9 hx hbi hnA;go_wp2_with fail;refine CK.out.mono ?_;rintro e w3 ⟨rfl,hb3⟩;have HG3:=zA (HG1.out.below hb3);clear hb3 CK cx cb;obtain⟨t,ht⟩:∃t,t=lnk b x:=⟨_,rfl⟩
            rw[<- ht];have hl:lnk b x=t:=ht.symm;have HLX:=zA hl;clear hl ht;cases t with
            |true=>
            obtain⟨w4,hw4⟩:∃W,W=w3.alloc (.cells #[.int .i64 (x:Int)] 3):=⟨_,rfl⟩
            have hb4:Below w3.heap.size w3 w4:=by rw[hw4];exact(zE _ _).alloc (zD _) _
            have hy4:w4.cell? ⟨w3.heap.size,0,none⟩=some (.int .i64 (x:Int)):=by
             have h1:w4.heap[w3.heap.size]?=some (.cells #[.int .i64 (x:Int)] 3 (0,0)):=by rw[hw4];exact heap_alloc_new _ _
             simp[World.cell?,h1]
            have HY4:=zA hy4;have HG4:=zA (HG3.out.below hb4);have HQ4:Hid (QRow w.heap.size w4 (.slice (some ⟨gA,oA,none⟩) nA cA) G2):=zA (HG4.out.qs ((.slice (some ⟨gA,oA,none⟩) nA cA),G2) (by simp));have HSZ4:Hid (w.heap.size<=w4.heap.size):=zA HG4.out.bel.size;have HW4:Hid (w3.alloc (.cells #[.int .i64 (x:Int)] 3)=w4):=zA hw4.symm;clear hy4 hb4 hw4;go_wp2_with (at_builtin;rw[HW4.out];refine wpList_append_q rfl _ _ rfl (by rfl) HQ4.out (by omega) ⟨w3.heap.size,0,none⟩ 1 x (by rfl) HY4.out HSZ4.out ?_);intro u' w9 q1 q2 q3 q4 q5 q6 q7;have HG9:=zA (HG4.out.grow (i:=0) rfl q2 q3 q4 q5 q6 q1 q7);clear q1 q2 q3 q4 q5 q6 q7;go_wp2;go_roundw
            case rel=>exact⟨j+1,_,_,by omega,by go_num,zA (by rw[HO9.out,htk.out];simp[List.filter_append,HLX.out]),zA (by rw[HOA.out,htk.out];simp[List.filter_append,HLX.out]),HG9⟩
            case measure=>simp[intOf];omega
            |false=>
            obtain⟨w4,hw4⟩:∃W,W=w3.alloc (.cells #[.int .i64 (x:Int)] 3):=⟨_,rfl⟩
            have hb4:Below w3.heap.size w3 w4:=by rw[hw4];exact(zE _ _).alloc (zD _) _
            have hy4:w4.cell? ⟨w3.heap.size,0,none⟩=some (.int .i64 (x:Int)):=by
             have h1:w4.heap[w3.heap.size]?=some (.cells #[.int .i64 (x:Int)] 3 (0,0)):=by rw[hw4];exact heap_alloc_new _ _
             simp[World.cell?,h1]
            have HY4:=zA hy4;have HG4:=zA (HG3.out.below hb4);have HQ4:Hid (QRow w.heap.size w4 u11 A):=zA (HG4.out.qs (u11,A) (by simp));have HSZ4:Hid (w.heap.size<=w4.heap.size):=zA HG4.out.bel.size;have HW4:Hid (w3.alloc (.cells #[.int .i64 (x:Int)] 3)=w4):=zA hw4.symm;clear hy4 hb4 hw4;go_wp2_with (at_builtin;rw[HW4.out];refine wpList_append_q rfl _ _ rfl (by rfl) HQ4.out (by omega) ⟨w3.heap.size,0,none⟩ 1 x (by rfl) HY4.out HSZ4.out ?_);intro u' w9 q1 q2 q3 q4 q5 q6 q7;have HG9:=zA (HG4.out.grow (i:=2) rfl q2 q3 q4 q5 q6 q1 q7);clear q1 q2 q3 q4 q5 q6 q7;go_wp2;go_roundw
            case rel=>exact⟨j+1,_,_,by omega,by go_num,zA (by rw[HO9.out,htk.out];simp[List.filter_append,HLX.out]),zA (by rw[HOA.out,htk.out];simp[List.filter_append,HLX.out]),HG9⟩
            case measure=>simp[intOf];omega
          . have hjI:¬(j:Int)<(n8:Int):=by omega
            have hjn:j=n8:=by omega
            have HM2:Hid (GM lnk Y (rows.map (·.2)) G2 (i+1) A):=zA (by
             have h1:=HM.out.step HBI.out;have h2:O2.take j=O2:=by rw[hjn,HN8.out,List.take_length]
             rw[HO9.out,HOA.out,h2];exact h1)
            have HG2:=zA HG1.out.drop1;have hi2:i+1<=G2.length:=by
             rw[HO9.out,zG,<- HN9.out];omega
            clear hjn;go_wp2;go_roundg (gk-1)
            case measure=>have h8:=HM.out.len;have h9:=HN9.out;omega
            case rel=>exact⟨G2,i+1,A,by have h8:=HM.out.len;have h9:=HN9.out;omega,hi2,by go_num,HM2,HG2⟩
        . have hltI:¬(i:Int)<(n9:Int):=by omega
          have HR9:Hid (wy.ownsRow w.heap.size 59 1 (.slice ga nr gc) nr (rows.flatMap csRow)):=zA (by have:=HG.out.row;rw[<- HNR.out]at this;exact this);have HSW:Hid (w.heap.size<=wy.heap.size):=zA HG.out.bel.size;have HN9:=zA hn9;clear hcl9 hn9;go_wp2_with (at_builtin;refine wpList_append_lies _ rfl _ _ _ rfl w.heap.size 59 iR _ 1 24 Tryz.underlying60 hiR hzR0 hzR1 hzR2 rfl (by decide) (.slice ga nr gc) _ _ (by rfl) (HR9.out.alloc _) ⟨wy.heap.size,0,none⟩ 1 1 [.slice (some ⟨g9,off9,none⟩) n9 cap9] (by rfl) (by rfl) ?d1 ?d2 (by decide) ?d3 ?d4 ?d5 (wy.heap.size+1) (by simp) ?_)
          case d2=>simp[Value.oneCell']
          case d3=>unfold maxLen;omega
          case d4=>omega
          case d5=>have:=HSW.out;simp;omega
          intro gg cap2 w5 hown5 hgrow5 hat5 hlt5;have HGI2:Hid (GI lnk Y ((rows++[((Value.slice (some ⟨g9,off9,none⟩) n9 cap9,G):Value×List Nat)]).map (·.2)) O2):=zA (by
           rw[yK];exact HM.out.done (by rw[<- HN9.out];omega))
          have HGM2:Hid (GrM w (fun k=>D k\/QB (.slice (some ⟨g9,off9,none⟩) n9 cap9) k) w5 (.slice (some ⟨gg,0,none⟩) (nr+1) cap2) (rows++[(.slice (some ⟨g9,off9,none⟩) n9 cap9,G)]) [(u8,O2)]):=zA (by
           have hb:=(zE wy.heap.size wy).alloc (zD _) (.cells #[.slice (some ⟨g9,off9,none⟩) n9 cap9] 59);have h1:=HG.out.below hb;rw[<- HN9.out]at h1;refine h1.put hgrow5 ?_ (fun q hq=>?_)
           . rw[zG,<- HNR.out,zR];exact hown5
           . have e1:gg=q:=by simpa[Value.ownBlock]using hq
             subst e1;rcases hat5 with e2|e2
             . exact .inl e2
             . exact .inr (by simp;omega))
          have hless:O2.length<gko:=by
           have h1:=HM.out.perm.length_eq;have h2:=HFLT.out;have h3:=HGO.out;have h4:0<G.length:=List.length_pos_iff.2 HM.out.nz;rw[zG,zG]at h1;omega
          clear hown5 hgrow5 hat5 hlt5;go_wp2;go_roundg O2.length
          case measure=>exact hless
          case rel=>exact⟨_,_,O2,rfl,HGI2,HGM2⟩
def SomE(w:World)(F:Nat->Prop)(jb:Nat)(ds:List Sy)(n m:Nat)(lks:List Lm)(ls:List Lk)(r:Bool)(e:Ending)(w':World):Prop:=
 e=.returned (.bool r)/\Fr F w w'/\∃l,JS w' F jb ds n m lks ls l
theorem JS.sub{w w':World}{F F':Nat->Prop}{jb:Nat}{ds:List Sy}{n m:Nat}{lks:List Lm}{ls:List Lk}{l l':List Sx}(h:JS w F jb ds n m lks ls l)(hf:Fr F w w')(h':JS w' F' jb ds n m lks ls l')(hs:∀k,F k->F' k):JS w' F jb ds n m lks ls l':=by
 obtain⟨lv,h1,h2⟩:=h.lk;exact⟨h'.pool,h'.like,fun k hk=>h'.low k (hs k hk),fun k hk=>h'.un k (hs k hk),h'.tab,h.f0,h.jF,⟨lv,by simpa only[World.cell?,hf.block jb h.jF]using h1,h2.fr hf⟩,h.ll,h.ok,h.nn,h.mm⟩
theorem lnkB_sym(a b:Nat)(L:Lm):lnkB a b L=lnkB b a L:=by
 unfold lnkB;rw[Bool.or_comm]
theorem lnkOf_sym(lks:List Lm)(x y:Nat):lnkOf lks x y=lnkOf lks y x:=by
 unfold lnkOf;congr 1;funext L;exact lnkB_sym x y L
theorem LinksOk.lnk{ds:List Sy}{n m:Nat}{lks:List Lm}{ls:List Lk}(h:LinksOk ds n m lks ls):∀l∈ls,lnkOf lks l.fr l.to=true:=fun l hl=>by
 obtain⟨i,hi⟩:=List.getElem?_of_mem hl;have hil:=(zF.1 hi).1;obtain⟨L,hL⟩:∃L,lks[i]?=some L:=⟨_,zB (by rw[<- h.len];exact hil)⟩
 obtain⟨h1,h2,_⟩:=h.at_ i L l hL hi;unfold lnkOf;rw[List.any_eq_true];exact⟨L,zC hL,by unfold lnkB;rw[h1,h2];simp⟩
theorem GrpE.use{w:World}{F:Nat->Prop}{jb:Nat}{ds:List Sy}{n:Nat}{c:Ch}{lks:List Lm}{ls:List Lk}{l:List Sx}{X:List Nat}{w1:World}{ug:Value}{rows:List (Value×List Nat)}{D:Nat->Prop}
 (h:JS w F jb ds n c.length lks ls l) (hgi:GI (lnkOf lks) (openX c X) (rows.map (·.2)) []) (hgm:GrM w D w1 ug rows []) (hX:∀k∈X,k<c.length) (hnd:X.Nodup) (hac:AC ls c) (hi:Iso ls c X):
 JS w1 (fun k=>F k\/D k\/ug.ownBlock=some k) jb ds n c.length lks ls l/\Fr F w w1/\SlS csRow 1 (fun k=>F k\/D k\/ug.ownBlock=some k) w1 ug rows/\
 (LocSol ls c X↔∀r∈rows,LocSol ls c r.2)/\∀r∈rows,NatC (fun k=>F k\/D k\/ug.ownBlock=some k) w1 r.1 r.2/\r.2≠[]/\r.2.Nodup/\r.2.length<=X.length/\(∀k∈r.2,k<c.length)/\Iso ls c r.2:=by
 have hp:Parted ls c X (rows.map (·.2)):=GI.parted hgi (lnkOf_sym lks) h.ok.lnk;have hol:(openX c X).length<=X.length:=yF _ _;refine⟨h.more hgm.bel (fun k hk=>?_) (fun k hk=>.inl hk),fr_below h.low hgm.bel,(own_sl csRow_len hgm.row rfl).sub (fun k hk _=>.inr (.inr hk)),?_,fun r hr=>?_⟩
 . rcases hk with hk|hk|hk
   . exact .inl hk
   . exact .inr (hgm.dl k hk)
   . exact .inr (hgm.row.lt k hk)
 . rw[loc_parts hac hp];constructor
   . exact fun h1 r hr=>h1 r.2 (zW hr)
   . intro h1 G hG;obtain⟨r,hr,rfl⟩:=zV.1 hG;exact h1 r hr
 . have hm:r.2∈rows.map (·.2):=zW hr;refine⟨(hgm.ats r hr).sub (fun k hk _=>.inr (.inl hk)),hgi.ne r.2 hm,hgi.nodup (hnd.sublist List.filter_sublist) hm,zT (hgi.len.2 r.2 hm) hol,fun k hk=>hX k ((hp.mem k).1 ⟨r.2,hm,hk⟩).1,hp.iso hi hm⟩
def SomeOfP(k jb:Nat)(ds:List Sy)(n:Nat)(lks:List Lm)(ls:List Lk):Prop:=
 ∀(w:World) (F:Nat->Prop) (c:Ch) (l:List Sx) (cv:Value) (G:List Nat) (gv:Value),JS w F jb ds n c.length lks ls l->ChR F w cv n c->AC ls c->NatC F w gv G->G≠[]->G.Nodup->G.length<=k->(∀x∈G,x<c.length)->Iso ls c G->
  Calls Tryz.prog 132 #[.pointer (some ⟨jb,0,none⟩),cv,gv] w (SomE w F jb ds n c.length lks ls (locB ls c G))
def SomeP(k jb:Nat)(ds:List Sy)(n:Nat)(lks:List Lm)(ls:List Lk):Prop:=
 ∀(w:World) (F:Nat->Prop) (c:Ch) (l:List Sx) (cv:Value) (X:List Nat) (sv:Value),JS w F jb ds n c.length lks ls l->ChR F w cv n c->0<c.length->AC ls c->NatC F w sv X->X.Nodup->X.length<=k->(∀x∈X,x<c.length)->Iso ls c X->
  Calls Tryz.prog 101 #[.pointer (some ⟨jb,0,none⟩),cv,sv] w (SomE w F jb ds n c.length lks ls (locB ls c X))
set_option maxHeartbeats 8000000 in
theorem some_step{k jb:Nat}{ds:List Sy}{n:Nat}{lks:List Lm}{ls:List Lk}(hk:k<=1000)(H:SomeOfP k jb ds n lks ls):SomeP k jb ds n lks ls:=by
 intro w F c l cv X sv h hc hc0 hac hsv hnd hXl hX hi;have C0:=zA (groups_any h hc hc0 hsv.1 hX (by omega));obtain⟨Q,hQ⟩:∃Q,Q=SomE w F jb ds n c.length lks ls (locB ls c X):=⟨_,rfl⟩
 rw[<- hQ];have HU:=zA (fun w1 ug rows D hgi hgm=>GrpE.use (w1:=w1) (ug:=ug) (rows:=rows) (D:=D) h hgi hgm hX hnd hac hi);have HFIN:Hid (∀(w1 wr:World) (F1:Nat->Prop) (r:Bool),r=locB ls c X->(∀q,F q->F1 q)->Fr F w w1->Fr F1 w1 wr->(∃l',JS wr F1 jb ds n c.length lks ls l')->Q (.returned (.bool r)) wr):=zA (fun w1 wr F1 r hr hs h1 h2 h3=>by
  obtain⟨l',h3⟩:=h3;have hf:=h1.trans (h2.sub hs);rw[hQ,hr];exact⟨rfl,hf,l',h.sub hf h3 hs⟩)
 have HH:=zA H;have HC:=zA hc;have HAC:=zA hac;clear hQ h hc hc0 hac hsv hnd hX hi H;go_enter Tryz.func101,Tryz.ntmps101;go_wp2_with fail;refine C0.out.mono ?_;rintro e w1 ⟨ug,rows,D,rfl,hgi,hgm⟩;obtain⟨u1,u2,u3,u4,u5⟩:=HU.out w1 ug rows D hgi hgm;have hcnt:=hgi.count;have hol:(openX c X).length<=X.length:=yF _ _;obtain⟨F1,hF1⟩:∃F1,F1=fun q=>F q\/D q\/ug.ownBlock=some q:=⟨_,rfl⟩
 rw[<- hF1]at u1 u3 u5;have hsub:∀q,F q->F1 q:=fun q hq=>by rw[hF1];exact .inl hq
 obtain⟨ga,gc,hug⟩:=u3.slice;obtain⟨nr,hnr⟩:∃q,q=rows.length:=⟨_,rfl⟩
 have hnrl:nr<=1000:=by
  rw[zH,<- hnr]at hcnt;omega
 rw[<- hnr]at hug;clear hF1 hgi hgm hcnt hol C0 HU;subst hug;have HNR:=zA hnr;have HSUB:=zA hsub;have H2:=zA u2;have H3:=zA u3;have H4:=zA u4;have H5:=zA u5;have HJ1:Hid (∃l',JS w1 F1 jb ds n c.length lks ls l'):=zA ⟨_,u1⟩;have HC1:Hid (ChR F1 w1 cv n c):=zA (HC.out.keep u2.size (fun b hb _=>⟨hsub b hb,u2.block b hb⟩));clear u1 u2 u3 u4 u5 hnr hsub HC;go_wp2_with fail;go_loopw [14] (fun k wr=>∃j:Nat,j<=nr/\k=.int .i64 j/\Hid (Fr F1 w1 wr)/\Hid (∃l',JS wr F1 jb ds n c.length lks ls l')/\Hid (∀(i:Nat) r,i<j->rows[i]?=some r->LocSol ls c r.2)) (fun k _=>nr-(intOf k).toNat)
 case atStart=>exact⟨0,zO _,rfl,zA (Fr.refl _ _),HJ1,zA (fun i r hi=>absurd hi (Nat.not_lt_zero _))⟩
 case round=>
  obtain⟨j,hj,rfl,HFR,HJ,HL⟩:=hrel;obtain⟨wx,hwx⟩:∃wx,wx=wr:=⟨_,rfl⟩
  subst hwx;by_cases hjl:j<nr
  . have hjI:(j:Int)<(nr:Int):=by omega
    obtain⟨r,hr⟩:∃r,rows[j]?=some r:=⟨_,zB (by rw[<- HNR.out];exact hjl)⟩
    obtain⟨gb,off,hga,_,_,hcell⟩:=(H3.out.fr HFR.out).get hr;subst hga;have c0:=hcell 0 _ rfl;rw[yD,yA]at c0;obtain⟨v1,v2,v3,v4,v5,v6⟩:=H5.out r (zC hr);obtain⟨l',hl'⟩:=HJ.out;have CK:=zA (HH.out wx F1 c l' cv r.2 r.1 hl' (HC1.out.keep HFR.out.size (fun b hb _=>⟨hb,HFR.out.block b hb⟩)) HAC.out (v1.fr HFR.out) v2 v3 (by omega) v5 v6);obtain⟨ra,rc,hre⟩:=v1.1.slice;obtain⟨rv,rl⟩:=r;dsimp only at CK c0 hre;subst hre;have HRJ:=zA hr;clear hcell v1 v2 v3 v4 v5 v6 hl' hr;go_wp2_with fail;refine CK.out.mono ?_;rintro e w3 ⟨rfl,hf3,hj3⟩;have HFR3:=zA (HFR.out.trans hf3);have HJ3:=zA hj3;clear hf3 hj3 CK c0;obtain⟨t,ht⟩:∃t,t=locB ls c rl:=⟨_,rfl⟩
    have HT:=zA ht;rw[<- ht];clear ht;cases t with
    |true=>
     have HL3:Hid (∀(i:Nat) r,i<j+1->rows[i]?=some r->LocSol ls c r.2):=zA (fun i r hi hr=>by
      by_cases e:i=j
      . subst e;rw[HRJ.out]at hr;injection hr with hr;rw[<- hr];exact locB_iff.1 HT.out.symm
      . exact HL.out i r (by omega) hr)
     go_wp2;go_roundw
     case rel=>exact⟨j+1,by omega,by go_num,HFR3,HJ3,HL3⟩
     case measure=>simp[intOf];omega
    |false=>
     have HE:=zA (HFIN.out w1 w3 F1 false (by
      cases hb:locB ls c X with
      |false=>rfl
      |true=>
       have h1:=H4.out.1 (locB_iff.1 hb) _ (zC HRJ.out);have h2:=locB_iff.2 h1;rw[<- HT.out]at h2;cases h2) HSUB.out H2.out HFR3.out HJ3.out)
     go_wp2;all_goals (first|(go_ret;exact HE.out)|exact HE.out)
  . have hjI:¬(j:Int)<(nr:Int):=by omega
    have HE:=zA (HFIN.out w1 wx F1 true (by
     refine(locB_iff.2 (H4.out.2 fun r hr=>?_)).symm;obtain⟨i,hi⟩:=List.getElem?_of_mem hr;have h1:=(zF.1 hi).1;rw[<- HNR.out]at h1;exact HL.out i r (by omega) hi) HSUB.out H2.out HFR.out HJ.out)
    go_wp2;all_goals (first|(go_ret;exact HE.out)|exact HE.out)
theorem choose_len(ls:List Lk)(c:Ch)(s v:Nat):(chooseC ls c s v).length=c.length:=by rw[chooseC,narrow_len,List.length_set]
theorem LinksOk.ne{ds:List Sy}{n m:Nat}{lks:List Lm}{ls:List Lk}(h:LinksOk ds n m lks ls):∀l∈ls,l.fr≠l.to:=fun l hl=>by
 obtain⟨i,hi⟩:=List.getElem?_of_mem hl;have hil:=(zF.1 hi).1;obtain⟨L,hL⟩:∃L,lks[i]?=some L:=⟨_,zB (by rw[<- h.len];exact hil)⟩
 obtain⟨h1,h2,h3,_⟩:=h.at_ i L l hL hi;rw[h1,h2];exact h3
set_option maxHeartbeats 8000000 in
theorem someOf_step{k jb:Nat}{ds:List Sy}{n:Nat}{lks:List Lm}{ls:List Lk}(hk:k<=1000)(H:SomeP k jb ds n lks ls):SomeOfP (k+1) jb ds n lks ls:=by
 intro w F c l cv G gv h hc hac hgv hne hnd hGl hG hi;obtain⟨s,R,rfl⟩:∃s R,G=s::R:=by
  cases G with
  |nil=>exact absurd rfl hne
  |cons s R=>exact⟨s,R,rfl⟩
 have hsc:=hG s (zL ..);have hloc:=loc_choose h.ok.ne hac hnd hsc hi;obtain⟨hgs,ao,cap,hge,hcap⟩:=hgv;obtain⟨nt,hnt⟩:∃q,q=R.length:=⟨_,rfl⟩
 rw[yG,<- hnt]at hge hcap;subst hge;obtain⟨g,off,hao,hFg,hgl,hcg⟩:=hgs.get (j:=0) (x:=s) rfl;subst hao;have cs:=hcg 0 _ rfl;rw[Nat.zero_mul,yA]at cs;have hRc:∀(j:Nat) x,R[j]?=some x->w.cell? ⟨g,off+1+j,none⟩=some (.int .i64 (x:Int)):=fun j x hx=>by
  obtain⟨g',off',e,_,_,hc'⟩:=hgs.get (j:=j+1) (x:=x) (by simpa using hx);injection e with e;injection e with e1 e2;subst e1 e2;have:=hc' 0 _ rfl;rw[yD,yA]at this;rw[show off+1+j=off+(j+1) by omega];exact this
 have HR1:Hid (cap=1->NatC F w (.slice (some ⟨g,off,none⟩) 0 0) R):=zA (fun hc1=>by
  have h0:R=[]:=yL.1 (by omega);subst h0;exact⟨⟨_,0,rfl,.inl rfl⟩,_,0,rfl,zD _⟩)
 have HR2:Hid (NatC F w (.slice (some ⟨g,off+1,none⟩) nt (cap-1)) R):=zA (by
  refine⟨⟨_,cap-1,by rw[hnt],.inr ⟨g,off+1,rfl,hFg,hgl,fun j x hx q u hu=>?_⟩⟩,_,cap-1,by rw[hnt],by omega⟩
  match q,hu with
  |0,hu=>
   simp at hu;subst hu;rw[yD,yA];exact hRc j x hx
  |q+1,hu=>simp at hu)
 obtain⟨rows,hrc,hsl,hat,hbd⟩:=hc.ex;have hrl:rows.length=c.length:=by rw[<- hrc,zH]
 obtain⟨r,hr⟩:∃r,rows[s]?=some r:=⟨_,zB (by omega)⟩
 have hcs:atC c s=r.2:=by unfold atC;rw[<- hrc,List.getD,zI,hr];rfl
 obtain⟨ca,cc,hcv⟩:=hsl.slice;obtain⟨nc,hnc⟩:∃q,q=rows.length:=⟨_,rfl⟩
 rw[<- hnc]at hcv;subst hcv;obtain⟨gc,ofc,hca,hFc,_,hcc⟩:=hsl.get hr;subst hca;have cr:=hcc 0 _ rfl;rw[yD,yA]at cr;have hvl:=hat r (zC hr);have hvb:=hbd r (zC hr);obtain⟨rv,VL⟩:=r;dsimp only at hcs cr hvl hvb;obtain⟨ra,rc,hre⟩:=hvl.1.slice;obtain⟨nv,hnv⟩:∃q,q=VL.length:=⟨_,rfl⟩
 rw[<- hnv]at hre;subst hre;have hnvl:nv<=10000:=by rw[hnv];exact hvb.2
 have hscI:(s:Int)<(nc:Int):=by omega
 have hsN:s<nc:=by omega
 have hcapI:(nt:Int)+1<=(cap:Int):=by omega
 have hntI:(0:Int)<(nt:Int)+1:=by omega
 have hntl:nt<=1000:=by rw[yG,<- hnt]at hGl;omega
 obtain⟨Q,hQ⟩:∃Q,Q=SomE w F jb ds n c.length lks ls (locB ls c (s::R)):=⟨_,rfl⟩
 rw[<- hQ];have HFIN:Hid (∀(wr:World) (r:Bool),r=locB ls c (s::R)->Fr F w wr->(∃l',JS wr F jb ds n c.length lks ls l')->Q (.returned (.bool r)) wr):=zA (fun wr r hr h1 h3=>by
  rw[hQ,hr];exact⟨rfl,h1,h3⟩)
 have HLOC:=zA hloc;have HVM:Hid (∀v,v∈VL↔v∈atC c s):=zA (fun v=>by rw[hcs]);have HVL:=zA hvl;have HJ0:=zA h;have HC0:=zA hc;have HAC:=zA hac;have HSC:=zA hsc;have HNV:=zA hnv;have HCR:Hid (∀W:World,Fr F w W->W.cell? ⟨gc,ofc+s,none⟩=some (.slice ra nv rc)):=zA (fun W hW=>by simpa only[World.cell?,hW.block gc hFc]using cr);have CALL:Hid (∀(W:World) (l':List Sx) (v:Nat) (rv:Value) (w3:World) (v3:Value),Fr F w W->JS W F jb ds n c.length lks ls l'->NatC F w rv R->ChoE W F jb ds n c.length lks ls v3 (chooseC ls c s v) w3->Calls Tryz.prog 101 #[.pointer (some ⟨jb,0,none⟩),v3,rv] w3 fun e w4=>e=.returned (.bool (locB ls (chooseC ls c s v) R))/\Fr F W w4/\∃l',JS w4 F jb ds n c.length lks ls l'):=zA (fun W l' v rv w3 v3 hW hJ hrv hch=>by
  obtain⟨F',l3,e1,e2,e3,e4⟩:=hch;have hl3:=choose_len ls c s v;have e3':=e3;rw[<- hl3]at e3';refine(H w3 F' (chooseC ls c s v) l3 v3 R rv e3' e4 (by rw[hl3];omega) (narrow_ac _ _) ((hrv.fr (hW.trans e2)).sub (fun q hq _=>e1 q hq)) (List.nodup_cons.1 hnd).2 (by rw[yG]at hGl;omega) (fun x hx=>by rw[hl3];exact hG x (zP _ hx)) (iso_choose hsc hi)).mono ?_;rintro e w4 ⟨he,hf,l4,hj4⟩;rw[hl3]at hj4;have hf2:=e2.trans (hf.sub e1);exact⟨he,hf2,l4,hJ.sub hf2 hj4 e1⟩)
 have HLOW:=zA h.low;clear hQ h hc hac hne hnd hGl hG hi hsc hloc hgs hcg hRc hrc hsl hat hbd hrl hr hcs hcc hvl hvb hnv hnc hnt hFg hFc;go_enter Tryz.func132,Tryz.ntmps132;go_upto_region 1 with fail;go_cut [7,8] (fun s7 s8 wz=>s7=.int .i64 (s:Int)/\Hid (NatC F w s8 R)/\Hid (Below w.heap.size w wz))
 case first=>
  by_cases hc1:cap=1
  . have HQ:=zA (HR1.out hc1);subst hc1;have hnt0:nt=0:=by omega
    subst hnt0;go_quiet (fail);refine Met.intro ?_;go_step
    apply_assumption
    (repeat apply Exists.intro)
    refine⟨?_,rfl⟩;exact⟨rfl,HQ,zA ⟨rfl,rfl,rfl,zD _,fun _ _=>rfl⟩⟩
  . have hc2:¬(cap:Int)=1:=by omega
    go_quiet (fail);refine Met.intro ?_;go_step
    apply_assumption
    (repeat apply Exists.intro)
    refine⟨?_,rfl⟩;exact⟨rfl,HR2,zA ⟨rfl,rfl,rfl,zD _,fun _ _=>rfl⟩⟩
 case rest=>
 obtain⟨rfl,HRV,HB⟩:=hcut;obtain⟨wb,hwb⟩:∃W,W=wc:=⟨_,rfl⟩
 subst hwb;have HF0:Hid (Fr F w wb):=zA (fr_below HLOW.out HB.out);have HJ1:Hid (∃l',JS wb F jb ds n c.length lks ls l'):=zA ⟨_,HJ0.out.below HB.out⟩;have cr2:=HCR.out wb HF0.out;clear HB cs cr;go_wp2_with fail;go_loopw [21] (fun k wr=>∃j:Nat,j<=nv/\k=.int .i64 j/\Hid (Fr F w wr)/\Hid (∃l',JS wr F jb ds n c.length lks ls l')/\Hid (∀(i:Nat) v,i<j->VL[i]?=some v->¬LocSol ls (chooseC ls c s v) R)) (fun k _=>nv-(intOf k).toNat)
 case atStart=>exact⟨0,zO _,rfl,HF0,HJ1,zA (fun i v hi=>absurd hi (Nat.not_lt_zero _))⟩
 case round=>
  obtain⟨j,hj,rfl,HFR,HJ,HL⟩:=hrel;obtain⟨wx,hwx⟩:∃wx,wx=wr:=⟨_,rfl⟩
  subst hwx;by_cases hjl:j<nv
  . have hjI:(j:Int)<(nv:Int):=by omega
    obtain⟨v,hv⟩:∃v,VL[j]?=some v:=⟨_,zB (by rw[<- HNV.out];exact hjl)⟩
    obtain⟨gb,ofb,hra,_,_,hcell⟩:=(HVL.out.1.fr HFR.out).get hv;subst hra;have c0:=hcell 0 _ rfl;rw[yD,yA]at c0;obtain⟨l',hl'⟩:=HJ.out;have CK:=zA (choose_any hl' (HC0.out.keep HFR.out.size (fun b hb _=>⟨hb,HFR.out.block b hb⟩)) HSC.out ((HVM.out v).1 (zC hv)) HAC.out);have CA:=zA (fun w3 v3 hch=>CALL.out wx l' v u8 w3 v3 HFR.out hl' HRV.out hch);have HVJ:=zA hv;clear hcell hl' hv;go_wp2_with fail;refine CK.out.mono ?_;rintro e w3 ⟨v3,rfl,hch⟩;have CB:=zA (CA.out w3 v3 hch);clear hch CK CA c0;go_wp2_with fail;refine CB.out.mono ?_;rintro e w4 ⟨rfl,hf4,hj4⟩;have HFR4:=zA (HFR.out.trans hf4);have HJ4:=zA hj4;clear hf4 hj4 CB;obtain⟨t,ht⟩:∃t,t=locB ls (chooseC ls c s v) R:=⟨_,rfl⟩
    have HT:=zA ht;rw[<- ht];clear ht;cases t with
    |true=>
     have HE:=zA (HFIN.out w4 true (locB_iff.2 (HLOC.out.2 ⟨v,(HVM.out v).1 (zC HVJ.out),locB_iff.1 HT.out.symm⟩)).symm HFR4.out HJ4.out);go_wp2;all_goals (first|(go_ret;exact HE.out)|exact HE.out)
    |false=>
     have HL4:Hid (∀(i:Nat) v,i<j+1->VL[i]?=some v->¬LocSol ls (chooseC ls c s v) R):=zA (fun i v' hi hv'=>by
      by_cases e:i=j
      . subst e;rw[HVJ.out]at hv';injection hv' with hv';rw[<- hv'];intro hsol;have h2:=locB_iff.2 hsol;rw[<- HT.out]at h2;cases h2
      . exact HL.out i v' (by omega) hv')
     go_wp2;go_roundw
     case rel=>exact⟨j+1,by omega,by go_num,HFR4,HJ4,HL4⟩
     case measure=>simp[intOf];omega
  . have hjI:¬(j:Int)<(nv:Int):=by omega
    have HE:=zA (HFIN.out wx false (by
     cases hb:locB ls c (s::R)with
     |false=>rfl
     |true=>
      obtain⟨v,hv,hsol⟩:=HLOC.out.1 (locB_iff.1 hb);obtain⟨i,hi⟩:=List.getElem?_of_mem ((HVM.out v).2 hv);have h1:=(zF.1 hi).1;rw[<- HNV.out]at h1;exact absurd hsol (HL.out i v (by omega) hi)) HFR.out HJ.out)
    go_wp2;all_goals (first|(go_ret;exact HE.out)|exact HE.out)
theorem someOf_none{jb:Nat}{ds:List Sy}{n:Nat}{lks:List Lm}{ls:List Lk}:SomeOfP 0 jb ds n lks ls:=by
 intro w F c l cv G gv _ _ _ _ hne _ hl;exact absurd (yL.1 (by omega)) hne
theorem some_any{jb:Nat}{ds:List Sy}{n:Nat}{lks:List Lm}{ls:List Lk}:∀(k:Nat),k<=1000->SomeOfP k jb ds n lks ls/\SomeP k jb ds n lks ls
 |0,_=>⟨someOf_none,some_step (by omega) someOf_none⟩
 |k+1,hk=>by
  have h1:=someOf_step (jb:=jb) (ds:=ds) (n:=n) (lks:=lks) (ls:=ls) (by omega) (some_any k (by omega)).2;exact⟨h1,some_step hk h1⟩
abbrev UL(l:List Sx)(k:Nat):Prop:=∀x∈l,¬OwnX x k
structure Jv where
 sv:Value
 av:Value
 vv:Value
 lv:Value
 rv:Value
 cv:Value
 fv:Value
def Jv.cells(J:Jv):Array Value:=#[J.sv,J.av,J.vv,J.lv,J.rv,J.cv,J.fv]
def Jv.with(J:Jv)(v:Value):Jv:={ J with fv:=v }
structure Jz (F:Nat->Prop) (w:World) (jb:Nat) (J:Jv) (ds:List Sy) (n m:Nat) (lks:List Lm) (ls:List Lk) (us:List Nat) (l:List Sx):Prop where
 pool:Pool w l
 like:l.map syOf=ds
 tab:TabG w
 f0:F 0
 low:Low F w
 un:∀k,F k->UL l k
 ju:UL l jb
 jF:¬F jb
 jk:∀y∈ds,¬y.2.kp jb
 blk:w.heap[jb]?=some (.cells J.cells 134 (0,0))
 lk:SlS csL 4 F w J.lv lks
 al:NatC F w J.av (List.range m)
 va:NatC F w J.vv us
 ll:lks.length<=1000
 ok:LinksOk ds n m lks ls
 nn:n<=10000
 mm:m<=1000
 ul:us.length<=1000
section
variable {F:Nat->Prop} {w w':World} {jb:Nat} {J J':Jv} {ds:List Sy} {n m:Nat} {lks:List Lm} {ls:List Lk} {us:List Nat} {l l':List Sx}
theorem Jz.lt(h:Jz F w jb J ds n m lks ls us l):jb<w.heap.size:=lt_of_block h.blk
theorem Jz.cell(h:Jz F w jb J ds n m lks ls us l):w.cell? ⟨jb,1,none⟩=some J.av/\w.cell? ⟨jb,2,none⟩=some J.vv/\w.cell? ⟨jb,3,none⟩=some J.lv/\w.cell? ⟨jb,4,none⟩=some J.rv/\w.cell? ⟨jb,5,none⟩=some J.cv/\w.cell? ⟨jb,6,none⟩=some J.fv/\w.frozen? ⟨jb,6,none⟩=false:=by
 simp[World.cell?,World.frozen?,h.blk,Jv.cells]
theorem Jz.js(h:Jz F w jb J ds n m lks ls us l):JS w (fun k=>k<w.heap.size/\UL l k) jb ds n m lks ls l:=
 ⟨h.pool,h.like,fun _ hk=>hk.1,fun _ hk=>hk.2,h.tab,⟨h.low 0 h.f0,h.un 0 h.f0⟩,⟨h.lt,h.ju⟩,⟨J.lv,h.cell.2.2.1,h.lk.sub (fun k hk hl=>⟨hl,h.un k hk⟩)⟩,h.ll,h.ok,h.nn,h.mm⟩
theorem Jz.call{T:Nat->Prop}(h:Jz F w jb J ds n m lks ls us l)(hf:Fr (fun k=>k<w.heap.size/\UL l k) w w')(h1:JS w' T jb ds n m lks ls l')(hs:∀k,k<w.heap.size->UL l k->T k):Jz F w' jb J ds n m lks ls us l':=by
 have hF:Fr F w w':=hf.sub (fun k hk=>⟨h.low k hk,h.un k hk⟩);exact⟨h1.pool,h1.like,h1.tab,h.f0,h.low.fr hF,fun k hk=>h1.un k (hs k (h.low k hk) (h.un k hk)),h1.un jb (hs jb h.lt h.ju),h.jF,h.jk,(hf.block jb ⟨h.lt,h.ju⟩).trans h.blk,h.lk.fr hF,h.al.fr hF,h.va.fr hF,h.ll,h.ok,h.nn,h.mm,h.ul⟩
theorem Jz.kp(h:Jz F w jb J ds n m lks ls us l){x:Sx}(hx:x∈l):syOf x∈ds:=by
 rw[<- h.like];exact zW hx
theorem Jz.write{M:Nat->Prop}(h:Jz F w jb J ds n m lks ls us l)(hz:w.heap.size<=w'.heap.size)(ho:w'.os=w.os)(ht:w'.tape=w.tape)(hu:w'.output=w.output)(hk:∀k,k<w.heap.size->k≠jb->¬M k->w'.heap[k]?=w.heap[k]?)(hM:∀k,M k->UL l k/\¬F k/\∀y∈ds,¬y.2.kp k)
 (hj:w'.heap[jb]?=some (.cells J'.cells 134 (0,0))) (e1:J'.lv=J.lv) (e2:J'.av=J.av) (e3:J'.vv=J.vv):Jz F w' jb J' ds n m lks ls us l:=by
 have hF:Fr F w w':=⟨ho,ht,hu,hz,fun k hk2=>hk k (h.low k hk2) (fun e=>h.jF (e▸hk2)) (fun hm=>(hM k hm).2.1 hk2)⟩
 refine⟨h.pool.keep hz (fun x hx k hk2=>?_),h.like,h.tab.fr h.f0 hF,h.f0,h.low.fr hF,h.un,h.ju,h.jF,h.jk,hj,?_,?_,?_,h.ll,h.ok,h.nn,h.mm,h.ul⟩
 . rcases hk2 with h1|h1
   . exact hk k (h.pool.own_lt hx h1) (fun e=>h.ju x hx (e▸h1)) (fun hm=>(hM k hm).1 x hx h1)
   . exact hk k (h.pool.kp_lt hx h1) (fun e=>h.jk _ (h.kp hx) (e▸h1)) (fun hm=>(hM k hm).2.2 _ (h.kp hx) h1)
 . rw[e1];exact h.lk.fr hF
 . rw[e2];exact h.al.fr hF
 . rw[e3];exact h.va.fr hF
theorem Jz.fresh(h:Jz F w jb J ds n m lks ls us l){k:Nat}(hk:w.heap.size<=k):UL l k/\¬F k/\k≠jb/\∀y∈ds,¬y.2.kp k:=by
 refine⟨fun x hx ho=>?_,fun hf=>?_,fun e=>?_,fun y hy hkp=>?_⟩
 . have:=h.pool.own_lt hx ho;omega
 . have:=h.low k hf;omega
 . have:=h.lt;omega
 . rw[<- h.like]at hy;obtain⟨x,hx,rfl⟩:=zV.1 hy;have:=h.pool.kp_lt hx hkp;omega
def Mine(F:Nat->Prop)(w:World)(jb:Nat)(ds:List Sy)(l:List Sx)(X:Nat->Prop):Prop:=∀k,X k->k<w.heap.size/\UL l k/\¬F k/\k≠jb/\∀y∈ds,¬y.2.kp k
def FoS(w:World)(X:Nat->Prop)(fv:Value)(fl:List (List Nat)):Prop:=
 ∃rows:List (Value×List Nat),rows.map (·.2)=fl/\w.ownsRow 0 59 1 fv rows.length (rows.flatMap csRow)/\(∀g,fv.ownBlock=some g->X g)/\∀r∈rows,NatC (fun k=>X k/\fv.ownBlock≠some k) w r.1 r.2
theorem FoS.keep{X:Nat->Prop}{fv:Value}{fl:List (List Nat)}(h:FoS w X fv fl)(hz:w.heap.size<=w'.heap.size)(hk:∀k,X k->w'.heap[k]?=w.heap[k]?):FoS w' X fv fl:=by
 obtain⟨rows,h1,h2,h3,h4⟩:=h;exact⟨rows,h1,owns_key h2 (fun g o hg ho=>(hk g (h3 g hg)).trans ho),h3,fun r hr=>(h4 r hr).keep hz (fun k hk2 _=>⟨hk2,hk k hk2.1⟩)⟩
structure FFr (w w':World) (l l':List Sx) (M:Nat->Prop):Prop where
 os:w'.os=w.os
 tape:w'.tape=w.tape
 output:w'.output=w.output
 size:w.heap.size<=w'.heap.size
 keep:∀k,k<w.heap.size->UL l k->¬M k->w'.heap[k]?=w.heap[k]?
 un:∀k,k<w.heap.size->UL l k->UL l' k
theorem FFr.refl(w:World)(l:List Sx)(M:Nat->Prop):FFr w w l l M:=⟨rfl,rfl,rfl,zD _,fun _ _ _ _=>rfl,fun _ _ h=>h⟩
theorem FFr.mono{M M2:Nat->Prop}(h:FFr w w' l l' M)(hM:∀k,M k->M2 k):FFr w w' l l' M2:=⟨h.os,h.tape,h.output,h.size,fun k hk hu hm=>h.keep k hk hu (fun h2=>hm (hM k h2)),h.un⟩
theorem FFr.trans{w2:World}{l2:List Sx}{M M2:Nat->Prop}(h:FFr w w' l l' M)(h2:FFr w' w2 l' l2 M2)(hM:∀k,M2 k->M k\/w.heap.size<=k):FFr w w2 l l2 M:=
 ⟨h2.os.trans h.os,h2.tape.trans h.tape,h2.output.trans h.output,zT h.size h2.size,fun k hk hu hm=>(h2.keep k (zQ hk h.size) (h.un k hk hu) (fun h3=>(hM k h3).elim hm (fun h4=>by omega))).trans (h.keep k hk hu hm),fun k hk hu=>h2.un k (zQ hk h.size) (h.un k hk hu)⟩
theorem FFr.call{T:Nat->Prop}{M:Nat->Prop}(hf:Fr (fun k=>k<w.heap.size/\UL l k) w w')(h1:JS w' T jb ds n m lks ls l')(hs:∀k,k<w.heap.size->UL l k->T k):FFr w w' l l' M:=
 ⟨hf.os,hf.tape,hf.output,hf.size,fun k hk hu _=>hf.block k ⟨hk,hu⟩,fun k hk hu=>h1.un k (hs k hk hu)⟩
end
structure FI (F:Nat->Prop) (w:World) (jb:Nat) (J:Jv) (ds:List Sy) (n m:Nat) (lks:List Lm) (ls:List Lk) (us:List Nat) (l:List Sx) (X C:Nat->Prop) (cv:Value) (c:Ch) (rv:Value) (row:List Nat) (fl:List (List Nat)):Prop where
 jz:Jz F w jb J ds n m lks ls us l
 xm:Mine F w jb ds l X
 fo:FoS w X J.fv fl
 row:QRow 0 w rv row
 rm:Mine F w jb ds l (QB rv)
 rx:∀k,QB rv k->¬X k
 ch:ChR C w cv n c
 cm:∀k,C k->k<w.heap.size/\UL l k/\k≠jb/\¬X k/\¬QB rv k
 ac:AC ls c
 cl:c.length=m
 m0:0<m
 fle:fl.length<=4096
abbrev FM(jb:Nat)(X:Nat->Prop)(rv:Value)(k:Nat):Prop:=k=jb\/X k\/QB rv k
structure FO (F:Nat->Prop) (w:World) (jb:Nat) (J:Jv) (ds:List Sy) (n m:Nat) (lks:List Lm) (ls:List Lk) (us:List Nat) (l:List Sx) (X:Nat->Prop) (rv:Value) (row:List Nat) (fl:List (List Nat)) (w':World):Prop where
 ex:∃fv' l' X',Jz F w' jb (J.with fv') ds n m lks ls us l'/\Mine F w' jb ds l' X'/\FoS w' X' fv' fl/\QRow 0 w' rv row/\(∀k,X' k->X k\/w.heap.size<=k)/\FFr w w' l l' (FM jb X rv)
def FilE(F:Nat->Prop)(w:World)(jb:Nat)(J:Jv)(ds:List Sy)(n m:Nat)(lks:List Lm)(ls:List Lk)(us:List Nat)(l:List Sx)(X:Nat->Prop)(rv:Value)(row:List Nat)(fl R:List (List Nat))(e:Ending)(w':World):Prop:=
 e=.returned (.bool (decide ((fl++R).length<=4096)))/\FO F w jb J ds n m lks ls us l X rv row ((fl++R).take 4097) w'
def FillP(k:Nat)(F:Nat->Prop)(jb:Nat)(ds:List Sy)(n m:Nat)(lks:List Lm)(ls:List Lk)(us:List Nat):Prop:=
 ∀(w:World) (J:Jv) (l:List Sx) (X C:Nat->Prop) (cv:Value) (c:Ch) (rv:Value) (row:List Nat) (fl:List (List Nat)) (us0 rest:List Nat),us=us0++rest->row.length=us0.length->rest.length<=k->FI F w jb J ds n m lks ls us l X C cv c rv row fl->
  Calls Tryz.prog 78 #[.pointer (some ⟨jb,0,none⟩),cv,rv] w (FilE F w jb J ds n m lks ls us l X rv row fl (fillL ls m rest c row))
section
variable {F:Nat->Prop} {w w':World} {jb:Nat} {J J':Jv} {ds:List Sy} {n m:Nat} {lks:List Lm} {ls:List Lk} {us:List Nat} {l l':List Sx} {X C:Nat->Prop} {cv rv:Value} {c:Ch} {row:List Nat} {fl:List (List Nat)}
theorem FI.call{T:Nat->Prop}(h:FI F w jb J ds n m lks ls us l X C cv c rv row fl)(hf:Fr (fun k=>k<w.heap.size/\UL l k) w w')(h1:JS w' T jb ds n m lks ls l')(hs:∀k,k<w.heap.size->UL l k->T k):FI F w' jb J ds n m lks ls us l' X C cv c rv row fl:=by
 have hff:FFr w w' l l' (fun _=>False):=FFr.call hf h1 hs;have hmine:∀Y,Mine F w jb ds l Y->Mine F w' jb ds l' Y:=fun Y hY k hk=>by
  obtain⟨a1,a2,a3⟩:=hY k hk;exact⟨zQ a1 hf.size,hff.un k a1 a2,a3⟩
 refine⟨h.jz.call hf h1 hs,hmine _ h.xm,h.fo.keep hf.size (fun k hk=>hf.block k ⟨(h.xm k hk).1,(h.xm k hk).2.1⟩),h.row.keep (fun g _ hg=>hf.block g ⟨(h.rm g hg).1,(h.rm g hg).2.1⟩),hmine _ h.rm,h.rx,h.ch.keep hf.size (fun b hb _=>⟨hb,hf.block b ⟨(h.cm b hb).1,(h.cm b hb).2.1⟩⟩),fun k hk=>?_,h.ac,h.cl,h.m0,h.fle⟩;obtain⟨a1,a2,a3⟩:=h.cm k hk;exact⟨zQ a1 hf.size,hff.un k a1 a2,a3⟩
theorem FI.nothing{T:Nat->Prop}(h:FI F w jb J ds n m lks ls us l X C cv c rv row fl)(hf:Fr (fun k=>k<w.heap.size/\UL l k) w w')(h1:JS w' T jb ds n m lks ls l')(hs:∀k,k<w.heap.size->UL l k->T k):FO F w jb J ds n m lks ls us l X rv row fl w':=by
 have h2:=h.call hf h1 hs;exact⟨J.fv,l',X,h2.jz,h2.xm,h2.fo,h2.row,fun k hk=>.inl hk,FFr.call hf h1 hs⟩
end
theorem QRow.slice{B:Nat}{w:World}{u:Value}{L:List Nat}(h:QRow B w u L):∃ao cap,u=.slice ao L.length cap:=by
 rcases h with⟨rfl,rfl⟩|⟨g,off,cap,cur,rfl,_⟩
 . exact⟨none,0,rfl⟩
 . exact⟨_,cap,rfl⟩
theorem LinksOk.lt{ds:List Sy}{n m:Nat}{lks:List Lm}{ls:List Lk}(h:LinksOk ds n m lks ls):∀l∈ls,l.fr<m/\l.to<m:=fun l hl=>by
 obtain⟨i,hi⟩:=List.getElem?_of_mem hl;have hil:=(zF.1 hi).1;obtain⟨L,hL⟩:∃L,lks[i]?=some L:=⟨_,zB (by rw[<- h.len];exact hil)⟩
 obtain⟨h1,h2,_,h3,h4,_⟩:=h.at_ i L l hL hi;rw[h1,h2];exact⟨h3,h4⟩
section
variable {F:Nat->Prop} {w w':World} {jb:Nat} {J J':Jv} {ds:List Sy} {n m:Nat} {lks:List Lm} {ls:List Lk} {us:List Nat} {l l':List Sx} {X C:Nat->Prop} {cv rv:Value} {c:Ch} {row:List Nat} {fl:List (List Nat)}
theorem FI.drew(h:FI F w jb J ds n m lks ls us l X C cv c rv row fl):FI F w.drew jb J ds n m lks ls us l X C cv c rv row fl:=
 h.call (T:=fun k=>k<w.heap.size/\UL l k) ⟨rfl,rfl,rfl,zD _,fun _ _=>rfl⟩ (h.jz.js.below (zE _ _).drew) (fun _ h1 h2=>⟨h1,h2⟩)
theorem FFr.drew{M:Nat->Prop}(h:FFr w w' l l' M):FFr w w'.drew l l' M:=⟨h.os,h.tape,h.output,h.size,h.keep,h.un⟩
theorem FI.ask(h:FI F w jb J ds n m lks ls us l X C cv c rv row fl):Calls Tryz.prog 101 #[.pointer (some ⟨jb,0,none⟩),cv,J.av] w (SomE w (fun k=>k<w.heap.size/\UL l k) jb ds n m lks ls (locB ls c (List.range m))):=by
 have hm:=h.jz.mm;have hcl:=h.cl;have hj:=h.jz.js;rw[<- hcl]at hj;have C0:=(some_any (jb:=jb) (ds:=ds) (n:=n) (lks:=lks) (ls:=ls) 1000 (by omega)).2 w (fun k=>k<w.heap.size/\UL l k) c l cv (List.range m) J.av hj (h.ch.keep (zD _) (fun b hb _=>⟨⟨(h.cm b hb).1,(h.cm b hb).2.1⟩,rfl⟩)) (by rw[hcl];exact h.m0) h.ac (h.jz.al.sub (fun b hb hl=>⟨hl,h.jz.un b hb⟩)) List.nodup_range (by simpa using hm) (fun x hx=>by rw[hcl];exact yJ.1 hx) (fun l hl=>⟨fun _ hn=>absurd (yJ.2 (h.jz.ok.lt l hl).2) hn,fun _ hn=>absurd (yJ.2 (h.jz.ok.lt l hl).1) hn⟩);rw[hcl]at C0;exact C0
theorem FI.leaf{wz w9:World}{nv fv9:Value}{rows:List (Value×List Nat)}(h:FI F w jb J ds n m lks ls us l X C cv c rv row fl)(hrc:rows.map (·.2)=fl)(hfo:∀g,J.fv.ownBlock=some g->X g)(hats:∀r∈rows,NatC (fun k=>X k/\J.fv.ownBlock≠some k) w r.1 r.2)
 (hb:Below w.heap.size w wz) (hnv:NatC (fun k=>nv.ownBlock=some k) wz nv row) (hnb:∀k,nv.ownBlock=some k->w.heap.size<=k/\k<wz.heap.size)
 (ho:w9.os=wz.os) (ht:w9.tape=wz.tape) (hu:w9.output=wz.output) (hz:wz.heap.size<=w9.heap.size) (hk:∀k,k<wz.heap.size->J.fv.ownBlock≠some k->w9.heap[k]?=wz.heap[k]?)
 (hown:w9.ownsRow 0 59 1 fv9 (rows.length+1) (rows.flatMap csRow++[nv])) (hbk:∀g,fv9.ownBlock=some g->J.fv.ownBlock=some g\/wz.heap.size<=g):
 FO F w jb J ds n m lks ls us l X rv row (fl++[row]) (w9.setCell ⟨jb,6,none⟩ fv9):=by
 have hjl:=h.jz.lt;have hzs:=hb.size;have hjx:J.fv.ownBlock≠some jb:=fun e=>(h.xm jb (hfo jb e)).2.2.2.1 rfl
 have hj9:w9.heap[jb]?=some (.cells J.cells 134 (0,0)):=(hk jb (by omega) hjx).trans ((hb.block jb hjl).trans h.jz.blk);have hset:∀k,k≠jb->(w9.setCell ⟨jb,6,none⟩ fv9).heap[k]?=w9.heap[k]?:=fun k hk2=>zN _ _ _ _ hk2
 have hsz:(w9.setCell ⟨jb,6,none⟩ fv9).heap.size=w9.heap.size:=by simp
 have hold:∀k,k<w.heap.size->k≠jb->¬X k->(w9.setCell ⟨jb,6,none⟩ fv9).heap[k]?=w.heap[k]?:=fun k h1 h2 h3=>(hset k h2).trans ((hk k (by omega) (fun e=>h3 (hfo k e))).trans (hb.block k h1))
 have hjn:(w9.setCell ⟨jb,6,none⟩ fv9).heap[jb]?=some (.cells (J.with fv9).cells 134 (0,0)):=by
  simp[World.setCell,Array.getElem?_modify,hj9,Jv.cells,Jv.with]
 have hnew:∀k,(nv.ownBlock=some k\/fv9.ownBlock=some k)->X k\/w.heap.size<=k:=fun k hk2=>by
  rcases hk2 with h1|h1
  . exact .inr (hnb k h1).1
  . rcases hbk k h1 with h2|h2
    . exact .inl (hfo k h2)
    . exact .inr (by omega)
 have hlt9:∀k,fv9.ownBlock=some k->k<w9.heap.size:=fun k hk2=>(hown.lt k hk2).2
 refine⟨fv9,l,fun k=>X k\/nv.ownBlock=some k\/fv9.ownBlock=some k,?_,fun k hk2=>?_,?_,?_,fun k hk2=>?_,?_⟩
 . exact h.jz.write (M:=X) (by rw[hsz];omega) (ho.trans hb.os) (ht.trans hb.tape) (hu.trans hb.output) hold (fun k hk2=>⟨(h.xm k hk2).2.1,(h.xm k hk2).2.2.1,(h.xm k hk2).2.2.2.2⟩) hjn rfl rfl rfl
 . have hx:X k\/w.heap.size<=k:=hk2.elim .inl (fun h1=>hnew k h1);have hsl:k<(w9.setCell ⟨jb,6,none⟩ fv9).heap.size:=by
    rw[hsz];rcases hk2 with h1|h1|h1
    . have:=(h.xm k h1).1;omega
    . have:=(hnb k h1).2;omega
    . exact hlt9 k h1
   rcases hx with h1|h1
   . obtain⟨_,a2,a3⟩:=h.xm k h1;exact⟨hsl,a2,a3⟩
   . obtain⟨a1,a2,a3,a4⟩:=h.jz.fresh h1;exact⟨hsl,a1,a2,a3,a4⟩
 . refine⟨rows++[(nv,row)],by rw[yK,hrc];rfl,?_,fun g hg=>.inr (.inr hg),fun r hr=>?_⟩
   . rw[zG,zR];refine owns_key hown (fun g o hg ho2=>(hset g (fun e=>?_)).trans ho2);rcases hbk g hg with h1|h1
     . exact hjx (e▸h1)
     . omega
   . rcases zM.1 hr with hr|hr
     . refine(hats r hr).keep (by rw[hsz];omega) (fun k hk2 hkl=>?_);have hxk:=h.xm k hk2.1;refine⟨⟨.inl hk2.1,fun e=>?_⟩,(hset k hxk.2.2.2.1).trans ((hk k (by omega) hk2.2).trans (hb.block k hkl))⟩;rcases hbk k e with h1|h1
       . exact hk2.2 h1
       . omega
     . rw[zK.1 hr];refine hnv.keep (by rw[hsz];omega) (fun k hk2 hkl=>?_);have hn:=hnb k hk2;refine⟨⟨.inr (.inl hk2),fun e=>?_⟩,(hset k (by omega)).trans (hk k hkl (fun e=>?_))⟩
       . rcases hbk k e with h1|h1
         . have:=(h.xm k (hfo k h1)).1;omega
         . omega
       . have:=(h.xm k (hfo k e)).1;omega
 . exact h.row.keep (fun g _ hg=>hold g (h.rm g hg).1 (h.rm g hg).2.2.2.1 (h.rx g hg))
 . exact hk2.elim .inl (fun h1=>hnew k h1)
 . exact⟨ho.trans hb.os,ht.trans hb.tape,hu.trans hb.output,by rw[hsz];omega,fun k h1 _ h3=>hold k h1 (fun e=>h3 (.inl e)) (fun e=>h3 (.inr (.inl e))),fun k _ hu2=>hu2⟩
theorem FI.down{v3:Value}{c':Ch}{w3:World}(h:FI F w jb J ds n m lks ls us l X C cv c rv row fl)(hc:ChoC w C (fun k=>k<w.heap.size/\UL l k) jb ds n m lks ls v3 c' w3):
 ∃l3 C',FI F w3 jb J ds n m lks ls us l3 X C cv c rv row fl/\ChR C' w3 v3 n c'/\(∀k,C' k->k<w3.heap.size/\UL l3 k/\k≠jb/\¬X k/\¬QB rv k)/\FFr w w3 l l3 (fun _=>False):=by
 obtain⟨F',C',l3,e1,e2,e3,e4,e5,e6⟩:=hc;refine⟨l3,C',h.call e2 e3 (fun k hk hu=>e1 k ⟨hk,hu⟩),e4,fun k hk=>?_,FFr.call e2 e3 (fun k hk hu=>e1 k ⟨hk,hu⟩)⟩;refine⟨e3.low k (e5 k hk),e3.un k (e5 k hk),?_⟩;rcases e6 k hk with h1|h1
 . exact(h.cm k h1).2.2
 . refine⟨(h.jz.fresh h1).2.2.1,fun hx=>?_,fun hq=>?_⟩
   . have:=(h.xm k hx).1;omega
   . have:=(h.rm k hq).1;omega
theorem FI.app{C':Nat->Prop}{v3 rv4:Value}{c':Ch}{w4:World}{x:Nat}(h:FI F w jb J ds n m lks ls us l X C cv c rv row fl)(hch:ChR C' w v3 n c')(hcm:∀k,C' k->k<w.heap.size/\UL l k/\k≠jb/\¬X k/\¬QB rv k)(hac:AC ls c')(hcl:c'.length=m)
 (q1:QRow 0 w4 rv4 (row++[x])) (q2:w.heap.size<=w4.heap.size) (q3:w4.os=w.os) (q4:w4.tape=w.tape) (q5:w4.output=w.output) (q6:∀k,k<w.heap.size->¬QB rv k->w4.heap[k]?=w.heap[k]?) (q7:∀k,QB rv4 k->QB rv k\/(w.heap.size<=k/\k<w4.heap.size)):
 FI F w4 jb J ds n m lks ls us l X C' v3 c' rv4 (row++[x]) fl/\FFr w w4 l l (QB rv):=by
 have hjq:¬QB rv jb:=fun hq=>(h.rm jb hq).2.2.2.1 rfl
 refine⟨⟨?_,fun k hk=>?_,h.fo.keep q2 (fun k hk=>q6 k (h.xm k hk).1 (fun hq=>h.rx k hq hk)),q1,fun k hk=>?_,fun k hk hx=>?_,hch.keep q2 (fun b hb hl=>⟨hb,q6 b hl (hcm b hb).2.2.2.2⟩),fun k hk=>?_,hac,hcl,h.m0,h.fle⟩,⟨q3,q4,q5,q2,fun k hk _ hq=>q6 k hk hq,fun _ _ hu=>hu⟩⟩
 . exact h.jz.write (M:=QB rv) q2 q3 q4 q5 (fun k hk _ hq=>q6 k hk hq) (fun k hk=>⟨(h.rm k hk).2.1,(h.rm k hk).2.2.1,(h.rm k hk).2.2.2.2⟩) ((q6 jb h.jz.lt hjq).trans h.jz.blk) rfl rfl rfl
 . obtain⟨a1,a2⟩:=h.xm k hk;exact⟨zQ a1 q2,a2⟩
 . rcases q7 k hk with h1|h1
   . obtain⟨a1,a2⟩:=h.rm k h1;exact⟨zQ a1 q2,a2⟩
   . obtain⟨a1,a2,a3,a4⟩:=h.jz.fresh h1.1;exact⟨h1.2,a1,a2,a3,a4⟩
 . rcases q7 k hk with h1|h1
   . exact h.rx k h1 hx
   . have:=(h.xm k hx).1;omega
 . obtain⟨a1,a2,a3,a4,a5⟩:=hcm k hk;refine⟨zQ a1 q2,a2,a3,a4,fun hq=>?_⟩;rcases q7 k hq with h1|h1
   . exact a5 h1
   . omega
theorem FI.lift{rv4:Value}{w4 w5:World}{l4:List Sx}{x:Nat}{fl5:List (List Nat)}(h:FI F w jb J ds n m lks ls us l X C cv c rv row fl)(hf:FFr w w4 l l4 (QB rv))(q1:QRow 0 w4 rv row)(q7:∀k,QB rv4 k->QB rv k\/w.heap.size<=k)(q8:QExt rv rv4 row.length)
 (h5:FO F w4 jb J ds n m lks ls us l4 X rv4 (row++[x]) fl5 w5):FO F w jb J ds n m lks ls us l X rv row fl5 w5:=by
 obtain⟨fv5,l5,X5,a1,a2,a3,a4,a5,a6⟩:=h5.ex;refine⟨fv5,l5,X5,a1,a2,a3,?_,fun k hk=>?_,(hf.mono (fun k hk=>.inr (.inr hk))).trans a6 (fun k hk=>?_)⟩
 . rcases q1 with q1|⟨g,off,cap,cur,e1,e2,e3,e4,e5,e6⟩
   . exact .inl q1
   . have hg:QB rv g:=⟨off,_,cap,e1⟩
     have hgm:=h.rm g hg;by_cases h4:QB rv4 g
     . obtain⟨off2,c2,f1,f2⟩:=q8 g hg h4;rcases a4 with⟨b1,_⟩|⟨g5,off5,cap5,cur5,b1,b2,b3,b4,b5,b6⟩
       . rw[f2]at b1;cases b1
       . rw[f2]at b1;injection b1 with b1 b7 b8;injection b1 with b1;injection b1 with b1 b9;subst b1 b8 b9;refine .inr ⟨g,off2,c2,cur5,f1,zO _,b3,b4,?_,fun j z hz=>?_⟩
         . rw[zG]at b5;omega
         . have hj:=(zF.1 hz).1;exact b6 j z (by rw[yH hj];exact hz)
     . refine .inr ⟨g,off,cap,cur,e1,e2,?_,e4,e5,e6⟩;refine(a6.keep g (lt_of_block e3) (hf.un g hgm.1 hgm.2.1) (fun hm=>?_)).trans e3;rcases hm with hm|hm|hm
       . exact hgm.2.2.2.1 hm
       . exact h.rx g hg hm
       . exact h4 hm
 . rcases a5 k hk with h1|h1
   . exact .inl h1
   . have:=hf.size;exact .inr (by omega)
 . rcases hk with hk|hk|hk
   . exact .inl (.inl hk)
   . exact .inl (.inr (.inl hk))
   . exact(q7 k hk).imp (fun h1=>.inr (.inr h1)) id
theorem FI.next{fl5:List (List Nat)}{w5:World}(h:FI F w jb J ds n m lks ls us l X C cv c rv row fl)(h5:FO F w jb J ds n m lks ls us l X rv row fl5 w5)(hfl:fl5.length<=4096):
 ∃fv5 l5 X5,FI F w5 jb (J.with fv5) ds n m lks ls us l5 X5 C cv c rv row fl5/\(∀k,X5 k->X k\/w.heap.size<=k)/\FFr w w5 l l5 (FM jb X rv):=by
 obtain⟨fv5,l5,X5,a1,a2,a3,a4,a5,a6⟩:=h5.ex;refine⟨fv5,l5,X5,⟨a1,a2,a3,a4,fun k hk=>?_,fun k hk hx=>?_,h.ch.keep a6.size (fun b hb hl=>⟨hb,a6.keep b hl (h.cm b hb).2.1 (fun hm=>?_)⟩),fun k hk=>?_,h.ac,h.cl,h.m0,hfl⟩,a5,a6⟩
 . obtain⟨b1,b2,b3⟩:=h.rm k hk;exact⟨zQ b1 a6.size,a6.un k b1 b2,b3⟩
 . rcases a5 k hx with h1|h1
   . exact h.rx k hk h1
   . have:=(h.rm k hk).1;omega
 . obtain⟨_,_,b3,b4,b5⟩:=h.cm b hb;rcases hm with hm|hm|hm
   . exact b3 hm
   . exact b4 hm
   . exact b5 hm
 . obtain⟨b1,b2,b3,b4,b5⟩:=h.cm k hk;refine⟨zQ b1 a6.size,a6.un k b1 b2,b3,fun hx=>?_,b5⟩;rcases a5 k hx with h1|h1
   . exact b4 h1
   . omega
theorem FO.from_{w0 w5:World}{l0:List Sx}{X0:Nat->Prop}{fv:Value}{fl5:List (List Nat)}(hf:FFr w0 w l0 l (FM jb X0 rv))(hx:∀k,X k->X0 k\/w0.heap.size<=k)(h5:FO F w jb (J.with fv) ds n m lks ls us l X rv row fl5 w5):FO F w0 jb J ds n m lks ls us l0 X0 rv row fl5 w5:=by
 obtain⟨fv5,l5,X5,a1,a2,a3,a4,a5,a6⟩:=h5.ex;refine⟨fv5,l5,X5,a1,a2,a3,a4,fun k hk=>?_,hf.trans a6 (fun k hk=>?_)⟩
 . rcases a5 k hk with h1|h1
   . exact hx k h1
   . have:=hf.size;exact .inr (by omega)
 . rcases hk with hk|hk|hk
   . exact .inl (.inl hk)
   . exact(hx k hk).imp (fun h1=>.inr (.inl h1)) id
   . exact .inl (.inr (.inr hk))
end
theorem infoRF:(Tryz.prog.info? 59).map (fun i=>(i.zero,i.size,i.bytes))=some (some (.slice none 0 0),1,24):=by kernel_rfl
theorem fill_nil{ls:List Lk}{n:Nat}{us:List Nat}{c:Ch}{row:List Nat}(h:locB ls c (List.range n)=false):fillL ls n us c row=[]:=by
 cases us<;>(unfold fillL;rw[h];rfl)
theorem take_fit{α:Type}{l:List α}{k:Nat}(h:l.length<=k):l.take k=l:=zJ h
set_option maxHeartbeats 32000000 in
theorem fillJ_step{k:Nat}{F:Nat->Prop}{jb:Nat}{ds:List Sy}{n m:Nat}{lks:List Lm}{ls:List Lk}{us:List Nat}(hus:us≠[])(hum:∀u∈us,u<m)(H:∀k',k=k'+1->FillP k' F jb ds n m lks ls us):FillP k F jb ds n m lks ls us:=by
 intro w J l X C cv c rv row fl us0 rest husr hrl hrk h;obtain⟨i0,hi0,hz0,hz1,hz2⟩:=info_partsG infoRF;have C0:=zA h.ask;obtain⟨j0,j1,j2,j3,j4,j5,j6⟩:=h.jz.cell;have HUM:=zA hum;obtain⟨ra,rc,hrv⟩:=h.row.slice;obtain⟨nr,hnr⟩:∃q,q=row.length:=⟨_,rfl⟩
 rw[<- hnr]at hrv;obtain⟨va,vc,hvv,_⟩:=h.jz.va.2;obtain⟨nu,hnu⟩:∃q,q=us.length:=⟨_,rfl⟩
 rw[<- hnu]at hvv;have hnul:nu<=1000:=by rw[hnu];exact h.jz.ul
 have hnrl:nr<=nu:=by rw[hnu,husr,zG,hnr,hrl];omega
 have HCELL:Hid (∀(W:World) (Jx:Jv) (lx:List Sx),Jz F W jb Jx ds n m lks ls us lx->Jx.vv=J.vv->W.cell? ⟨jb,2,none⟩=some (.slice va nu vc)):=zA (fun W Jx lx hJ e=>by rw[hJ.cell.2.1,e,hvv]);obtain⟨Q,hQ⟩:∃Q,Q=FilE F w jb J ds n m lks ls us l X rv row fl (fillL ls m rest c row):=⟨_,rfl⟩
 rw[<- hQ];have HQ:Hid (∀w' b,b=decide ((fl++fillL ls m rest c row).length<=4096)->FO F w jb J ds n m lks ls us l X rv row ((fl++fillL ls m rest c row).take 4097) w'->Q (.returned (.bool b)) w'):=zA (fun w' b hb ho=>by rw[hQ,hb];exact⟨rfl,ho⟩);have HFL:Hid (fl.length<=4096):=zA h.fle;have HH:=zA H;have HI:=zA h;have HUSR:=zA husr;have HRL:=zA hrl;have HRK:=zA hrk;have HNR:=zA hnr;have HNU:=zA hnu;have HVV:=zA hvv;have HRV:=zA hrv;have HUS:=zA hus;clear H h hQ husr hrl hrk hnr hnu hvv hum hus j1 j2 j3 j4 j5 j6;subst hrv;go_enter Tryz.func78,Tryz.ntmps78;go_wp2_with fail;refine C0.out.mono ?_;rintro e w1 ⟨rfl,hf1,l1,hj1⟩;have HI1:=zA (HI.out.call hf1 hj1 (fun k hk hu=>⟨hk,hu⟩));have HN1:=zA (HI.out.nothing hf1 hj1 (fun k hk hu=>⟨hk,hu⟩));have HF1:Hid (FFr w w1 l l1 (FM jb X (.slice ra nr rc))):=zA (FFr.call hf1 hj1 (fun k hk hu=>⟨hk,hu⟩));clear hf1 hj1 j0 C0;obtain⟨t,ht⟩:∃t,t=locB ls c (List.range m):=⟨_,rfl⟩
 have HT:=zA ht;rw[<- ht];clear ht;cases t with
 |false=>
  have HE:=zA (HQ.out w1 true (by
   rw[fill_nil HT.out.symm,List.append_nil];exact(zU HFL.out).symm) (by
   rw[fill_nil HT.out.symm,List.append_nil,take_fit (Nat.le_succ_of_le HFL.out)];exact HN1.out))
  go_wp2;all_goals (first|(go_ret;exact HE.out)|exact HE.out)
 |true=>
  have q2:=HCELL.out w1 J l1 HI1.out.jz rfl;cases rest with
  |nil=>
   have hnn:nr=nu:=by rw[HNR.out,HNU.out,HRL.out,HUSR.out,List.append_nil]
   have HFA:Hid (fillL ls m [] c row=[row]):=zA (by unfold fillL;rw[<- HT.out];rfl);have HID:=zA HI1.out.drew;have HFD:=zA HF1.out.drew;obtain⟨rows,hrc,hfo,hfx,hats⟩:=HID.out.fo;obtain⟨fa,fc,hfv⟩:=own_slice hfo;obtain⟨nf,hnf⟩:∃q,q=rows.length:=⟨_,rfl⟩
   rw[<- hnf]at hfv hfo;have hnfl:nf<=4096:=by
    have h1:=HFL.out;rw[<- hrc,zH,<- hnf]at h1;exact h1
   have HNF:Hid (fl.length=nf):=zA (by rw[<- hrc,zH,hnf]);have HFV:=zA hfv;have HFB:Hid (∀W:World,W.heap[jb]?=some (.cells J.cells 134 (0,0))->W.cell? ⟨jb,6,none⟩=some (.slice fa nf fc)/\W.frozen? ⟨jb,6,none⟩=false):=zA (fun W hW=>by simp[World.cell?,World.frozen?,hW,Jv.cells,hfv]);have HF6:Hid (∀W,Below w1.drew.heap.size w1.drew W->W.cell? ⟨jb,6,none⟩=some (.slice fa nf fc)):=zA (fun W hW=>(HFB.out W ((hW.block jb HID.out.jz.lt).trans HID.out.jz.blk)).1);have f1d:=HF6.out w1.drew (zE _ _);have f1:w1.cell? ⟨jb,6,none⟩=some (.slice fa nf fc):=f1d;have hrne:row≠[]:=fun e=>by
    have h1:=HNR.out;rw[e]at h1;have h2:=HNU.out;exact HUS.out (yL.1 (by rw[<- h2,<- hnn,h1];rfl))
   have C98:=cloneI_any HID.out.row.natC.1 hrne (by rw[<- HNR.out];omega);rw[<- HNR.out]at C98;have C98:=zA C98;have HLEAF:Hid (∀(w2:World) (nv:Value),w2.ownsRow w1.drew.heap.size 3 1 nv nr (row.flatMap csI)->Below w1.drew.heap.size w1.drew w2->Hid ((w2.alloc (.cells #[nv] 59)).cell? ⟨jb,6,none⟩=some (.slice fa nf fc)/\(w2.alloc (.cells #[nv] 59)).ownsRow 0 59 1 (.slice fa nf fc) nf (rows.flatMap csRow)/\(∀j u,[nv][j]?=some u->(w2.alloc (.cells #[nv] 59)).cell? ((⟨w2.heap.size,0,none⟩:Addr).add j)=some u)/\
    Hid (∀gg cap9 w9,w9.ownsRow 0 59 1 (.slice (some ⟨gg,0,none⟩) (nf+1) cap9) (nf+1) (rows.flatMap csRow++[nv])->(w2.alloc (.cells #[nv] 59)).grownBy w9 (Value.slice fa nf fc).ownBlock->((Value.slice fa nf fc).ownBlock=some gg\/gg=w2.heap.size+1)->
     w9.cell? ⟨jb,6,none⟩=some (.slice fa nf fc)/\w9.frozen? ⟨jb,6,none⟩=false/\Hid ((w9.setCell ⟨jb,6,none⟩ (.slice (some ⟨gg,0,none⟩) (nf+1) cap9)).cell? ⟨jb,6,none⟩=some (.slice (some ⟨gg,0,none⟩) (nf+1) cap9)/\Q (.returned (.bool (decide ((nf:Int)+1<=4096)))) (w9.setCell ⟨jb,6,none⟩ (.slice (some ⟨gg,0,none⟩) (nf+1) cap9)))))):=zA (fun w2 nv hnv hb2=>zA (by
    have hb3:Below w1.drew.heap.size w1.drew (w2.alloc (.cells #[nv] 59)):=hb2.alloc hb2.size _;have hjb3:(w2.alloc (.cells #[nv] 59)).heap[jb]?=some (.cells J.cells 134 (0,0)):=(hb3.block jb HID.out.jz.lt).trans HID.out.jz.blk;have hfo3:(w2.alloc (.cells #[nv] 59)).ownsRow 0 59 1 (.slice fa nf fc) nf (rows.flatMap csRow):=by
     rw[<- hfv];exact owns_below hfo hb3
    have hfx3:∀g,(Value.slice fa nf fc).ownBlock=some g->X g:=by rw[<- hfv];exact hfx
    refine⟨(HFB.out _ hjb3).1,hfo3,World.news_of_block (cs:=#[nv]) (heap_alloc_new w2 _),zA (fun gg cap9 w9 hown9 hgrow9 hat9=>?_)⟩;have hjx:(Value.slice fa nf fc).ownBlock≠some jb:=fun e=>(HID.out.xm jb (hfx3 jb e)).2.2.2.1 rfl
    have hjb9:w9.heap[jb]?=some (.cells J.cells 134 (0,0)):=(hgrow9.block jb (zQ HID.out.jz.lt hb3.size) (fun e=>hjx e.symm)).trans hjb3;refine⟨(HFB.out w9 hjb9).1,(HFB.out w9 hjb9).2,zA ⟨by simp[World.cell?,World.setCell,Array.getElem?_modify,hjb9,Jv.cells],?_⟩⟩;refine HQ.out _ _ ?_ ?_
    . rw[HFA.out,zG,HNF.out];exact decide_eq_decide.2 (by simp only[List.length_singleton];omega)
    . rw[HFA.out,take_fit (by rw[zG,HNF.out];simp only[List.length_singleton];omega)];have hl:=HID.out.leaf (wz:=w2.alloc (.cells #[nv] 59)) (w9:=w9) (nv:=nv) (fv9:=.slice (some ⟨gg,0,none⟩) (nf+1) cap9) hrc hfx hats hb3 ((own_natC (by rw[<- HNR.out];exact hnv)).below ((zE _ _).alloc (zD _) _)) (fun k hk=>by
       have:=hnv.lt k hk;exact⟨this.1,by simp;omega⟩) hgrow9.os hgrow9.tape hgrow9.output hgrow9.size (fun k hk hne=>hgrow9.block k hk (fun e=>hne (by rw[hfv];exact e.symm))) (by rw[<- hnf];exact hown9) (fun g hg=>by
       have hg:gg=g:=by simpa[Value.ownBlock]using hg
       subst hg;rcases hat9 with h1|h1
       . exact .inl (by rw[hfv];exact h1)
       . exact .inr (by simp;omega))
      exact FO.from_ (fv:=J.fv) HFD.out (fun k hk=>.inl hk) hl))
   clear hrc hfo hfx hats hfv hnf;subst hnn;go_wp2_with fail;refine wp_region_held_drew (S:=fun u=>True) (by kernel_rfl) ?_ (fun hHeld=>?_)
   . exact trivial
   refine tkH (i:=0) (oi:=⟨some 26,.move (.tmp 0),85, "join.go:120",#[],none⟩) (v:=?_) rfl ?_ hHeld ?_;rotate_left 1
   . intro W hSw;obtain _:=hSw;go_simp;try with_reducible rfl
   simp only[Act.put,zIB,zSZ,zSS];refine tkH (i:=1) (oi:=⟨some 27,.move (.tmp 0),85, "join.go:120",#[],none⟩) (v:=?_) rfl ?_ hHeld ?_;rotate_left 1
   . intro W hSw;obtain _:=hSw;go_simp;try with_reducible rfl
   simp only[Act.put,zIB,zSZ,zSS];refine tkH (i:=2) (oi:=⟨some 28,.nilCheck (.tmp 27),0, "join.go:120",#[⟨1,.data⟩],none⟩) (v:=?_) rfl ?_ hHeld ?_;rotate_left 1
   . intro W hSw;obtain _:=hSw;go_simp;try with_reducible rfl
   simp only[Act.put,zIB,zSZ,zSS];refine tkH (i:=3) (oi:=⟨some 29,.fieldAddr 134 (.tmp 28) 6,0, "join.go:120",#[⟨2,.data⟩],none⟩) (v:=?_) rfl ?_ hHeld ?_;rotate_left 1
   . intro W hSw;obtain _:=hSw;go_simp;try with_reducible rfl
   simp only[Act.put,zIB,zSZ,zSS];refine tkH (i:=5) (oi:=⟨some 31,.move (.tmp 2),59, "join.go:120",#[],none⟩) (v:=?_) rfl ?_ hHeld ?_;rotate_left 1
   . intro W hSw;obtain _:=hSw;go_simp;try with_reducible rfl
   simp only[Act.put,zIB,zSZ,zSS];refine wpAnyH_ready (rs:=[4,6]) (by kernel_rfl) (by simp) ?_;refine(AllReadyH.cons (o:=⟨some 30,.load 60 (.tmp 29),60, "join.go:120",#[⟨3,.data⟩],none⟩) rfl (fun K hK=>?_) (AllReadyH.cons (o:=⟨some 32,.call { callee:=.value (.func 98),args:=#[.tmp 31],argTypes:=#[59] },59, "join.go:120",#[⟨5,.data⟩],none⟩) rfl (fun K hK=>?_) AllReadyH.nil))
   . go_simp;refine hK.out _ _ trivial (fun hHeld=>?_);clear hK K;refine wpAnyH_ready (rs:=[6]) (by kernel_rfl) (by simp) ?_;refine(AllReadyH.cons (o:=⟨some 32,.call { callee:=.value (.func 98),args:=#[.tmp 31],argTypes:=#[59] },59, "join.go:120",#[⟨5,.data⟩],none⟩) rfl (fun K hK=>?_) AllReadyH.nil);go_simp;refine C98.out.mono ?_;rintro e w2 ⟨nv,rfl,hnv,hb2⟩;obtain⟨na,nc,hnve⟩:=own_slice hnv;subst hnve;have HNV:=zA (HLEAF.out w2 _ hnv hb2);have f2:=HF6.out w2 hb2;clear hnv hb2;refine hK.out _ _ trivial (fun hHeld=>?_);clear hK K;refine wpAnyH_ready (rs:=[7]) (by kernel_rfl) (by simp) ?_;refine(AllReadyH.cons (o:=⟨some 33,.buildSlice 60 1 #[(0,.tmp 32)],60, "join.go:120",#[⟨6,.data⟩],none⟩) rfl (fun K hK=>?_) AllReadyH.nil);go_simp;refine hK.out _ _ trivial (fun hHeld=>?_);clear hK K;obtain⟨f3,hown3,hnews3,HL3⟩:=HNV.out;refine wpAnyH_ready (rs:=[8]) (by kernel_rfl) (by simp) ?_;refine(AllReadyH.cons (o:=⟨some 34,.call { callee:=.builtin .append,args:=#[.tmp 30,.tmp 33],argTypes:=#[60,60] },60, "join.go:120",#[⟨4,.data⟩,⟨7,.data⟩,⟨6,.chain⟩],none⟩) rfl (fun K hK=>?_) AllReadyH.nil);refine step_append_lies _ (by rfl) _ _ _ (by rfl) 0 59 i0 _ 1 24 Tryz.underlying60 hi0 hz0 hz1 hz2 rfl (by decide) (.slice fa nf fc) _ _ (by rfl) hown3 ⟨w2.heap.size,0,none⟩ 1 1 [.slice na nr nc] (by rfl) (by rfl) hnews3 (by simp[Value.oneCell']) (by decide) (by unfold maxLen;omega) (by omega) (zO _) (w2.heap.size+1) (by simp) ?_;intro gg cap9 w9 hown9 hgrow9 hat9 hlt9;obtain⟨c9,z9,HFO⟩:=HL3.out gg cap9 w9 hown9 hgrow9 hat9;refine hK.out _ _ trivial (fun hHeld=>?_);clear hK K hown9 hgrow9 hat9 hlt9 hown3 hnews3;refine tkH (i:=9) (oi:=⟨some 35,.nilCheck (.tmp 26),0, "join.go:120",#[⟨0,.data⟩,⟨0,.phase⟩,⟨1,.phase⟩,⟨2,.phase⟩,⟨3,.phase⟩,⟨4,.phase⟩,⟨5,.phase⟩,⟨6,.phase⟩,⟨7,.phase⟩,⟨8,.phase⟩],none⟩) (v:=?_) rfl ?_ hHeld ?_;rotate_left 1
     . intro W hSw;obtain _:=hSw;go_simp;try with_reducible rfl
     simp only[Act.put,zIB,zSZ,zSS];refine tkH (i:=10) (oi:=⟨some 36,.fieldAddr 134 (.tmp 35) 6,0, "join.go:120",#[⟨9,.data⟩,⟨0,.phase⟩,⟨1,.phase⟩,⟨2,.phase⟩,⟨3,.phase⟩,⟨4,.phase⟩,⟨5,.phase⟩,⟨6,.phase⟩,⟨7,.phase⟩,⟨8,.phase⟩],none⟩) (v:=?_) rfl ?_ hHeld ?_;rotate_left 1
     . intro W hSw;obtain _:=hSw;go_simp;try with_reducible rfl
     simp only[Act.put,zIB,zSZ,zSS];refine wpAnyH_ready (rs:=[11]) (by kernel_rfl) (by simp) ?_;refine(AllReadyH.cons (o:=⟨none,.store 60 (.tmp 36) (.tmp 34),0, "join.go:120",#[⟨10,.data⟩,⟨8,.data⟩,⟨8,.chain⟩,⟨0,.phase⟩,⟨1,.phase⟩,⟨2,.phase⟩,⟨3,.phase⟩,⟨4,.phase⟩,⟨5,.phase⟩,⟨6,.phase⟩,⟨7,.phase⟩,⟨8,.phase⟩],none⟩) rfl (fun K hK=>?_) AllReadyH.nil);go_simp;refine hK.out _ _ trivial (fun hHeld=>?_);clear hK K c9 z9;refine wpAnyH_done (by kernel_rfl) ?_ _;have c6:=HFO.out.1;go_wp2;all_goals (first|(go_ret;exact HFO.out.2)|exact HFO.out.2)
   . go_simp;refine C98.out.mono ?_;rintro e w2 ⟨nv,rfl,hnv,hb2⟩;obtain⟨na,nc,hnve⟩:=own_slice hnv;subst hnve;have HNV:=zA (HLEAF.out w2 _ hnv hb2);have f2:=HF6.out w2 hb2;clear hnv hb2;refine hK.out _ _ trivial (fun hHeld=>?_);clear hK K;refine wpAnyH_ready (rs:=[4,7]) (by kernel_rfl) (by simp) ?_;refine(AllReadyH.cons (o:=⟨some 30,.load 60 (.tmp 29),60, "join.go:120",#[⟨3,.data⟩],none⟩) rfl (fun K hK=>?_) (AllReadyH.cons (o:=⟨some 33,.buildSlice 60 1 #[(0,.tmp 32)],60, "join.go:120",#[⟨6,.data⟩],none⟩) rfl (fun K hK=>?_) AllReadyH.nil))
     . go_simp;refine hK.out _ _ trivial (fun hHeld=>?_);clear hK K;refine wpAnyH_ready (rs:=[7]) (by kernel_rfl) (by simp) ?_;refine(AllReadyH.cons (o:=⟨some 33,.buildSlice 60 1 #[(0,.tmp 32)],60, "join.go:120",#[⟨6,.data⟩],none⟩) rfl (fun K hK=>?_) AllReadyH.nil);go_simp;refine hK.out _ _ trivial (fun hHeld=>?_);clear hK K;obtain⟨f3,hown3,hnews3,HL3⟩:=HNV.out;refine wpAnyH_ready (rs:=[8]) (by kernel_rfl) (by simp) ?_;refine(AllReadyH.cons (o:=⟨some 34,.call { callee:=.builtin .append,args:=#[.tmp 30,.tmp 33],argTypes:=#[60,60] },60, "join.go:120",#[⟨4,.data⟩,⟨7,.data⟩,⟨6,.chain⟩],none⟩) rfl (fun K hK=>?_) AllReadyH.nil);refine step_append_lies _ (by rfl) _ _ _ (by rfl) 0 59 i0 _ 1 24 Tryz.underlying60 hi0 hz0 hz1 hz2 rfl (by decide) (.slice fa nf fc) _ _ (by rfl) hown3 ⟨w2.heap.size,0,none⟩ 1 1 [.slice na nr nc] (by rfl) (by rfl) hnews3 (by simp[Value.oneCell']) (by decide) (by unfold maxLen;omega) (by omega) (zO _) (w2.heap.size+1) (by simp) ?_;intro gg cap9 w9 hown9 hgrow9 hat9 hlt9;obtain⟨c9,z9,HFO⟩:=HL3.out gg cap9 w9 hown9 hgrow9 hat9;refine hK.out _ _ trivial (fun hHeld=>?_);clear hK K hown9 hgrow9 hat9 hlt9 hown3 hnews3;refine tkH (i:=9) (oi:=⟨some 35,.nilCheck (.tmp 26),0, "join.go:120",#[⟨0,.data⟩,⟨0,.phase⟩,⟨1,.phase⟩,⟨2,.phase⟩,⟨3,.phase⟩,⟨4,.phase⟩,⟨5,.phase⟩,⟨6,.phase⟩,⟨7,.phase⟩,⟨8,.phase⟩],none⟩) (v:=?_) rfl ?_ hHeld ?_;rotate_left 1
       . intro W hSw;obtain _:=hSw;go_simp;try with_reducible rfl
       simp only[Act.put,zIB,zSZ,zSS];refine tkH (i:=10) (oi:=⟨some 36,.fieldAddr 134 (.tmp 35) 6,0, "join.go:120",#[⟨9,.data⟩,⟨0,.phase⟩,⟨1,.phase⟩,⟨2,.phase⟩,⟨3,.phase⟩,⟨4,.phase⟩,⟨5,.phase⟩,⟨6,.phase⟩,⟨7,.phase⟩,⟨8,.phase⟩],none⟩) (v:=?_) rfl ?_ hHeld ?_;rotate_left 1
       . intro W hSw;obtain _:=hSw;go_simp;try with_reducible rfl
       simp only[Act.put,zIB,zSZ,zSS];refine wpAnyH_ready (rs:=[11]) (by kernel_rfl) (by simp) ?_;refine(AllReadyH.cons (o:=⟨none,.store 60 (.tmp 36) (.tmp 34),0, "join.go:120",#[⟨10,.data⟩,⟨8,.data⟩,⟨8,.chain⟩,⟨0,.phase⟩,⟨1,.phase⟩,⟨2,.phase⟩,⟨3,.phase⟩,⟨4,.phase⟩,⟨5,.phase⟩,⟨6,.phase⟩,⟨7,.phase⟩,⟨8,.phase⟩],none⟩) rfl (fun K hK=>?_) AllReadyH.nil);go_simp;refine hK.out _ _ trivial (fun hHeld=>?_);clear hK K c9 z9;refine wpAnyH_done (by kernel_rfl) ?_ _;have c6:=HFO.out.1;go_wp2;all_goals (first|(go_ret;exact HFO.out.2)|exact HFO.out.2)
     . go_simp;refine hK.out _ _ trivial (fun hHeld=>?_);clear hK K;obtain⟨f3,hown3,hnews3,HL3⟩:=HNV.out;refine wpAnyH_ready (rs:=[4]) (by kernel_rfl) (by simp) ?_;refine(AllReadyH.cons (o:=⟨some 30,.load 60 (.tmp 29),60, "join.go:120",#[⟨3,.data⟩],none⟩) rfl (fun K hK=>?_) AllReadyH.nil);go_simp;refine hK.out _ _ trivial (fun hHeld=>?_);clear hK K;refine wpAnyH_ready (rs:=[8]) (by kernel_rfl) (by simp) ?_;refine(AllReadyH.cons (o:=⟨some 34,.call { callee:=.builtin .append,args:=#[.tmp 30,.tmp 33],argTypes:=#[60,60] },60, "join.go:120",#[⟨4,.data⟩,⟨7,.data⟩,⟨6,.chain⟩],none⟩) rfl (fun K hK=>?_) AllReadyH.nil);refine step_append_lies _ (by rfl) _ _ _ (by rfl) 0 59 i0 _ 1 24 Tryz.underlying60 hi0 hz0 hz1 hz2 rfl (by decide) (.slice fa nf fc) _ _ (by rfl) hown3 ⟨w2.heap.size,0,none⟩ 1 1 [.slice na nr nc] (by rfl) (by rfl) hnews3 (by simp[Value.oneCell']) (by decide) (by unfold maxLen;omega) (by omega) (zO _) (w2.heap.size+1) (by simp) ?_;intro gg cap9 w9 hown9 hgrow9 hat9 hlt9;obtain⟨c9,z9,HFO⟩:=HL3.out gg cap9 w9 hown9 hgrow9 hat9;refine hK.out _ _ trivial (fun hHeld=>?_);clear hK K hown9 hgrow9 hat9 hlt9 hown3 hnews3;refine tkH (i:=9) (oi:=⟨some 35,.nilCheck (.tmp 26),0, "join.go:120",#[⟨0,.data⟩,⟨0,.phase⟩,⟨1,.phase⟩,⟨2,.phase⟩,⟨3,.phase⟩,⟨4,.phase⟩,⟨5,.phase⟩,⟨6,.phase⟩,⟨7,.phase⟩,⟨8,.phase⟩],none⟩) (v:=?_) rfl ?_ hHeld ?_;rotate_left 1
       . intro W hSw;obtain _:=hSw;go_simp;try with_reducible rfl
       simp only[Act.put,zIB,zSZ,zSS];refine tkH (i:=10) (oi:=⟨some 36,.fieldAddr 134 (.tmp 35) 6,0, "join.go:120",#[⟨9,.data⟩,⟨0,.phase⟩,⟨1,.phase⟩,⟨2,.phase⟩,⟨3,.phase⟩,⟨4,.phase⟩,⟨5,.phase⟩,⟨6,.phase⟩,⟨7,.phase⟩,⟨8,.phase⟩],none⟩) (v:=?_) rfl ?_ hHeld ?_;rotate_left 1
       . intro W hSw;obtain _:=hSw;go_simp;try with_reducible rfl
       simp only[Act.put,zIB,zSZ,zSS];refine wpAnyH_ready (rs:=[11]) (by kernel_rfl) (by simp) ?_;refine(AllReadyH.cons (o:=⟨none,.store 60 (.tmp 36) (.tmp 34),0, "join.go:120",#[⟨10,.data⟩,⟨8,.data⟩,⟨8,.chain⟩,⟨0,.phase⟩,⟨1,.phase⟩,⟨2,.phase⟩,⟨3,.phase⟩,⟨4,.phase⟩,⟨5,.phase⟩,⟨6,.phase⟩,⟨7,.phase⟩,⟨8,.phase⟩],none⟩) rfl (fun K hK=>?_) AllReadyH.nil);go_simp;refine hK.out _ _ trivial (fun hHeld=>?_);clear hK K c9 z9;refine wpAnyH_done (by kernel_rfl) ?_ _;have c6:=HFO.out.1;go_wp2;all_goals (first|(go_ret;exact HFO.out.2)|exact HFO.out.2)
  |cons u rest'=>
   have hlt:nr<nu:=by rw[HNR.out,HNU.out,HRL.out,HUSR.out,zG,yG];omega
   have hne:¬(nr:Int)=(nu:Int):=by omega
   have hneB:((nr:Int)==(nu:Int))=false:=by simp;omega
   have hltI:(nr:Int)<(nu:Int):=by omega
   have hum:u<m:=HUM.out u (by rw[HUSR.out];simp);have hvg:us[nr]?=some u:=by rw[HUSR.out,HNR.out,HRL.out,yO (zD _)];simp
   have hva:=HI1.out.jz.va.1;rw[HVV.out]at hva;obtain⟨gv,ofv,hvae,_,_,hvc⟩:=hva.get hvg;subst hvae;have cv0:=hvc 0 _ rfl;rw[yD,yA]at cv0;obtain⟨crows,hcrc,hcsl,hcat,hcbd⟩:=HI1.out.ch.ex;have hcrl:crows.length=m:=by rw[<- HI1.out.cl,<- hcrc,zH]
   obtain⟨r,hr⟩:∃r,crows[u]?=some r:=⟨_,zB (by omega)⟩
   have hcs:atC c u=r.2:=by unfold atC;rw[<- hcrc,List.getD,zI,hr];rfl
   obtain⟨ca,cc,hcv⟩:=hcsl.slice;obtain⟨nc,hnc⟩:∃q,q=crows.length:=⟨_,rfl⟩
   rw[<- hnc]at hcv;subst hcv;obtain⟨gc,ofc,hca,hFc,_,hcc⟩:=hcsl.get hr;subst hca;have cr:=hcc 0 _ rfl;rw[yD,yA]at cr;have hvl:=hcat r (zC hr);have hvb:=hcbd r (zC hr);obtain⟨rw_,VL⟩:=r;dsimp only at hcs cr hvl hvb;obtain⟨la,lc,hre⟩:=hvl.1.slice;obtain⟨nv,hnv⟩:∃q,q=VL.length:=⟨_,rfl⟩
   rw[<- hnv]at hre;subst hre;have hnvl:nv<=10000:=by rw[hnv];exact hvb.2
   have hunI:(u:Int)<(nc:Int):=by omega
   have huN:u<nc:=by omega
   obtain⟨g,hg⟩:∃g:Nat->List (List Nat),g=fun v=>fillL ls m rest' (chooseC ls c u v) (row++[v]):=⟨_,rfl⟩
   have HG:=zA hg;have HFA:Hid (fillL ls m (u::rest') c row=VL.flatMap g):=zA (by unfold fillL;rw[<- HT.out,if_pos rfl,hcs,hg]);have HVM:Hid (∀v,v∈VL->v∈atC c u):=zA (fun v hv=>by rw[hcs];exact hv);have HVL:Hid (NatC C w1 (.slice la nv lc) VL):=zA hvl;have HNV:=zA hnv;have HUMM:=zA hum;obtain⟨k',hk'⟩:∃k',k=k'+1:=⟨k-1,by have:=HRK.out;rw[yG]at this;omega⟩
   have HP:=zA (HH.out k' hk');have HRK':Hid (rest'.length<=k'):=zA (by have:=HRK.out;rw[yG]at this;omega);clear hvc hva hvg hcrc hcsl hcat hcbd hcrl hr hcs hnc hFc hcc hvl hvb hnv hg hk';go_wp2_with fail;go_loopw [56] (fun kk wr=>∃(j:Nat) (fv':Value) (l':List Sx) (X':Nat->Prop),j<=nv/\kk=.int .i64 j/\Hid (FI F wr jb (J.with fv') ds n m lks ls us l' X' C (.slice (some ⟨gc,ofc,none⟩) nc cc) c (.slice ra nr rc) row (fl++(VL.take j).flatMap g))/\Hid (∀k,X' k->X k\/w.heap.size<=k)/\Hid (FFr w wr l l' (FM jb X (.slice ra nr rc)))/\Hid (Fr C w1 wr)) (fun kk _=>nv-(intOf kk).toNat)
   case atStart=>exact⟨0,J.fv,l1,X,zO _,rfl,zA (by rw[List.take_zero,List.flatMap_nil,List.append_nil];exact HI1.out),zA (fun k hk=>.inl hk),HF1,zA (Fr.refl _ _)⟩
   case round=>
    obtain⟨j,fv',l',X',hj,rfl,HFI,HX,HFF,HFC⟩:=hrel;obtain⟨wx,hwx⟩:∃wx,wx=wr:=⟨_,rfl⟩
    subst hwx;by_cases hjl:j<nv
    . have hjI:(j:Int)<(nv:Int):=by omega
      obtain⟨v,hv⟩:∃v,VL[j]?=some v:=⟨_,zB (by rw[<- HNV.out];exact hjl)⟩
      obtain⟨gb,ofb,hla,_,_,hcell⟩:=(HVL.out.1.fr HFC.out).get hv;subst hla;have c0:=hcell 0 _ rfl;rw[yD,yA]at c0;have hjs:=HFI.out.jz.js;have hcl:=HFI.out.cl;rw[<- hcl]at hjs;have CK0:=chooseZ_any hjs HFI.out.ch (fun k hk=>⟨(HFI.out.cm k hk).1,(HFI.out.cm k hk).2.1⟩) (by rw[hcl];exact HUMM.out) (HVM.out v (zC hv)) HFI.out.ac;rw[hcl]at CK0;have CK:=zA CK0;have HTK:Hid ((VL.take (j+1)).flatMap g=(VL.take j).flatMap g++g v):=zA (by rw[zS,hv,yR,zR,List.flatMap_singleton]);have HCLL:=zA hcl;have HTOT:Hid (∃post,VL.flatMap g=(VL.take (j+1)).flatMap g++post):=zA ⟨(VL.drop (j+1)).flatMap g,by rw[<- zR,List.take_append_drop]⟩;clear hcell hjs hcl CK0 hv;go_wp2_with fail;refine CK.out.mono ?_;rintro e w3 ⟨v3,rfl,hch⟩;obtain⟨l3,C3,d1,d2,d3,d4⟩:=HFI.out.down hch;have D1:=zA d1;have D2:=zA d2;have D3:=zA d3;have D4:=zA d4;obtain⟨w4,hw4⟩:∃W,W=w3.alloc (.cells #[.int .i64 (v:Int)] 3):=⟨_,rfl⟩
      have hb4:Below w3.heap.size w3 w4:=by rw[hw4];exact(zE _ _).alloc (zD _) _
      have hy4:w4.cell? ⟨w3.heap.size,0,none⟩=some (.int .i64 (v:Int)):=by
       have h1:w4.heap[w3.heap.size]?=some (.cells #[.int .i64 (v:Int)] 3 (0,0)):=by rw[hw4];exact heap_alloc_new _ _
       simp[World.cell?,h1]
      have HY4:=zA hy4;have HB4:=zA hb4;have HQ4:Hid (QRow 0 w4 (.slice ra nr rc) row):=zA (d1.row.keep (fun g _ hg=>hb4.block g (d1.row.lt hg).2));have HW4:Hid (w3.alloc (.cells #[.int .i64 (v:Int)] 3)=w4):=zA hw4.symm;have hrl4:row.length<=1000000000:=by rw[<- HNR.out];omega
      clear hch d1 d2 d3 d4 hy4 hb4 hw4 CK c0;go_wp2_with (at_builtin;rw[HW4.out];refine wpList_append_q2 rfl _ _ rfl (by rfl) HQ4.out hrl4 ⟨w3.heap.size,0,none⟩ 1 v (by rfl) HY4.out (zO _) ?_);intro u9 w9 q1 q1b q2x q3 q4 q5 q6 q7 q8;have hk9:∀k,k<w3.heap.size->¬QB (.slice ra nr rc) k->w9.heap[k]?=w3.heap[k]?:=fun k hk hq=>(q6 k (zQ hk HB4.out.size) hq).trans (HB4.out.block k hk)
      have hq79:∀k,QB u9 k->QB (.slice ra nr rc) k\/(w3.heap.size<=k/\k<w9.heap.size):=fun k hk=>(q7 k hk).imp id (fun h1=>⟨zT HB4.out.size h1.1,h1.2⟩)
      obtain⟨e1,e2⟩:=D1.out.app (C':=C3) (v3:=v3) (rv4:=u9) (c':=chooseC ls c u v) (w4:=w9) (x:=v) D2.out D3.out (narrow_ac _ _) (by rw[choose_len];exact HCLL.out) q1 (zT HB4.out.size q2x) (q3.trans HB4.out.os) (q4.trans HB4.out.tape) (q5.trans HB4.out.output) hk9 hq79;have E1:=zA e1;have E2:Hid (FFr wx w9 l' l3 (QB (.slice ra nr rc))):=zA (D4.out.mono (fun _ h=>h.elim) |>.trans e2 (fun k hk=>.inl hk));have E3:Hid (∀fl5 w5,FO F w9 jb (J.with fv') ds n m lks ls us l3 X' u9 (row++[v]) fl5 w5->FO F wx jb (J.with fv') ds n m lks ls us l' X' (.slice ra nr rc) row fl5 w5):=zA (fun fl5 w5 h5=>HFI.out.lift E2.out q1b (fun k hk=>(hq79 k hk).imp id (fun h1=>zT D4.out.size h1.1)) q8 h5);have CF:=HP.out w9 (J.with fv') l3 X' C3 v3 (chooseC ls c u v) u9 (row++[v]) (fl++(VL.take j).flatMap g) (us0++[u]) rest' (by rw[HUSR.out];simp) (by rw[zG,zG,HRL.out];rfl) HRK'.out e1;rw[show fillL ls m rest' (chooseC ls c u v) (row++[v])=g v by rw[HG.out]]at CF;have CF:=zA CF;obtain⟨u9a,u9c,hu9⟩:=q1.slice;obtain⟨n9,hn9⟩:∃q,q=(row++[v]).length:=⟨_,rfl⟩
      rw[<- hn9]at hu9;subst hu9;clear hn9;clear q1 q1b q2x q3 q4 q5 q6 q7 q8 hk9 hq79 e1 e2;go_wp2_with fail;refine CF.out.mono ?_;rintro e w5 ⟨rfl,h5⟩;rw[List.append_assoc,<- HTK.out];have H5:Hid (FO F wx jb (J.with fv') ds n m lks ls us l' X' (.slice ra nr rc) row ((fl++(VL.take (j+1)).flatMap g).take 4097) w5):=zA (by
       have:=E3.out _ _ h5;rw[List.append_assoc,<- HTK.out]at this;exact this)
      have H50:=zA (FO.from_ HFF.out HX.out H5.out);clear h5 CF;by_cases hle:(fl++(VL.take (j+1)).flatMap g).length<=4096
      . rw[zU hle];have h6:=H5.out;rw[take_fit (Nat.le_succ_of_le hle)]at h6;obtain⟨fv6,l6,X6,n1,n2,n3⟩:=HFI.out.next h6 hle
        have N1:Hid (FI F w5 jb (J.with fv6) ds n m lks ls us l6 X6 C (.slice (some ⟨gc,ofc,none⟩) nc cc) c (.slice ra nr rc) row (fl++(VL.take (j+1)).flatMap g)):=zA n1;have N2:Hid (∀k,X6 k->X k\/w.heap.size<=k):=zA (fun k hk=>by
         rcases n2 k hk with h1|h1
         . exact HX.out k h1
         . have:=HFF.out.size;exact .inr (by omega))
        have N3:Hid (FFr w w5 l l6 (FM jb X (.slice ra nr rc))):=zA (HFF.out.trans n3 (fun k hk=>by
         rcases hk with hk|hk|hk
         . exact .inl (.inl hk)
         . exact(HX.out k hk).imp (fun h1=>.inr (.inl h1)) id
         . exact .inl (.inr (.inr hk))))
        have N4:Hid (Fr C w1 w5):=zA (HFC.out.trans ⟨n3.os,n3.tape,n3.output,n3.size,fun k hk=>by
         obtain⟨b1,b2,b3,b4,b5⟩:=HFI.out.cm k hk;refine n3.keep k b1 b2 (fun hm=>?_);rcases hm with hm|hm|hm
         . exact b3 hm
         . exact b4 hm
         . exact b5 hm⟩)
        clear h6 n1 n2 n3 hle;go_wp2;go_roundw
        case rel=>exact⟨j+1,fv6,l6,X6,by omega,by go_num,N1,N2,N3,N4⟩
        case measure=>simp[intOf];omega
      . rw[decide_eq_false hle];have HE:=zA (HQ.out w5 false (by
         obtain⟨post,hpost⟩:=HTOT.out;rw[HFA.out,hpost,<- List.append_assoc,zG];exact(decide_eq_false (by omega)).symm) (by
         obtain⟨post,hpost⟩:=HTOT.out;rw[HFA.out,hpost,<- List.append_assoc,List.take_append_of_le_length (by omega)];exact H50.out))
        clear hle;go_wp2;all_goals (first|(go_ret;exact HE.out)|exact HE.out)
    . have hjI:¬(j:Int)<(nv:Int):=by omega
      have htk:VL.take j=VL:=zJ (by rw[<- HNV.out];omega);have HE:=zA (HQ.out wx true (by
       rw[HFA.out,<- htk];exact(zU HFI.out.fle).symm) (by
       rw[HFA.out,take_fit (by have:=HFI.out.fle;rw[htk]at this;omega)];have hI:=HFI.out;rw[htk]at hI;exact FO.from_ (fv:=fv') HFF.out HX.out ⟨fv',l',X',hI.jz,hI.xm,hI.fo,hI.row,fun k hk=>.inl hk,FFr.refl _ _ _⟩))
      clear htk;go_wp2;all_goals (first|(go_ret;exact HE.out)|exact HE.out)
theorem fillJ_any{F:Nat->Prop}{jb:Nat}{ds:List Sy}{n m:Nat}{lks:List Lm}{ls:List Lk}{us:List Nat}(hus:us≠[])(hum:∀u∈us,u<m):∀k,FillP k F jb ds n m lks ls us
 |0=>fillJ_step hus hum (fun k' e=>by omega)
 |k+1=>fillJ_step hus hum (fun k' e=>by
  obtain rfl:k=k':=by omega
  exact fillJ_any hus hum k)
end Go.Proofs.YtkbgmcmcpbegjaaGreatDoor
