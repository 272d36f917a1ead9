/- XOpen, XGroup1, XGrpS, XGrpA. -/
import Derived.Test.YtdalcipmpelifaaGreatDoorMG34
set_option maxRecDepth 100000
namespace Go.Proofs.YtdalcipmpelifaaGreatDoor
open Go.RowKit Go.Sort Go.Lib Go.Shelf
theorem idxI_none(ao:Option Addr)(cap:Nat)(fv:Value)(w:World):
 Calls Tryz.prog 128 #[.slice ao 0 cap,fv] w fun e w'=>e=.returned (.int .i64 (-1))/\w'=w:=Tryz.slices_IndexFunc_empty (α:=Nat) ao cap fv w
theorem delI_none(ao:Option Addr)(cap:Nat)(fv:Value)(w:World):
 Calls Tryz.prog 121 #[.slice ao 0 cap,fv] w fun e w'=>e=.returned (.slice ao 0 cap)/\w'=w:=by
 have C:=zA (idxI_none ao cap fv w);go_enter Tryz.func121,Tryz.ntmps121;go_wp2_with fail;refine C.out.mono ?_;rintro e w5 ⟨rfl,h⟩;rw[h];clear h;go_wp2;all_goals (first|(go_ret;exact⟨rfl,rfl⟩)|exact⟨rfl,rfl⟩)
def encM(m x:Nat):Value:=.int .i64 ((x%m:Nat):Int)
theorem map_encM{m:Nat}{L:List Nat}(hm:∀k∈L,k<m):L.flatMap csI=L.map (encM m):=by
 rw[flat_mapI,List.map_map];refine yQ fun x hx=>?_
 show Value.int .i64 (x:Int)=encM m x;unfold encM;rw[Nat.mod_eq_of_lt (hm x hx)]
set_option maxHeartbeats 2000000 in
theorem delI_any{w:World}{B:Nat}{v:Value}{L:List Nat}(h:w.ownsRow B 3 1 v L.length (L.flatMap csI))(hl:L.length<=1000000){m:Nat}(hm0:0<m)(hm:∀k∈L,k<m){lb:Array Value}{p:Nat->Bool}
 (hp:∀W:World,(∀k,k<w.heap.size->v.ownBlock≠some k->W.heap[k]?=w.heap[k]?)->∀x,x<m->Calls Tryz.prog 122 (#[.int .i64 (x:Int)]++lb) W fun e w'=>e=.returned (.bool (p x))/\w'=W):
 Calls Tryz.prog 121 #[v,.func (.func 122) #[] lb] w fun e w'=>∃v',e=.returned v'/\w'.ownsRow B 3 1 v' (L.filter fun x=> !p x).length ((L.filter fun x=> !p x).flatMap csI)/\w.grownBy w' v.ownBlock:=by
 have h0:=h;rcases h.2 with⟨rfl,h1⟩|⟨g,cap,cur,rfl,_,_,hcap,_⟩
 . have hN:L=[]:=yG.1 h1;subst hN;refine(delI_none none 0 _ w).mono ?_;rintro e w' ⟨rfl,rfl⟩;exact⟨_,rfl,by simpa using h0,⟨rfl,rfl,rfl,zD _,fun _ _ _=>rfl⟩⟩
 . have hmod:∀x,x%m<m:=fun x=>Nat.mod_lt _ hm0
   have hfil:(L.filter fun x=> !p (x%m))=L.filter fun x=> !p x:=List.filter_congr fun x hx=>by rw[Nat.mod_eq_of_lt (hm x hx)]
   have h2:=h0;rw[map_encM hm]at h2;have hgl:=(h0.lt g rfl).2;have hgive:∀W:World,(∀k,k<w.heap.size->(Value.slice (some ⟨g,0,none⟩) L.length cap).ownBlock≠some k->W.heap[k]?=w.heap[k]?)->∀x,FnGives Tryz.prog 122 lb #[encM m x] (.bool (p (x%m))) W:=fun W hW x=>by
    refine(hp W hW (x%m) (hmod x)).mono ?_;rintro e w' ⟨he,hw⟩;exact⟨he,0,by rw[hw];rfl⟩
   have C:=Tryz.slices_DeleteFunc (encM m) (fun _=>rfl) (fun x=>p (x%m)) 122 lb (fun args w=>by kernel_rfl) 0 (fun w=>by kernel_rfl) g 0 cap L.toArray w (fun W x hb=>hgive W (fun k hk _=>hb.block k hk) x) (fun n os dk x _=>hgive _ (fun k hk hne=>(sort_grown (enc:=encM m) (q:=n) (d:=dk) (os:=os)).block k hk (by simpa[Value.ownBlock]using fun e=>hne (by simp[Value.ownBlock,e]))) x) (own_holds h2 (by simp)) (by simp;omega) (by simp;exact hcap);rw[List.size_toArray]at C;refine C.mono ?_;rintro e w' ⟨rfl,q,rfl⟩;have hle:(L.filter fun x=> !p x).length<=L.length:=yD _ _;refine⟨_,rfl,?_,?_⟩
   . have h3:=ownsRow_putRow (q:=q) (k:=(L.filter fun x=> !p x).length) (ys:=(L.filter fun x=> !p x)++List.replicate (L.length-(L.filter fun x=> !p x).length) 0) h2 (by rw[zG,List.length_replicate];omega) hle;rw[List.take_left'  rfl,<- map_encM (fun k hk=>hm k (zV.1 hk).1)]at h3;simp only[hfil];exact h3
   . have h4:=sort_grown (enc:=encM m) (w:=w) (g:=g) (q:=q) (d:=((L.filter fun x=> !p (x%m))++List.replicate (L.length-(L.filter fun x=> !p (x%m)).length) 0).toArray) (os:=#[]);exact⟨h4.os,h4.tape,h4.output,by simp[Sort.ahead],fun k hk hne=>by have:=h4.block k hk hne;simpa[grow]using this⟩
end Go.Proofs.YtdalcipmpelifaaGreatDoor
namespace Go.Proofs.YtdalcipmpelifaaGreatDoor
open Go.RowKit Go.Shelf
set_option maxHeartbeats 2000000 in
theorem groups1_any{w:World}{F:Nat->Prop}{cb slot n:Nat}{v:Value}{c:Ch}(hbox:w.cell? ⟨cb,0,none⟩=some v)(hc:ChR F w v n c)(hs:slot<c.length):
 Calls Tryz.prog 122 #[.int .i64 (slot:Int),.pointer (some ⟨cb,0,none⟩)] w fun e w'=>e=.returned (.bool (decide ((atC c slot).length=1)))/\w'=w:=by
 obtain⟨rows,hrc,hsl,hat,hbd⟩:=hc.ex;have hrl:rows.length=c.length:=by rw[<- hrc,zH]
 obtain⟨ao,cap,hv⟩:=hsl.slice;obtain⟨nr,hnr⟩:∃k,k=rows.length:=⟨_,rfl⟩
 rw[<- hnr]at hv;subst hv;obtain⟨r,hr⟩:∃r,rows[slot]?=some r:=⟨_,zB (by omega)⟩
 have hcs:atC c slot=r.2:=by unfold atC;rw[<- hrc,List.getD,zI,hr];rfl
 obtain⟨g,off,hao,_,hgl,hcell⟩:=hsl.get hr;subst hao;have c0:=hcell 0 _ rfl;rw[yK,yF]at c0;obtain⟨_,ra,rcap,hre,_⟩:=hat r (zC hr);rw[hre]at c0;obtain⟨k,hk⟩:∃k,k=r.2.length:=⟨_,rfl⟩
 rw[hcs,<- hk];rw[<- hk]at c0;have hsI:(slot:Int)<(nr:Int):=by omega
 have hsN:slot<nr:=by omega
 have hk2:=(hbd r (zC hr)).2;rw[<- hk]at hk2;clear hcell hcs hrc hat hbd hc hsl hr hre hk hnr hrl hs hgl;by_cases h1:k=1
 . subst h1;go_enter Tryz.func122,Tryz.ntmps122;go_wp2;all_goals (first|(go_ret;exact⟨rfl,rfl⟩)|exact⟨rfl,rfl⟩)
 . obtain⟨f1,g1⟩:=nz_int h1;have f2:¬(k:Int)=1:=by omega
   have g2:((k:Int)==1)=false:=by simp;omega
   have hd:decide (k=1)=false:=decide_eq_false h1;rw[hd];go_enter Tryz.func122,Tryz.ntmps122;go_wp2;all_goals (first|(go_ret;exact⟨rfl,rfl⟩)|exact⟨rfl,rfl⟩)
theorem QRow.natC{B:Nat}{w:World}{u:Value}{L:List Nat}(h:QRow B w u L):NatC (QB u) w u L:=by
 rcases h with⟨rfl,rfl⟩|⟨g,off,cap,cur,rfl,e2,e3,e4,e5,e6⟩
 . exact⟨SlS.nil _ _,none,0,rfl,zD _⟩
 . refine⟨⟨_,cap,rfl,.inr ⟨g,off,rfl,⟨off,_,cap,rfl⟩,lt_of_block e3,fun j x hx c u hu=>?_⟩⟩,_,cap,rfl,e5⟩
   match c,hu with
   |0,hu=>
    simp at hu;subst hu;rw[yK,yF];simp only[World.cell?,e3];exact e6 j x hx
   |c+1,hu=>simp at hu
theorem QRow.other{B:Nat}{w:World}{u:Value}{L:List Nat}(h:QRow B w u L){k:Nat}(hk:QB u k){A n:Nat}{v:Value}{xs:List Value}(ho:w.ownsRow A 56 1 v n xs):v.ownBlock≠some k:=fun e=>by
 obtain⟨off,n1,c1,e1⟩:=hk;rcases h with⟨h1,_⟩|⟨g,off2,cap,cur,e2,_,e3,_⟩
 . rw[h1]at e1;cases e1
 . rw[e2]at e1;injection e1 with e1;injection e1 with e1;injection e1 with e1;subst e1;rcases ho.2 with⟨rfl,_⟩|⟨g2,cap2,cur2,rfl,_,e5,_⟩
   . simp[Value.ownBlock]at e
   . have:g2=g:=by simpa[Value.ownBlock]using e
     subst this;rw[e3]at e5;injection e5 with e5;injection e5 with _ e6;exact absurd e6 (by decide)
structure GrM (w:World) (D:Nat->Prop) (wr:World) (ug:Value) (rows:List (Value×List Nat)) (us:List (Value×List Nat)):Prop where
 bel:Below w.heap.size w wr
 row:wr.ownsRow w.heap.size 56 1 ug rows.length (rows.flatMap csRow)
 ats:∀r∈rows,NatC D wr r.1 r.2
 dl:∀k,D k->w.heap.size<=k/\k<wr.heap.size
 dg:∀k,D k->ug.ownBlock≠some k
 dq:∀u∈us,∀k,QB u.1 k->¬D k
 qs:∀u∈us,QRow w.heap.size wr u.1 u.2
 ap:∀(i j:Nat) u v,us[i]?=some u->us[j]?=some v->i≠j->∀k,QB u.1 k->¬QB v.1 k
theorem GrM.grow{w wr w':World}{D:Nat->Prop}{ug:Value}{rows us:List (Value×List Nat)}{i:Nat}{u u':Value}{L L':List Nat}(h:GrM w D wr ug rows us)(hi:us[i]?=some (u,L))(hz:wr.heap.size<=w'.heap.size)(ho:w'.os=wr.os)(ht:w'.tape=wr.tape)(hu:w'.output=wr.output)(hk:∀k,k<wr.heap.size->¬QB u k->w'.heap[k]?=wr.heap[k]?)(hq:QRow w.heap.size w' u' L')(hn:∀k,QB u' k->QB u k\/(wr.heap.size<=k/\k<w'.heap.size)):GrM w D w' ug rows (us.set i (u',L')):=by
 have hil:=(zE.1 hi).1;have him:=zC hi;have hqu:=h.qs _ him;dsimp only at hqu;have hcase:∀y∈us.set i (u',L'),y=(u',L')\/∃j,j≠i/\us[j]?=some y:=fun y hy=>by
  obtain⟨j,hj⟩:=List.getElem?_of_mem hy;rw[List.getElem?_set]at hj;by_cases ej:i=j
  . rw[if_pos ej,if_pos (by omega)]at hj;injection hj with hj;exact .inl hj.symm
  . rw[if_neg ej]at hj;exact .inr ⟨j,fun e=>ej e.symm,hj⟩
 refine⟨⟨ho.trans h.bel.os,ht.trans h.bel.tape,hu.trans h.bel.output,zQ h.bel.size hz,fun k hk2=>?_⟩,?_,fun r hr=>?_,fun k hk2=>⟨(h.dl k hk2).1,zO (h.dl k hk2).2 hz⟩,h.dg,fun y hy k hk2 hd=>?_,fun y hy=>?_,fun a b x y hx hy hab k h1 h2=>?_⟩
 . exact(hk k (zO hk2 h.bel.size) (fun hb=>by have:=(hqu.lt hb).1;omega)).trans (h.bel.block k hk2)
 . exact owns_key h.row (fun g o hg ho2=>(hk g (lt_of_block ho2) (fun hb=>hqu.other hb h.row hg)).trans ho2)
 . exact(h.ats r hr).keep hz (fun k hk2 hk3=>⟨hk2,hk k hk3 (fun hb=>h.dq _ him k hb hk2)⟩)
 . rcases hcase y hy with rfl|⟨j,hne,hj⟩
   . rcases hn k hk2 with h3|h3
     . exact h.dq _ him k h3 hd
     . have:=(h.dl k hd).2;omega
   . exact h.dq y (zC hj) k hk2 hd
 . rcases hcase y hy with rfl|⟨j,hne,hj⟩
   . exact hq
   . have hqy:=h.qs y (zC hj);exact hqy.keep (fun g _ hg=>hk g (hqy.lt hg).2 (fun hb=>h.ap j i y (u,L) hj hi hne g hg hb))
 . rw[List.getElem?_set]at hx hy;by_cases ea:i=a
   . rw[if_pos ea,if_pos (by omega)]at hx;injection hx with hx;subst hx;rw[if_neg (fun e=>hab (ea.symm.trans e))]at hy;rcases hn k h1 with h3|h3
     . exact h.ap i b (u,L) y hi hy (fun e=>hab (ea.symm.trans e)) k h3 h2
     . have:=((h.qs y (zC hy)).lt h2).2;omega
   . rw[if_neg ea]at hx;by_cases eb:i=b
     . rw[if_pos eb,if_pos (by omega)]at hy;injection hy with hy;subst hy;rcases hn k h2 with h3|h3
       . exact h.ap a i x (u,L) hx hi (fun e=>ea e.symm) k h1 h3
       . have:=((h.qs x (zC hx)).lt h1).2;omega
     . rw[if_neg eb]at hy;exact h.ap a b x y hx hy hab k h1 h2
theorem GrM.below{w wr w':World}{D:Nat->Prop}{ug:Value}{rows us:List (Value×List Nat)}(h:GrM w D wr ug rows us)(hb:Below wr.heap.size wr w'):GrM w D w' ug rows us:=
 ⟨h.bel.trans (hb.mono h.bel.size),owns_key h.row (fun g _ _ ho=>(hb.block g (lt_of_block ho)).trans ho),fun r hr=>(h.ats r hr).below hb,fun k hk=>⟨(h.dl k hk).1,zO (h.dl k hk).2 hb.size⟩,h.dg,h.dq,fun u hu=>(h.qs u hu).keep (fun g _ hg=>hb.block g ((h.qs u hu).lt hg).2),h.ap⟩
theorem GrM.turn{w wr:World}{D:Nat->Prop}{ug:Value}{rows us vs:List (Value×List Nat)}(h:GrM w D wr ug rows us)(hd:∀u∈vs,∀k,QB u.1 k->¬D k)(hq:∀u∈vs,QRow w.heap.size wr u.1 u.2)(ha:∀(i j:Nat) u v,vs[i]?=some u->vs[j]?=some v->i≠j->∀k,QB u.1 k->¬QB v.1 k):GrM w D wr ug rows vs:=
 ⟨h.bel,h.row,h.ats,h.dl,h.dg,hd,hq,ha⟩
theorem GrM.put{w wr w':World}{D:Nat->Prop}{ug ug' u o:Value}{rows:List (Value×List Nat)}{G O:List Nat}(h:GrM w D wr ug rows [(u,G),(o,O)])(hg:wr.grownBy w' ug.ownBlock)(hrow:w'.ownsRow w.heap.size 56 1 ug' (rows++[(u,G)]).length ((rows++[(u,G)]).flatMap csRow))(hnew:∀g,ug'.ownBlock=some g->ug.ownBlock=some g\/wr.heap.size<=g):GrM w (fun k=>D k\/QB u k) w' ug' (rows++[(u,G)]) [(o,O)]:=by
 have hu:=h.qs (u,G) (by simp);have ho:=h.qs (o,O) (by simp);dsimp only at hu ho;have hkq:∀k,QB u k->w'.heap[k]?=wr.heap[k]?:=fun k hk=>hg.block k (hu.lt hk).2 (fun e=>hu.other hk h.row e.symm)
 have hko:∀k,QB o k->w'.heap[k]?=wr.heap[k]?:=fun k hk=>hg.block k (ho.lt hk).2 (fun e=>ho.other hk h.row e.symm)
 have hkd:∀k,D k->w'.heap[k]?=wr.heap[k]?:=fun k hk=>hg.block k (h.dl k hk).2 (fun e=>h.dg k hk e.symm)
 refine⟨⟨hg.os.trans h.bel.os,hg.tape.trans h.bel.tape,hg.output.trans h.bel.output,zQ h.bel.size hg.size,fun k hk=>?_⟩,hrow,fun r hr=>?_,fun k hk=>?_,fun k hk e=>?_,fun y hy k hk hd=>?_,fun y hy=>?_,fun a b x y hx hy hab=>?_⟩
 . exact(hg.block k (zO hk h.bel.size) (fun e=>by have:=(h.row.lt k e.symm).1;omega)).trans (h.bel.block k hk)
 . rcases zN.1 hr with hr|hr
   . exact(h.ats r hr).keep hg.size (fun k hk _=>⟨.inl hk,hkd k hk⟩)
   . rw[zJ.1 hr];exact hu.natC.keep hg.size (fun k hk _=>⟨.inr hk,hkq k hk⟩)
 . rcases hk with hk|hk
   . exact⟨(h.dl k hk).1,zO (h.dl k hk).2 hg.size⟩
   . exact⟨(hu.lt hk).1,zO (hu.lt hk).2 hg.size⟩
 . rcases hnew k e with h1|h1
   . rcases hk with hk|hk
     . exact h.dg k hk h1
     . exact hu.other hk h.row h1
   . rcases hk with hk|hk
     . have:=(h.dl k hk).2;omega
     . have:=(hu.lt hk).2;omega
 . rw[zJ.1 hy]at hk;rcases hd with hd|hd
   . exact h.dq (o,O) (by simp) k hk hd
   . exact h.ap 1 0 (o,O) (u,G) rfl rfl (by decide) k hk hd
 . rw[zJ.1 hy];exact ho.keep (fun g _ hgq=>hko g hgq)
 . have ha:=(zE.1 hx).1;have hb:=(zE.1 hy).1;simp at ha hb;omega
theorem cloneI_all{S:Nat->Prop}{w:World}{v:Value}{L:List Nat}(h:NatS S w v L)(hL:L.length<=1000000000):
 Calls Tryz.prog 72 #[v] w fun e w'=>∃v',e=.returned v'/\w'.ownsRow w.heap.size 3 1 v' L.length (L.flatMap csI)/\Below w.heap.size w w':=by
 by_cases h0:L=[]
 . subst h0;obtain⟨ao,cap,e,_⟩:=h;subst e;cases ao with
   |none=>
    refine(Tryz.slices_Clone_int_nil 0 cap w).mono ?_;rintro e w' ⟨rfl,hw⟩;exact⟨_,rfl,World.ownsRow_nil _ _ _ _,by rw[hw];exact zF _ _⟩
   |some ad=>
    refine(Tryz.slices_Clone_int_zero ad cap w).mono ?_;rintro e w' ⟨v',rfl,h1,_,h2⟩;exact⟨v',rfl,h1,h2⟩
 . exact cloneI_any h h0 hL
def openX(c:Ch)(X:List Nat):List Nat:=X.filter fun k=> !decide ((atC c k).length=1)
theorem open_begin{w w0 w1:World}{F:Nat->Prop}{cv v1:Value}{n:Nat}{c:Ch}{X:List Nat}(hc:ChR F w cv n c)(hc0:0<c.length)(hX:∀k∈X,k<c.length)(hXl:X.length<=1000)(hw0:w0=w.alloc (.cells #[cv] 112))
 (hown:w1.ownsRow w0.heap.size 3 1 v1 X.length (X.flatMap csI)) (hb:Below w0.heap.size w0 w1):
 Calls Tryz.prog 121 #[v1,.func (.func 122) #[] #[.pointer (some ⟨w.heap.size,0,none⟩)]] w1 fun e w2=>∃v2,e=.returned v2/\GrM w (fun _=>False) w2 (.slice none 0 0) [] [(v2,openX c X)]:=by
 have hz0:w0.heap.size=w.heap.size+1:=by rw[hw0];simp
 have hb0:Below w.heap.size w w0:=by rw[hw0];exact(zF _ _).alloc (zD _) _
 have hbx:w0.heap[w.heap.size]?=some (.cells #[cv] 112 (0,0)):=by rw[hw0];exact heap_alloc_new _ _
 have hnb:∀k,k<w0.heap.size->v1.ownBlock≠some k:=fun k hk e=>by have:=(hown.lt k e).1;omega
 have hz1:=hb.size;refine(delI_any (p:=fun x=>decide ((atC c x).length=1)) hown (by omega) hc0 hX (lb:=#[.pointer (some ⟨w.heap.size,0,none⟩)]) (fun W hW x hx=>?_)).mono ?_
 . have hold:∀k,k<w0.heap.size->W.heap[k]?=w0.heap[k]?:=fun k hk=>(hW k (by omega) (hnb k hk)).trans (hb.block k hk)
   have h1:=(hold w.heap.size (by omega)).trans hbx;have hsz:w.heap.size<=W.heap.size:=by have:=lt_of_block h1;omega
   exact groups1_any (F:=F) (n:=n) (by simp[World.cell?,h1]) (hc.keep hsz (fun k hk hk2=>⟨hk,(hold k (by omega)).trans (hb0.block k hk2)⟩)) hx
 . rintro e w2 ⟨v2,rfl,h1,h2⟩;have hq:=QRow.of_own h1;have hbel:Below w.heap.size w w2:=⟨h2.os.trans (hb.os.trans hb0.os),h2.tape.trans (hb.tape.trans hb0.tape),h2.output.trans (hb.output.trans hb0.output),by have:=h2.size;have:=hb0.size;omega,fun k hk=>(h2.block k (by omega) (fun e=>hnb k (by omega) e.symm)).trans ((hb.block k (by omega)).trans (hb0.block k hk))⟩
   refine⟨v2,rfl,hbel,World.ownsRow_nil _ _ _ _,fun r hr=>by simp at hr,fun _ hk=>hk.elim,fun _ hk=>hk.elim,fun _ _ _ _ hk=>hk,fun u hu=>?_,fun i j u v hu hv hij=>?_⟩
   . rw[zJ.1 hu];rcases hq with hq|⟨g,off,cap,cur,e1,e2,e3⟩
     . exact .inl hq
     . exact .inr ⟨g,off,cap,cur,e1,by omega,e3⟩
   . have ha:=(zE.1 hu).1;have hb:=(zE.1 hv).1;simp at ha hb;omega
end Go.Proofs.YtdalcipmpelifaaGreatDoor
