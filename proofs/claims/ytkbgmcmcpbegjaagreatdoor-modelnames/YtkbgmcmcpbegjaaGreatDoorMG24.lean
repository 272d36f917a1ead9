/- ABoth. -/
import Derived.Test.YtkbgmcmcpbegjaaGreatDoorMG20
set_option maxRecDepth 100000
namespace Go.Proofs.YtkbgmcmcpbegjaaGreatDoor
open Go.RowKit Go.Shelf
theorem run_append_many{w:World}{B n k:Nat}{v:Value}{xs:List Value}{t e:TypeId}{i0:TypeInfo}{z:Value}{bytes:Nat}(ht:Tryz.prog.underlying t=some (.slice e))(hi:Tryz.prog.info? e=some i0)(hz0:i0.zero=some z)(hz1:i0.size=k)(hz2:i0.bytes=bytes)(hz3:z.cells.size=k)(hk:0<k)
 (hown:w.ownsRow B e k v n xs) (ao:Option Addr) (us:List Value) (m cap:Nat) (hm:us.length=m*k) (hnone:ao=none->m=0/\cap=0) (hc:∀ad,ao=some ad->∀j u,us[j]?=some u->w.cell? (ad.add j)=some u) (h1:∀u∈us,u.oneCell'=true)
 (h63:n+m<=maxLen) (hb:(n+m)*bytes<=140737488355328) (hB:B<=w.heap.size) (ty:TypeId):
 ∃v' w',(Builtin.append_ #[t,t] ty #[v,.slice ao m cap]).run Tryz.prog w=.ok v' w'/\w'.ownsRow B e k v' (n+m) (xs++us)/\w.grownBy w' v.ownBlock:=by
 cases ao with
 |some ad=>
  obtain⟨v',w',hr,h2,h3,_,_⟩:=run_append_own_at (P:=Tryz.prog) w B t ty e i0 z k bytes ht hi hz0 hz1 hz2 hz3 hk v n xs hown ad m cap us hm (hc ad rfl) h1 h63 hb hB;exact⟨v',w',hr,h2,h3⟩
 |none=>
  obtain⟨rfl,rfl⟩:=hnone rfl;have e0:us=[]:=yL.1 (by omega);subst e0;have hrun:=run_append_owned_none (P:=Tryz.prog) w B t ty e i0 k ht hi v n xs hown;exact⟨v,w,hrun,by simpa using hown,World.grownBy.refl _ _⟩
theorem wpList_append_many{w:World}{ops:Array Oper}{rest:List Oper}{o:Oper}{a:Act}{Q:Exit->Act->World->Prop}(hgd:o.guard=none)(sl x:Operand){t:TypeId}
 (ho:o.op=.call { callee:=.builtin .append,args:=#[sl,x],argTypes:=#[t,t] })
 {B n k:Nat} {v:Value} {xs:List Value} {e:TypeId} {i0:TypeInfo} {z:Value} {bytes:Nat} (ht:Tryz.prog.underlying t=some (.slice e)) (hi:Tryz.prog.info? e=some i0) (hz0:i0.zero=some z) (hz1:i0.size=k) (hz2:i0.bytes=bytes) (hz3:z.cells.size=k) (hk:0<k)
 (hs:a.eval sl=v) (hown:w.ownsRow B e k v n xs) (ao:Option Addr) (us:List Value) (m cap:Nat) (hx:a.eval x=.slice ao m cap) (hm:us.length=m*k) (hnone:ao=none->m=0/\cap=0) (hc:∀ad,ao=some ad->∀j u,us[j]?=some u->w.cell? (ad.add j)=some u) (h1:∀u∈us,u.oneCell'=true)
 (h63:n+m<=maxLen) (hb:(n+m)*bytes<=140737488355328) (hB:B<=w.heap.size)
 (h:∀v' w',w'.ownsRow B e k v' (n+m) (xs++us)->w.grownBy w' v.ownBlock->wpList Tryz.prog ops Q rest (a.put o.dst v') w'):wpList Tryz.prog ops Q (o::rest) a w:=by
 refine wpList_plain hgd fun K hK=>?_
 obtain⟨v',w',hr,h2,h3⟩:=run_append_many ht hi hz0 hz1 hz2 hz3 hk hown ao us m cap hm hnone hc h1 h63 hb hB o.type;unfold Oper.wp execOp;simp only[ho,resolve,invoke,builtin,Sem.run_bind,Sem.run_pure,Result.andThen_ok,List.map_toArray,List.map_cons,List.map_nil,hs,hx,hr];exact hK _ _ (h v' w' h2 h3)
section
variable {α:Type} {enc:α->List Value} {k:Nat}
end
end Go.Proofs.YtkbgmcmcpbegjaaGreatDoor
