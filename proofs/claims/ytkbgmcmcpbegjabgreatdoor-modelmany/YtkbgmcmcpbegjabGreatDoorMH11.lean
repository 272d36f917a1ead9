/- MFlat. -/
import Derived.Test.YtkbgmcmcpbegjabGreatDoorMH5
set_option maxRecDepth 100000
namespace Go.Proofs.YtkbgmcmcpbegjabGreatDoor
open Go.RowKit
def FlatQ(na nv:Nat)(e:Ending):Prop:=∃b:Bool,e=.returned (.bool b)/\(b=true->na<=21/\nv<=40)
set_option maxHeartbeats 4000000 in
theorem rFlatQ_any{w:World}{q:Qm}(h:QOk (fun _=>True) w q):
 Calls Tryz.prog 24 #[.agg #[.int .i64 0,q.vv,q.av,.slice none 0 0]] w fun e w'=>FlatQ q.atoms.length q.vars.length e/\Below w.heap.size w w':=by
 have CC:Hid (∀a∈q.atoms,∀u,Below w.heap.size w u->Calls Tryz.prog 46 #[encN a.2.1,.int .i64 40] u fun e w'=>(∃z:Int,e=.returned (.int .i64 z))/\Below u.heap.size u w'):=zA (fun a ha u hu=>rCount_any a.2.1 40 u ((h.ok a ha).below hu));have HA:=zA h.ats;have HOK:=zA h.ok;have hal:=h.al;have hvl:=h.vl;obtain⟨va,vc,hvv⟩:=h.vs.slice;obtain⟨aa,ac,hav⟩:=h.ats.slice;obtain⟨na,hna⟩:∃n,n=q.atoms.length:=⟨_,rfl⟩
 obtain⟨nv,hnv⟩:∃n,n=q.vars.length:=⟨_,rfl⟩
 rw[<- hna]at hav hal;rw[<- hnv]at hvv hvl;rw[hav]at HA;rw[hvv,hav,<- hna,<- hnv];have HNA:=zA hna;clear h hvv hav hna hnv;obtain⟨o,ho⟩:∃o,o=Obj.cells #[.int .i64 0,.slice va nv vc,.slice aa na ac,.slice none 0 0] 56:=⟨_,rfl⟩
 have HO:=zA ho;have HC:Hid (∀wr,Below (w.alloc o).heap.size (w.alloc o) wr->wr.cell? ⟨w.heap.size,1,none⟩=some (.slice va nv vc)/\wr.cell? ⟨w.heap.size,2,none⟩=some (.slice aa na ac)/\wr.cell? ⟨w.heap.size,3,none⟩=some (.slice none 0 0)):=zA (fun wr hb=>by
  have h:=box_keptQ hb;rw[HO.out]at h;simp[World.cell?,h])
 have HB0:Hid (Below (w.alloc o).heap.size (w.alloc o) (w.alloc (.cells #[.int .i64 0,.slice va nv vc,.slice aa na ac,.slice none 0 0] 56))):=zA (by rw[HO.out];exact zF _ _);clear ho;go_enter Tryz.func24,Tryz.ntmps24;go_wp2_with fail;go_loopw [3] (fun c wr=>∃i:Nat,i<=na/\i<=21/\c=.int .i64 i/\Below (w.alloc o).heap.size (w.alloc o) wr) (fun c _=>na-(intOf c).toNat)
 case atStart=>exact⟨0,zR _,by omega,rfl,HB0.out⟩
 case round=>
  obtain⟨i,hi,hi21,rfl,hbq⟩:=hrel;obtain⟨wx,hwx⟩:∃wx,wx=wr:=⟨_,rfl⟩
  subst hwx;have HBQ:=zA hbq;clear hbq;obtain⟨c1,c2,c3⟩:=HC.out _ HBQ.out;by_cases hlt:i<na
  . have hltI:(i:Int)<(na:Int):=by omega
    by_cases h20:(20:Int)<(i:Int)
    . have h20b:decide ((20:Int)<(i:Int))=true:=yA h20;go_wp2;go_ret;exact⟨⟨false,rfl,by simp⟩,below_boxQ HBQ.out⟩
    . have h20b:decide ((20:Int)<(i:Int))=false:=decide_eq_false h20;obtain⟨a,ha⟩:∃x,q.atoms[i]?=some x:=⟨_,zB (by rw[<- HNA.out];exact hlt)⟩
      have ham:=zC ha;obtain⟨g,off,haa,_,hgl,hcell⟩:=(HA.out.below (below_boxQ HBQ.out)).get ha;subst haa;obtain⟨q0,q1,q2,q3,q4,q5,q6⟩:=getA hcell;have C3:=zA (CC.out a ham);have HAOK:=zA (HOK.out a ham);obtain⟨⟨b1,t1⟩,⟨k,wd,v,l⟩,⟨b2,t2⟩⟩:=a;obtain⟨ka,kc,hkv⟩:=HAOK.out.parts.1.slice;dsimp only at hkv q0 q1 q2 q3 q4 q5 q6;subst hkv;obtain⟨kn,hkn⟩:∃n,n=l.length:=⟨_,rfl⟩
      rw[<- hkn]at C3 q4;clear hcell ha ham hkn HAOK;go_wp2_with fail;refine(C3.out _ (below_boxQ HBQ.out)).mono ?_;rintro e w2 ⟨⟨z,rfl⟩,hb2⟩;have HB2:=zA (HBQ.out.trans (hb2.mono HBQ.out.size));clear hb2 c1 c2 c3 q0 q1 q2 q3 q4 q5 q6;by_cases hz:(400:Int)<z
      . have hd:decide ((400:Int)<z)=true:=yA hz;go_wp2;go_ret;exact⟨⟨false,rfl,by simp⟩,below_boxQ HB2.out⟩
      . have hd:decide ((400:Int)<z)=false:=decide_eq_false hz;go_wp2;go_roundw
        case rel=>exact⟨i+1,by omega,by omega,by go_num,HB2.out⟩
        case measure=>simp[intOf];omega
  . have hltI:¬(i:Int)<(na:Int):=by omega
    by_cases h40:(nv:Int)<=40
    . have h40b:decide ((nv:Int)<=40)=true:=yA h40;have HY:Hid (na<=21/\nv<=40):=zA (by omega);go_wp2;go_ret;exact⟨⟨true,rfl,fun _=>HY.out⟩,below_boxQ HBQ.out⟩
    . have h40b:decide ((nv:Int)<=40)=false:=decide_eq_false h40;go_wp2;go_ret;exact⟨⟨false,rfl,by simp⟩,below_boxQ HBQ.out⟩
end Go.Proofs.YtkbgmcmcpbegjabGreatDoor
