/- GEach. -/
import Derived.Test.YtkbgmcmcpbegjabGreatDoorMH13
import Derived.Deep.LoopGhost
import Derived.WalkMore
import Derived.Shelf.GgClosure.Gives
set_option maxRecDepth 100000
namespace Go.Proofs.YtkbgmcmcpbegjabGreatDoor
open Go.RowKit
structure LstS (S:Nat->Prop) (w:World) (v:Value) (L:List (Value×List Nat)):Prop where
 row:SlS csRow 1 S w v L
 ats:∀r∈L,NatS S w r.1 r.2
theorem LstS.fr{S:Nat->Prop}{w w':World}{v:Value}{L:List (Value×List Nat)}(h:LstS S w v L)(hf:Fr S w w'):LstS S w' v L:=
 ⟨h.row.fr hf,fun r hr=>(h.ats r hr).fr hf⟩
theorem LstS.sub{S T:Nat->Prop}{w:World}{v:Value}{L:List (Value×List Nat)}(h:LstS S w v L)(hs:∀b,S b->b<w.heap.size->T b):LstS T w v L:=
 ⟨h.row.sub hs,fun r hr=>(h.ats r hr).sub hs⟩
theorem LstS.below{S:Nat->Prop}{w w':World}{v:Value}{L:List (Value×List Nat)}(h:LstS S w v L)(hb:Below w.heap.size w w'):LstS S w' v L:=
 ⟨h.row.below hb,fun r hr=>(h.ats r hr).below hb⟩
def FoundC(fn:Nat)(lb:Array Value)(sb:Nat)(d:Sd)(L:List (Value×List Nat))(Inv:Nat->(Nat->Prop)->World->Prop):Prop:=
 ∀(i:Nat) (r:Value×List Nat) (S:Nat->Prop) (w:World) (s:Ss) (m:Sp),L[i]?=some r->Low S w->SrS S w sb d s m->Rest d s->(∀v p,(s.came.getD v 0).testBit p=true↔d.Rch r.2 v p)->Inv i S w->
  Calls Tryz.prog fn (#[.int .i64 (i:Int)]++lb) w fun e w'=>e=.returned (.tuple #[])/\∃T,(∀k,S k->T k)/\Low T w'/\SrS T w' sb d s m/\Inv (i+1) T w'
def EachE(S:Nat->Prop)(sb:Nat)(d:Sd)(n:Nat)(Inv:Nat->(Nat->Prop)->World->Prop)(e:Ending)(w':World):Prop:=
 e=.returned (.tuple #[])/\∃(T:Nat->Prop) (s:Ss) (m:Sp),(∀k,S k->T k)/\Low T w'/\SrS T w' sb d s m/\Rest d s/\Inv n T w'
theorem fold_bits{d:Sd}(hd:d.Ok){st:List Nat}{s:Ss}{l:List Nat}{u:Nat}(h:Run d st s exN)(ht:s.todo=l++[u]){v p:Nat}(hv:(s.came.getD v 0).testBit p=true)(i:Nat):((((d.out u).take i).foldl (fun s' t=>s'.come t.1 (behS d 25 (s.fresh.getD u 0) &&& t.2)) (s.pop l u)).came.getD v 0).testBit p=true:=by
 induction i with
 |zero=>exact hv
 |succ i ih=>
  cases hg:(d.out u)[i]? with
  |none=>
   have hlen:(d.out u).length<=i:=List.getElem?_eq_none_iff.1 hg;rw[zK (by omega)]at ih ⊢;exact ih
  |some t=>
   rw[zU,hg,yR,List.foldl_append,yN,List.foldl_nil];have h1:=(fold_step hd h ht i).1;have hmem:∃l∈d.steps,t∈l:=by
    unfold Sd.out at hg;rw[List.getD]at hg;cases hg2:d.steps[u]? with
    |none=>rw[hg2]at hg;simp at hg
    |some l=>rw[hg2]at hg;exact⟨l,zC hg2,zC hg⟩
   obtain⟨l2,hl2,hm⟩:=hmem;obtain⟨h2,h3⟩:=hd.step l2 hl2 t hm;rw[come_bits _ h1.cl h1.cb h2 (Nat.lt_of_le_of_lt Nat.and_le_right (by omega))];exact .inl ih
theorem goOn_bits{d:Sd}(hd:d.Ok){st:List Nat}{s:Ss}{l:List Nat}{u:Nat}(h:Run d st s exN)(ht:s.todo=l++[u])(hb:∀v∈st,(s.came.getD v 0).testBit 24=true):∀v∈st,((s.goOn d l u).came.getD v 0).testBit 24=true:=fun v hv=>by
 have:=fold_bits hd h ht (hb v hv) (d.out u).length;rw[List.take_length]at this;exact this
set_option maxHeartbeats 8000000 in
theorem each_any{S:Nat->Prop}{w:World}{sb:Nat}{d:Sd}{s:Ss}{m:Sp}{v:Value}{L:List (Value×List Nat)}{fn:Nat}{lb:Array Value}{Inv:Nat->(Nat->Prop)->World->Prop}
 (eg:∀args w,(callFunc fn args).run Tryz.prog w=.ok (.enter fn args) w)
 (h:SrS S w sb d s m) (hS:Low S w) (hr:Rest d s) (hn:d.n<=10000) (hol:∀u,(d.out u).length<=1000000)
 (hLl:L.length<=1000000) (hv:∀r∈L,(∀u∈r.2,u<d.n)/\r.2.length<=10000)
 (hI:∀i T w w',Inv i T w->Fr T w w'->Inv i T w') (hT:∀i T w,Inv i T w->LstS T w v L/\TabG w/\T 0)
 (hF:FoundC fn lb sb d L Inv) (h0:Inv 0 S w):
 Calls Tryz.prog 28 #[.pointer (some ⟨sb,0,none⟩),v,.func (.func fn) #[] lb] w (EachE S sb d L.length Inv):=by
 have hL:=(hT 0 S w h0).1;obtain⟨ao,cap,rfl⟩:=hL.row.slice;have H:=zA h;have HS:=zA hS;have HR:=zA hr;have HDN:=zA hn;have HOL:=zA hol;have HV:=zA hv;have HI:=zA hI;have HT:=zA hT;have HF:=zA hF;have H0:=zA h0;obtain⟨n,hnn⟩:∃n,n=L.length:=⟨_,rfl⟩
 rw[<- hnn]at hLl ⊢;have HN:=zA hnn;clear h hS hr hn hol hL hv hI hT hF h0 hnn;go_enter Tryz.func28,Tryz.ntmps28;go_wp2_with fail;go_step3;go_wp2_with fail;go_step3;go_wp2_with fail;go_loopg [12] n (fun gg c wr=>∃(i:Nat) (T:Nat->Prop) (s':Ss) (m':Sp),i<=n/\n-i<=gg/\c=.int .i64 i/\Hid (∀k,S k->T k)/\Hid (Low T wr)/\Hid (SrS T wr sb d s' m')/\Hid (Rest d s')/\Hid (Inv i T wr))
 case atStart=>exact⟨0,S,s,m,zR _,Nat.sub_le _ _,rfl,zA (fun _ h=>h),HS,H,HR,H0⟩
 case round=>
  obtain⟨i,T,s',m',hi,hgg,rfl,HST,HLOW,HSR,HRE,HINV⟩:=hrel;obtain⟨wx,hwx⟩:∃wx,wx=wr:=⟨_,rfl⟩
  subst hwx;have HLX:=zA (HT.out i T wx HINV.out).1;by_cases hlt:i<n
  . have hltI:(i:Int)<(n:Int):=by omega
    obtain⟨r,hri⟩:∃r,L[i]?=some r:=⟨_,zB (by rw[<- HN.out];exact hlt)⟩
    obtain⟨g,off,hao,_,_,hcell⟩:=HLX.out.row.get hri;subst hao;have q0:=hcell 0 _ rfl;rw[yF,yJ]at q0;have hrm:=zC hri;have HRI:=zA hri;have C:=zA (begin_anyM HSR.out HLOW.out HRE.out HDN.out (HLX.out.ats r hrm) (HV.out r hrm).1 (HV.out r hrm).2);have HB:=zA (begin_run HRE.out (HV.out r hrm).1 r.2.length);rw[List.take_length]at HB;obtain⟨rv,rl⟩:=r;dsimp only at q0 C HB;clear hri hcell hrm;go_wp2_with fail;refine C.out.mono ?_;rintro e w1 ⟨rfl,⟨m1,hs1⟩,hf1⟩;have HS1:=zA hs1;have HF1:=zA hf1;clear hs1 hf1 q0;obtain⟨wb,hwb⟩:∃wb,wb=w1:=⟨_,rfl⟩
    subst hwb;go_wp2_with fail;obtain⟨sB,hsB⟩:∃s,s=s'.begin rl:=⟨_,rfl⟩
    have HBR:Hid (Run d rl sB exN/\∀v∈rl,(sB.came.getD v 0).testBit 24=true):=zA (by rw[hsB];exact HB.out);rw[<- hsB]at HS1;clear hsB HB;obtain⟨N,hN⟩:∃N,N=mu sB:=⟨_,rfl⟩
    have HMU:=zA hN;clear hN;go_loopg [8] N (fun gg _ wr=>∃(s2:Ss) (m2:Sp),Hid (mu s2<=gg)/\Hid (Run d rl s2 exN)/\Hid (∀v∈rl,(s2.came.getD v 0).testBit 24=true)/\Hid (SrS T wr sb d s2 m2)/\Hid (Fr T wx wr))
    case atStart=>exact⟨sB,m1,zA (by rw[HMU.out];exact zD _),zA HBR.out.1,zA HBR.out.2,HS1,HF1⟩
    case round=>
     obtain⟨s2,m2,HM2,HR2,HG2,HS2,HF2⟩:=hrel;obtain⟨wy,hwy⟩:∃wy,wy=wr:=⟨_,rfl⟩
     subst hwy;cases ht:s2.todo with
     |nil=>
      have CT:=zA (take_none HS2.out ht);have HRE2:=zA (HR2.out.rest ht);have HDO:=zA (fun v p=>HR2.out.done HG2.out ht v p);have hcall:=HF.out i (rv,rl) T wy s2 m2 HRI.out (HLOW.out.fr HF2.out) HS2.out HRE2.out HDO.out (HI.out i T wx wy HINV.out HF2.out);have HCALL:=zA hcall;clear ht hcall;go_wp2_with fail;refine CT.out.mono ?_;rintro e w2 ⟨rfl,hw⟩;subst hw;go_wp2_with (go_at_fn fn;refine HCALL.out.mono ?_;rintro e w3 ⟨rfl,T2,hsub2,hlow2,hsr2,hinv2⟩);go_roundg (n-(i+1))
      case measure=>omega
      case rel=>exact⟨i+1,T2,s2,m2,by omega,zD _,by go_num,zA (fun k hk=>hsub2 k (HST.out k hk)),zA hlow2,zA hsr2,HRE2,zA hinv2⟩
     |cons a t=>
      obtain⟨l,u,hlu⟩:∃l u,s2.todo=l++[u]:=by
       rw[ht];exact⟨(a::t).dropLast,(a::t).getLast (by simp),(List.dropLast_concat_getLast (by simp)).symm⟩
      have CT:=zA (take_some HS2.out (HLOW.out.fr HF2.out) hlu (HR2.out.fit HDN.out).tl);have HLU:=zA hlu;clear ht hlu;go_wp2_with fail;refine CT.out.mono ?_;rintro e w2 ⟨rfl,⟨m3,hs3⟩,hf3⟩;obtain⟨_,htab,ht0⟩:=HT.out i T w2 (HI.out i T wx w2 HINV.out (HF2.out.trans hf3));have CG:=zA (goOn_any hs3 ((HLOW.out.fr HF2.out).fr hf3) htab ht0 HR2.out HLU.out HDN.out (HOL.out u));have HF3:=zA (HF2.out.trans hf3);have HGO:=zA (HR2.out.goOn HS2.out.ok HLU.out);have HBG:Hid (∀v∈rl,((s2.goOn d l u).came.getD v 0).testBit 24=true):=zA (goOn_bits HS2.out.ok HR2.out HLU.out HG2.out);clear hs3 hf3 htab ht0;go_wp2_with fail;refine CG.out.mono ?_;rintro e w4 ⟨rfl,⟨m4,hs4⟩,hf4⟩;have HS4:=zA hs4;have HF4:=zA (HF3.out.trans hf4);clear hs4 hf4;go_wp2;go_roundg (mu (s2.goOn d l u))
      case measure=>have h1:=HGO.out.2;have h2:=HM2.out;omega
      case rel=>exact⟨s2.goOn d l u,m4,zA (zD _),zA HGO.out.1,HBG,HS4,HF4⟩
  . have hltI:¬(i:Int)<(n:Int):=by omega
    have hin:i=n:=by omega
    subst hin;go_wp2;go_end0;exact⟨rfl,T,s',m',HST.out,HLOW.out,HSR.out,HRE.out,HINV.out⟩
end Go.Proofs.YtkbgmcmcpbegjabGreatDoor
