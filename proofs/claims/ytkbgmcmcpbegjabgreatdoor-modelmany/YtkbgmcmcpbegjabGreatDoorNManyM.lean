/- As many rows as may be: all choices of six vertices, without memory. -/
import Derived.Test.YtkbgmcmcpbegjabGreatDoorMH45
import Derived.Test.YtkbgmcmcpbegjabGreatDoorMH9
set_option maxRecDepth 100000
namespace Go.Proofs.YtkbgmcmcpbegjabGreatDoor
open Go.RowKit
theorem nodup_sub_lenN{α:Type}[DecidableEq α]:∀(l m:List α),l.Nodup->(∀r,r∈l->r∈m)->l.length<=m.length
 |[],_,_,_=>by simp
 |x::l,m,hn,hs=>by
  have h1:=nodup_sub_lenN l (m.erase x) (List.nodup_cons.1 hn).2 (fun r hr=>by
   have hne:r≠x:=fun e=>(List.nodup_cons.1 hn).1 (e▸hr)
   exact(List.mem_erase_of_ne hne).2 (hs r (by simp[hr])))
  have hx:=hs x (by simp);rw[List.length_erase_of_mem hx]at h1;have:=List.length_pos_of_mem hx;simp only[List.length_cons];omega
def allR(V:List Wd):Nat->List Rw
 |0=>[[]]
 |k+1=>V.flatMap fun v=>(allR V k).map fun r=>v::r
theorem mem_allR{V:List Wd}:∀ {k:Nat} {r:Rw},r∈allR V k↔r.length=k/\∀x∈r,x∈V
 |0,r=>by
  simp only[allR,List.mem_singleton];constructor
  . rintro rfl;simp
  . rintro⟨h,_⟩;exact List.length_eq_zero_iff.1 h
 |k+1,r=>by
  simp only[allR,List.mem_flatMap,List.mem_map];constructor
  . rintro⟨v,hv,s,hs,rfl⟩;obtain⟨h1,h2⟩:=mem_allR.1 hs;refine⟨by simp[h1],fun x hx=>?_⟩;rcases List.mem_cons.1 hx with rfl|hx
    . exact hv
    . exact h2 x hx
  . rintro⟨h1,h2⟩;cases r with
    |nil=>simp at h1
    |cons v s=>exact⟨v,h2 v (by simp),s,mem_allR.2 ⟨by simpa using h1,fun x hx=>h2 x (by simp[hx])⟩,rfl⟩
theorem allR_len(V:List Wd):∀k,(allR V k).length=V.length^k
 |0=>by simp[allR]
 |k+1=>by
  have h:∀(U:List Wd),(U.flatMap fun v=>(allR V k).map fun r=>v::r).length=U.length*V.length^k:=by
   intro U;induction U with
   |nil=>simp
   |cons u U ih=>rw[List.flatMap_cons,List.length_append,ih,List.length_map,allR_len V k,List.length_cons,Nat.succ_mul];omega
  show (V.flatMap _).length=_;rw[h V,Nat.pow_succ,Nat.mul_comm]
theorem allR_nodup{V:List Wd}(hV:V.Nodup):∀k,(allR V k).Nodup
 |0=>by simp[allR]
 |k+1=>by
  have hk:=allR_nodup hV k;have h:∀(U:List Wd),U.Nodup->(U.flatMap fun v=>(allR V k).map fun r=>v::r).Nodup:=by
   intro U;induction U with
   |nil=>intro _;simp
   |cons u U ih=>
    intro hn;rw[List.flatMap_cons];refine List.nodup_append.2 ⟨?_,ih (List.nodup_cons.1 hn).2,fun a ha b hb e=>?_⟩
    . rw[List.nodup_iff_pairwise_ne,List.pairwise_map];exact hk.imp (fun h e=>h (by simpa using e))
    . subst e;obtain⟨r,_,rfl⟩:=List.mem_map.1 ha;obtain⟨v,hv,hb2⟩:=List.mem_flatMap.1 hb;obtain⟨s,_,e2⟩:=List.mem_map.1 hb2;injection e2 with e3 _;exact(List.nodup_cons.1 hn).1 (e3▸hv)
  exact h V hV
def nmM(i:Nat):Wd:=[UInt8.ofNat (117+i)]
def fcM(i:Nat):Fa:=([UInt8.ofNat (97+i)],[112],[97])
def pMM:Pt:=⟨6,[],[⟨1,[112],[]⟩]⟩
def atM(i:Nat):Pa:=((true,nmM i),pMM,(true,nmM i))
def VM:List Wd:=(List.range 6).map nmM
def PM:List Pa:=(List.range 6).map atM
def fsM(b:Bool):List Fa:=(List.range 4).map fcM++(if b=true then [([101],[112],[97])]else [])
theorem pMM_may:mayP pMM=true:=by
 simp[mayP,pMM,shapedP,leaves_mk,formedP];decide
theorem namesM:namesP PM=VM:=by decide
theorem mayM:mayQ VM PM=true:=by
 have h1:∀a∈PM,mayP a.2.1=true:=fun a ha=>by
  obtain⟨i,_,rfl⟩:=List.mem_map.1 ha;exact pMM_may
 have h2:whyQ VM PM=0:=by
  unfold whyQ;rw[if_neg (fun⟨a,ha,k⟩=>by rw[h1 a ha]at k;cases k),namesM,if_neg (by decide),if_neg (fun h=>h (by decide)),if_neg (fun⟨v,hv,k⟩=>k hv)]
 unfold mayQ;rw[h2];decide
theorem rowMM(fs:List Fa)(r:Rw):RowP fs VM PM r↔r.length=6/\∀x∈r,x∈vertsL fs:=by
 have hl:∀x,leadP fs pMM x x↔x∈vertsL fs:=fun x=>by
  have e:willL pMM=fun l=>l=[]\/willL ⟨1,[112],[]⟩ l:=by
   unfold pMM;rw[willL_mk];funext l;simp[kindL,altL]
  unfold leadP;rw[e,lead_may];exact⟨fun h=>h.elim (fun h=>h.1) (fun h=>h.1),fun h=>.inr ⟨h,rfl⟩⟩
 have hall:∀g:Wd->Wd,(∀a∈PM,leadP fs a.2.1 (tv g a.1) (tv g a.2.2))↔∀i<6,g (nmM i)∈vertsL fs:=fun g=>by
  constructor
  . intro h i hi;exact(hl _).1 (h (atM i) (List.mem_map_of_mem (List.mem_range.2 hi)))
  . intro h a ha;obtain⟨i,hi,rfl⟩:=List.mem_map.1 ha;exact(hl _).2 (h i (List.mem_range.1 hi))
 constructor
 . rintro⟨g,hg,rfl⟩;refine⟨by simp[VM],fun x hx=>?_⟩;obtain⟨v,hv,rfl⟩:=List.mem_map.1 hx;obtain⟨i,hi,rfl⟩:=List.mem_map.1 hv;exact(hall g).1 hg i (List.mem_range.1 hi)
 . rintro⟨h6,hV⟩;have hg:∀i<6,r.getD (((nmM i).getD 0 0).toNat-117) []=r.getD i []:=fun i hi=>by
    have:((nmM i).getD 0 0).toNat-117=i:=by
     show (UInt8.ofNat (117+i)).toNat-117=i;rw[UInt8.toNat_ofNat'];omega
    rw[this]
   refine⟨fun v=>r.getD ((v.getD 0 0).toNat-117) [],(hall _).2 (fun i hi=>?_),?_⟩
   . rw[hg i hi,List.getD,List.getElem?_eq_getElem (by omega)];exact hV _ (List.getElem_mem _)
   . unfold VM;rw[List.map_map];refine List.ext_getElem (by simp[h6]) (fun i h1 h2=>?_);simp only[List.getElem_map,List.getElem_range,Function.comp];have hi:i<6:=by omega
     have:=hg i hi;rw[this,List.getD,List.getElem?_eq_getElem h1];rfl
theorem vertsM_len(b:Bool):(vertsL (fsM b)).length=if b=true then 5 else 4:=by
 have hn:(vertsL (fsM b)).Nodup:=(verts_rise (fsM b)).imp (fun h=>ordW.ne h);cases b
 . have h1:=nodup_sub_lenN (vertsL (fsM false)) [[97],[98],[99],[100]] hn (fun x hx=>by
    obtain⟨f,hf,h⟩:=mem_verts.1 hx;simp[fsM,fcM,List.range,List.range.loop]at hf;rcases hf with rfl|rfl|rfl|rfl<;>(rcases h with rfl|rfl<;>decide))
   have h2:=nodup_sub_lenN [[97],[98],[99],[100]] (vertsL (fsM false)) (by decide) (fun x hx=>by
    simp at hx;rcases hx with rfl|rfl|rfl|rfl
    . exact mem_verts.2 ⟨fcM 0,by simp[fsM,List.range,List.range.loop],.inl rfl⟩
    . exact mem_verts.2 ⟨fcM 1,by simp[fsM,List.range,List.range.loop],.inl rfl⟩
    . exact mem_verts.2 ⟨fcM 2,by simp[fsM,List.range,List.range.loop],.inl rfl⟩
    . exact mem_verts.2 ⟨fcM 3,by simp[fsM,List.range,List.range.loop],.inl rfl⟩)
   simp at h1 h2 ⊢;omega
 . have h1:=nodup_sub_lenN (vertsL (fsM true)) [[97],[98],[99],[100],[101]] hn (fun x hx=>by
    obtain⟨f,hf,h⟩:=mem_verts.1 hx;simp[fsM,fcM,List.range,List.range.loop]at hf;rcases hf with rfl|rfl|rfl|rfl|rfl<;>(rcases h with rfl|rfl<;>decide))
   have h2:=nodup_sub_lenN [[97],[98],[99],[100],[101]] (vertsL (fsM true)) (by decide) (fun x hx=>by
    simp at hx;rcases hx with rfl|rfl|rfl|rfl|rfl
    . exact mem_verts.2 ⟨fcM 0,by simp[fsM,List.range,List.range.loop],.inl rfl⟩
    . exact mem_verts.2 ⟨fcM 1,by simp[fsM,List.range,List.range.loop],.inl rfl⟩
    . exact mem_verts.2 ⟨fcM 2,by simp[fsM,List.range,List.range.loop],.inl rfl⟩
    . exact mem_verts.2 ⟨fcM 3,by simp[fsM,List.range,List.range.loop],.inl rfl⟩
    . exact mem_verts.2 ⟨([101],[112],[97]),by simp[fsM],.inl rfl⟩)
   simp at h1 h2 ⊢;omega
theorem rowsM_len(b:Bool):(rowsW (fsM b) VM PM).length=if b=true then 15625 else 4096:=by
 obtain⟨a1,a2⟩:=rowsW_spec (fsM b) mayM;have hn:(vertsL (fsM b)).Nodup:=(verts_rise (fsM b)).imp (fun h=>ordW.ne h);have hr:(rowsW (fsM b) VM PM).Nodup:=a1.imp (fun h=>ordR.ne h);have h1:=nodup_sub_lenN _ (allR (vertsL (fsM b)) 6) hr (fun r h=>mem_allR.2 ((rowMM _ r).1 ((a2 r).1 h)));have h2:=nodup_sub_lenN _ (rowsW (fsM b) VM PM) (allR_nodup hn 6) (fun r h=>(a2 r).2 ((rowMM _ r).2 (mem_allR.1 h)));rw[allR_len,vertsM_len]at h1 h2;cases b<;>simp at h1 h2 ⊢<;>omega
theorem manyE(b:Bool):rowsEW (fsM b) VM PM=if b=true then 110 else 0:=by
 unfold rowsEW;rw[if_pos mayM,rowsM_len];cases b<;>simp
theorem manyA(b:Bool):(rowsAW (fsM b) VM PM).length=if b=true then 0 else 4096:=by
 unfold rowsAW;rw[if_pos mayM,rowsM_len];cases b
 . simp[rowsM_len]
 . simp
end Go.Proofs.YtkbgmcmcpbegjabGreatDoor
