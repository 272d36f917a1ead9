/- NFlat. -/
import Derived.Test.YtkbgmcmcpbegjaaGreatDoorMG50
set_option maxRecDepth 100000
namespace Go.Proofs.YtkbgmcmcpbegjaaGreatDoor
open Go.RowKit Go.Shelf
def FlatF(n:Nat)(e:Ending):Prop:=∃b:Bool,e=.returned (.bool b)/\(b=true->n<=40)
set_option maxHeartbeats 4000000 in
theorem flat_any{S:Nat->Prop}{w:World}{vf:Value}{fs:List Fa}{t:Vt}(hf:FasS S w vf fs)(hlf:fs.length<=9223372036854775807)(hok:VOk (fun _=>True) w t):
 Calls Tryz.prog 9 #[vf,encN t] w fun e w'=>FlatF fs.length e/\Below w.heap.size w w':=by
 obtain⟨fa,fc,rfl⟩:=hf.slice;obtain⟨n,hn⟩:∃n,n=fs.length:=⟨_,rfl⟩
 rw[<- hn]at hlf ⊢;clear hf hn;obtain⟨kind,word,val,kids⟩:=t;have hv:=hok;have HV:=zA hv;have HC:Hid (∀(u:World) (a:Nat),Below w.heap.size w u->u.heap[a]?=some (.cells #[.bool false,.string ⟨#[]⟩,.int .i64 kind,.string ⟨word.toArray⟩,val,.bool false,.string ⟨#[]⟩] 55 (0,0))->
  Calls Tryz.prog 18 #[.agg #[.int .i64 0,.slice none 0 0,.slice (some ⟨a,0,none⟩) 1 1,.slice none 0 0]] u fun e w'=>(∃b:Bool,e=.returned (.bool b))/\Below u.heap.size u w'):=zA (fun u a hu ha=>by
  have hq:QOk (fun _=>True) u ⟨.slice none 0 0,[],.slice (some ⟨a,0,none⟩) 1 1,[((false,[]),⟨kind,word,val,kids⟩,(false,[]))]⟩:=by
   refine⟨SlS.nil _ _,by simp,by simp,⟨_,_,rfl,zD _⟩,sl_litN csA_len ha (by rfl) (by rfl),fun b hb=>?_,fun b hb=>?_,by simp⟩
   . rw[zK.1 hb];exact HV.out.below hu
   . rw[zK.1 hb];exact⟨by simp,by simp⟩
  refine(rFlatQ_any hq).mono ?_;rintro e w' ⟨⟨b,h,_⟩,hb⟩;exact⟨⟨b,h⟩,hb⟩)
 clear hv hok;go_enter Tryz.func9,Tryz.ntmps9;go_wp2_with fail;rotate_left
 . refine bodyPost_ret (v:=.bool false) ?_ rfl ⟨⟨false,rfl,by simp⟩,(zE _ _).alloc (zD _) _⟩;simp[results,Tryz.results9,go_sem]
 . rename_i hle;have hn:n<=40:=by omega
   have HB:Hid (∀a b:Obj,Below w.heap.size w ((w.alloc a).alloc b)):=zA (fun a b=>((zE _ _).alloc (zD _) a).alloc (by simp) b);refine(HC.out _ (w.heap.size+1) (HB.out _ _) (get_atG [_,_] w 1 (by simp))).mono ?_;rintro e w1 ⟨⟨b,rfl⟩,hb1⟩;have HB1:=zA ((HB.out _ _).trans (hb1.mono (by simp;omega)));clear hb1;go_wp2_with fail;refine bodyPost_ret (v:=.bool b) ?_ rfl ⟨⟨b,rfl,fun _=>hn⟩,HB1.out⟩;simp[results,Tryz.results9,go_sem]
end Go.Proofs.YtkbgmcmcpbegjaaGreatDoor
