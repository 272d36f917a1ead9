/- MPut, MVert. -/
import Derived.Test.YtkbgmcmcpbegjaaGreatDoorMG26
import Derived.Test.YtkbgmcmcpbegjaaGreatDoorMG7
import Derived.Test.YtkbgmcmcpbegjaaGreatDoorMG24
set_option maxRecDepth 100000
namespace Go.Proofs.YtkbgmcmcpbegjaaGreatDoor
open Go.RowKit Go.Shelf
theorem csT_lenM(x:Wd):(csT x).length=1:=rfl
theorem one_csTM(L:List Wd):∀u∈L.flatMap csT,u.oneCell'=true:=by
 intro u hu;obtain⟨x,_,h⟩:=List.mem_flatMap.1 hu;simp at h;subst h;rfl
theorem infoSM:(Tryz.prog.info? 9).map (fun i=>(i.zero,i.size,i.bytes))=some (some (.string ⟨#[]⟩),1,16):=by kernel_rfl
section
variable {α:Type} {enc:α->List Value} {kk:Nat}
theorem src_take{w:World}{ao:Option Addr}{n cap i:Nat}{L:List α}(h:Src enc kk w (.slice ao n cap) L)(hn:n=L.length)(hi:i<=n):Src enc kk w (.slice ao i cap) (L.take i):=by
 refine⟨sl_take h.sl (by omega),fun m c e=>?_⟩;injection e with e1 e2 e3;have:=h.no n cap (by rw[e1]);omega
end
theorem src_drop{α:Type}{enc:α->List Value}{w:World}{ao:Option Addr}{n cap i:Nat}{L:List α}(h:Src enc 1 w (.slice ao n cap) L)(hn:n=L.length)(hi:i<=n)(hc:n<=cap):Src enc 1 w (.slice (if cap=i then ao else Option.map (fun x=>x.add i) ao) (n-i) (cap-i)) (L.drop i):=by
 cases ao with
 |none=>
  have h0:=h.no n cap rfl;have hL:L=[]:=yL.1 (by omega);subst hL;have e1:(if cap=i then none else Option.map (fun x:Addr=>x.add i) none)=none:=by split<;>rfl
  rw[e1,List.drop_nil,show n-i=0 by omega,show cap-i=0 by omega];exact⟨SlS.nil _ _,fun m c e=>by injection e with _ e2 e3;exact⟨e2.symm,e3.symm⟩⟩
 |some a=>
  by_cases e:cap=i
  . rw[if_pos e];have h1:L.drop i=[]:=List.drop_eq_nil_iff.2 (by omega);rw[h1,show n-i=0 by omega];exact⟨sl_end _ _,fun m c e=>by cases e⟩
  . rw[if_neg e];refine⟨?_,fun m c e=>by cases e⟩;rcases L with _|⟨y,L⟩
    . rw[List.drop_nil,show n-i=0 by rw[hn];simp];exact sl_end _ _
    . obtain⟨g,off,e1,_⟩:=h.sl.get (j:=0) (x:=y) rfl;injection e1 with e1;subst e1;have:=sl_drop (i:=i) (cap2:=cap-i) h.sl hn;rw[yD]at this;rw[Option.map_some,addA];exact this
theorem srcW_nil(w:World):SrcW w (.slice none 0 0) []:=⟨⟨SlS.nil _ _,fun m c e=>by injection e with _ e2 e3;exact⟨e2.symm,e3.symm⟩⟩,none,0,rfl,zD _⟩
set_option maxHeartbeats 8000000 in
theorem rPut_any{w:World}{v:Value}{L:List Wd}(h:SrcW w v L)(hl:L.length<=1000000)(s:Wd):
 Calls Tryz.prog 37 #[v,.string ⟨s.toArray⟩] w fun e w'=>∃v',e=.returned v'/\SrcW w' v' (putL less L s)/\Below w.heap.size w w':=by
 obtain⟨i0,hi0,hz0,hz1,hz2⟩:=info_parts infoSM;obtain⟨R,hR⟩:∃R,R=putL less L s:=⟨_,rfl⟩
 rw[<- hR];have HR:=zA hR;obtain⟨h1,la,lc,hv,hlc⟩:=h;subst hv;have H:=zA h1;obtain⟨n,hn⟩:∃n,n=L.length:=⟨_,rfl⟩
 rw[<- hn]at H hl hlc ⊢;have HN:=zA hn;clear h1 hn hR;go_enter Tryz.func37,Tryz.ntmps37;go_wp2_with fail;go_loopw [5] (fun c wr=>∃k:Nat,k<=n/\c=.int .i64 k/\(∀(i:Nat) x,i<k->L[i]?=some x->less x s=true)/\wr=w) (fun c _=>n-(intOf c).toNat)
 case atStart=>exact⟨0,zO _,rfl,fun i x hi=>absurd hi (by omega),rfl⟩
 case round=>
  obtain⟨k,hk,rfl,hall,hwr⟩:=hrel;subst hwr;obtain⟨w,hw⟩:∃w,w=wr:=⟨_,rfl⟩
  subst hw;have HAll2:=zA hall;clear hall;by_cases hlt:k<n
  . have hltI:(k:Int)<(n:Int):=by omega
    obtain⟨x,hx⟩:∃x,L[k]?=some x:=⟨_,zB (by rw[<- HN.out];exact hlt)⟩
    obtain⟨g,off,hla,_,_,hcell⟩:=H.out.sl.get hx;subst hla;have q0:=hcell 0 _ rfl;rw[yD,yA]at q0;have HX:=zA hx;clear hx hcell;cases hls:Op.bytesLess x s with
    |true=>
     have HA3:Hid (∀(i:Nat) y,i<k+1->L[i]?=some y->less y s=true):=zA (fun i y hi hy=>by
      by_cases e:i=k
      . subst e;rw[HX.out]at hy;injection hy with hy;subst hy;exact hls
      . exact HAll2.out i y (by omega) hy)
     go_wp2;go_roundw
     case rel=>exact⟨k+1,by omega,by go_num,HA3.out,by trivial⟩
     case measure=>simp[intOf];omega
    |false=>
     have HNOT:Hid (∀y,L[k]?=some y->less y s=false):=zA (fun y hy=>by
      rw[HX.out]at hy;injection hy with hy;subst hy;exact hls)
     by_cases exs:x=s
     . have HT:Hid (R=L):=zA (by rw[HR.out,putL_at (k:=k) (by rw[<- HN.out];exact hk) HAll2.out HNOT.out,if_pos (by rw[HX.out,exs])]);subst exs;go_wp2;go_ret;exact⟨_,rfl,by rw[HT.out];exact⟨H.out,some ⟨g,off,none⟩,lc,by rw[<- HN.out];rfl,by rw[<- HN.out];exact hlc⟩,zE _ _⟩
     . obtain⟨e1,e2⟩:=not_bothW exs;have HNE:Hid (¬L[k]?=some s):=zA (fun h=>by rw[HX.out]at h;injection h with h;exact exs h);have HT:Hid (R=L.take k++[s]++L.drop k):=zA (by rw[HR.out,putL_at (k:=k) (by rw[<- HN.out];exact hk) HAll2.out HNOT.out,if_neg HNE.out]);clear exs;have hkc:(k:Int)<=(lc:Int):=by omega
       have hnc:(n:Int)<=(lc:Int):=by omega
       have hkn:(k:Int)<=(n:Int):=by omega
       have HS1:Hid (Src csT 1 w (.slice (some ⟨g,off,none⟩) k lc) (L.take k)):=zA (src_take H.out HN.out hk);have hck:¬lc=k:=by omega
       have HS2:Hid (Src csT 1 w (.slice (some ⟨g,off+k,none⟩) (n-k) (lc-k)) (L.drop k)):=zA (by
        have h:=src_drop H.out HN.out hk hlc;rw[if_neg hck,Option.map_some,addA]at h;exact h)
       go_wp2_with (at_builtin;refine wpList_append_many rfl _ _ rfl Tryz.underlying34 hi0 hz0 hz1 hz2 rfl (by decide) (by rfl) (World.ownsRow_nil _ w.heap.size _ _) (some ⟨g,off,none⟩) ((L.take k).flatMap csT) k lc (by rfl) (by rw[flat_len csT_lenM,zX,<- HN.out];omega) (fun e=>HS1.out.no _ _ (by rw[e])) (HS1.out.cells csT_lenM (by decide)) (one_csTM _) (by unfold maxLen;omega) (by omega) (zD _) ?_);intro v3 w3 hown3 hgrow3;obtain⟨X3,hX3⟩:∃l,l=(L.take k).flatMap csT:=⟨_,rfl⟩
       have HX3:=zA hX3;have hown3':w3.ownsRow w.heap.size 9 1 v3 k X3:=by
        rw[hX3];simpa using hown3
       have HB3:Hid (Below w.heap.size w w3):=zA (Below.grown (zE _ _) hgrow3 (zD _) (fun k hk=>by cases hk));obtain⟨a3,c3,hv3⟩:=own_slice hown3';subst hv3;have HO3:=zA hown3';have hs3:w.heap.size<=w3.heap.size:=HB3.out.size;clear hown3 hgrow3 hown3' hX3;go_wp2_with (at_builtin;refine wpList_append_lies _ rfl _ _ _ rfl w.heap.size 9 i0 _ 1 16 Tryz.underlying34 hi0 hz0 hz1 hz2 rfl (by decide) (.slice a3 k c3) _ _ (by rfl) (HO3.out.alloc _) ⟨w3.heap.size,0,none⟩ 1 1 (csT s) (by rfl) (by rfl) (World.news_of_block (cs:=#[.string ⟨s.toArray⟩]) (t:=9) (fr:=(0,0)) (heap_alloc_new w3 _)) (by simp[Value.oneCell']) (by decide) (by unfold maxLen;omega) (by omega) (by simp;omega) (w3.heap.size+1) (by simp) ?_);intro gg cap2 w4 hown4 hgrow4 hat4 hlt4;have ba:Below w3.heap.size w3 (w3.alloc (.cells #[.string ⟨s.toArray⟩] 9)):=(zE _ _).alloc (zD _) _;have HB4:Hid (Below w.heap.size w w4):=zA ((HB3.out.trans (ba.mono HB3.out.size)).grown hgrow4 (by simp;omega) (fun k e=>(HO3.out.lt k e).1));obtain⟨X4,hX4⟩:∃l,l=X3++csT s:=⟨_,rfl⟩
       have HX4:=zA hX4;rw[<- hX4]at hown4;have HO4:=zA hown4;have HS4:=zA (HS2.out.below HB4.out);have hs4:w.heap.size<=w4.heap.size:=HB4.out.size;clear hown4 hgrow4 hat4 hlt4 ba hX4;go_wp2_with (at_builtin;refine wpList_append_many rfl _ _ rfl Tryz.underlying34 hi0 hz0 hz1 hz2 rfl (by decide) (by rfl) HO4.out (some ⟨g,off+k,none⟩) ((L.drop k).flatMap csT) (n-k) (lc-k) (by rfl) (by rw[flat_len csT_lenM,yP,<- HN.out];try omega) (fun e=>HS4.out.no _ _ (by rw[e])) (HS4.out.cells csT_lenM (by decide)) (one_csTM _) (by unfold maxLen;omega) (by omega) hs4 ?_);intro v5 w5 hown5 hgrow5;have HB5:Hid (Below w.heap.size w w5):=zA (HB4.out.grown hgrow5 HB4.out.size (fun k hk=>(HO4.out.lt k hk).1));have HO5:Hid (w5.ownsRow w.heap.size 9 1 v5 R.length (R.flatMap csT)):=zA (by
        rw[HT.out,zG,zG,zX,yP,zR,zR,<- HX3.out,<- HN.out];rw[HX4.out]at hown5;have e1:min k n+[s].length+(n-k)=k+1+(n-k):=by rw[Nat.min_eq_left hk];rfl
        rw[e1];simpa using hown5)
       obtain⟨a5,c5,hv5⟩:=own_slice hown5;subst hv5;clear hown5 hgrow5;go_wp2;go_ret;exact⟨_,rfl,⟨Src.own csT_lenM HO5.out rfl,own_capM HO5.out⟩,HB5.out⟩
  . have hltI:¬(k:Int)<(n:Int):=by omega
    have hkn2:k=n:=by omega
    have HNOT:Hid (∀y,L[k]?=some y->less y s=false):=zA (fun y hy=>by
     have:=(zF.1 hy).1;rw[<- HN.out]at this;omega)
    have HNE:Hid (¬L[k]?=some s):=zA (fun hy=>by
     have:=(zF.1 hy).1;rw[<- HN.out]at this;omega)
    have HT:Hid (R=L.take k++[s]++L.drop k):=zA (by rw[HR.out,putL_at (k:=k) (by rw[<- HN.out];exact hk) HAll2.out HNOT.out,if_neg HNE.out]);cases la with
    |none=>
     obtain⟨hn0,hc0⟩:=H.out.no n lc rfl;subst hn0 hc0;obtain rfl:k=0:=by omega
     have HS1:Hid (Src csT 1 w (.slice none 0 0) (L.take 0)):=zA (src_take H.out HN.out hk);have HS2:Hid (Src csT 1 w (.slice none 0 0) (L.drop 0)):=zA (by simpa using H.out);go_wp2_with (at_builtin;refine wpList_append_many rfl _ _ rfl Tryz.underlying34 hi0 hz0 hz1 hz2 rfl (by decide) (by rfl) (World.ownsRow_nil _ w.heap.size _ _) none ((L.take 0).flatMap csT) 0 0 (by rfl) (by rw[flat_len csT_lenM,zX,<- HN.out];omega) (fun e=>HS1.out.no _ _ (by rw[e])) (HS1.out.cells csT_lenM (by decide)) (one_csTM _) (by unfold maxLen;omega) (by omega) (zD _) ?_);intro v3 w3 hown3 hgrow3;obtain⟨X3,hX3⟩:∃l,l=(L.take 0).flatMap csT:=⟨_,rfl⟩
     have HX3:=zA hX3;have hown3':w3.ownsRow w.heap.size 9 1 v3 0 X3:=by
      rw[hX3];simpa using hown3
     have HB3:Hid (Below w.heap.size w w3):=zA (Below.grown (zE _ _) hgrow3 (zD _) (fun z hz=>by cases hz));obtain⟨a3,c3,hv3⟩:=own_slice hown3';subst hv3;have HO3:=zA hown3';have hs3:w.heap.size<=w3.heap.size:=HB3.out.size;clear hown3 hgrow3 hown3' hX3;go_wp2_with (at_builtin;refine wpList_append_lies _ rfl _ _ _ rfl w.heap.size 9 i0 _ 1 16 Tryz.underlying34 hi0 hz0 hz1 hz2 rfl (by decide) (.slice a3 0 c3) _ _ (by rfl) (HO3.out.alloc _) ⟨w3.heap.size,0,none⟩ 1 1 (csT s) (by rfl) (by rfl) (World.news_of_block (cs:=#[.string ⟨s.toArray⟩]) (t:=9) (fr:=(0,0)) (heap_alloc_new w3 _)) (by simp[Value.oneCell']) (by decide) (by unfold maxLen;omega) (by omega) (by simp;omega) (w3.heap.size+1) (by simp) ?_);intro gg cap2 w4 hown4 hgrow4 hat4 hlt4;have ba:Below w3.heap.size w3 (w3.alloc (.cells #[.string ⟨s.toArray⟩] 9)):=(zE _ _).alloc (zD _) _;have HB4:Hid (Below w.heap.size w w4):=zA ((HB3.out.trans (ba.mono HB3.out.size)).grown hgrow4 (by simp;omega) (fun z e=>(HO3.out.lt z e).1));obtain⟨X4,hX4⟩:∃l,l=X3++csT s:=⟨_,rfl⟩
     have HX4:=zA hX4;rw[<- hX4]at hown4;have HO4:=zA hown4;have HS4:=zA (HS2.out.below HB4.out);have hs4:w.heap.size<=w4.heap.size:=HB4.out.size;clear hown4 hgrow4 hat4 hlt4 ba hX4;go_wp2_with (at_builtin;refine wpList_append_many rfl _ _ rfl Tryz.underlying34 hi0 hz0 hz1 hz2 rfl (by decide) (by rfl) HO4.out none ((L.drop 0).flatMap csT) 0 0 (by rfl) (by rw[flat_len csT_lenM,yP,<- HN.out];try omega) (fun e=>HS4.out.no _ _ (by rw[e])) (HS4.out.cells csT_lenM (by decide)) (one_csTM _) (by unfold maxLen;omega) (by omega) hs4 ?_);intro v5 w5 hown5 hgrow5;have HB5:Hid (Below w.heap.size w w5):=zA (HB4.out.grown hgrow5 HB4.out.size (fun z hz=>(HO4.out.lt z hz).1));have HO5:Hid (w5.ownsRow w.heap.size 9 1 v5 R.length (R.flatMap csT)):=zA (by
      rw[HT.out,zG,zG,zX,yP,zR,zR,<- HX3.out,<- HN.out];rw[HX4.out]at hown5;have e1:min 0 0+[s].length+(0-0)=0+1+(0-0):=by rw[Nat.min_eq_left hk];rfl
      rw[e1];simpa using hown5)
     obtain⟨a5,c5,hv5⟩:=own_slice hown5;subst hv5;clear hown5 hgrow5;go_wp2;go_ret;exact⟨_,rfl,⟨Src.own csT_lenM HO5.out rfl,own_capM HO5.out⟩,HB5.out⟩
    |some a=>
     subst hkn2;by_cases hck:lc=k
     . subst hck;have hkc:(lc:Int)<=(lc:Int):=by omega
       have hnc:(lc:Int)<=(lc:Int):=by omega
       have hkn:(lc:Int)<=(lc:Int):=by omega
       have HS1:Hid (Src csT 1 w (.slice (some a) lc lc) (L.take lc)):=zA (src_take H.out HN.out hk);have HS2:Hid (Src csT 1 w (.slice (some a) 0 0) (L.drop lc)):=zA (by
        have h:=src_drop H.out HN.out hk hlc;rw[if_pos rfl,Nat.sub_self]at h;exact h)
       go_wp2_with (at_builtin;refine wpList_append_many rfl _ _ rfl Tryz.underlying34 hi0 hz0 hz1 hz2 rfl (by decide) (by rfl) (World.ownsRow_nil _ w.heap.size _ _) (some a) ((L.take lc).flatMap csT) lc lc (by rfl) (by rw[flat_len csT_lenM,zX,<- HN.out];omega) (fun e=>HS1.out.no _ _ (by rw[e])) (HS1.out.cells csT_lenM (by decide)) (one_csTM _) (by unfold maxLen;omega) (by omega) (zD _) ?_);intro v3 w3 hown3 hgrow3;obtain⟨X3,hX3⟩:∃l,l=(L.take lc).flatMap csT:=⟨_,rfl⟩
       have HX3:=zA hX3;have hown3':w3.ownsRow w.heap.size 9 1 v3 lc X3:=by
        rw[hX3];simpa using hown3
       have HB3:Hid (Below w.heap.size w w3):=zA (Below.grown (zE _ _) hgrow3 (zD _) (fun k hk=>by cases hk));obtain⟨a3,c3,hv3⟩:=own_slice hown3';subst hv3;have HO3:=zA hown3';have hs3:w.heap.size<=w3.heap.size:=HB3.out.size;clear hown3 hgrow3 hown3' hX3;go_wp2_with (at_builtin;refine wpList_append_lies _ rfl _ _ _ rfl w.heap.size 9 i0 _ 1 16 Tryz.underlying34 hi0 hz0 hz1 hz2 rfl (by decide) (.slice a3 lc c3) _ _ (by rfl) (HO3.out.alloc _) ⟨w3.heap.size,0,none⟩ 1 1 (csT s) (by rfl) (by rfl) (World.news_of_block (cs:=#[.string ⟨s.toArray⟩]) (t:=9) (fr:=(0,0)) (heap_alloc_new w3 _)) (by simp[Value.oneCell']) (by decide) (by unfold maxLen;omega) (by omega) (by simp;omega) (w3.heap.size+1) (by simp) ?_);intro gg cap2 w4 hown4 hgrow4 hat4 hlt4;have ba:Below w3.heap.size w3 (w3.alloc (.cells #[.string ⟨s.toArray⟩] 9)):=(zE _ _).alloc (zD _) _;have HB4:Hid (Below w.heap.size w w4):=zA ((HB3.out.trans (ba.mono HB3.out.size)).grown hgrow4 (by simp;omega) (fun k e=>(HO3.out.lt k e).1));obtain⟨X4,hX4⟩:∃l,l=X3++csT s:=⟨_,rfl⟩
       have HX4:=zA hX4;rw[<- hX4]at hown4;have HO4:=zA hown4;have HS4:=zA (HS2.out.below HB4.out);have hs4:w.heap.size<=w4.heap.size:=HB4.out.size;clear hown4 hgrow4 hat4 hlt4 ba hX4;go_wp2_with (at_builtin;refine wpList_append_many rfl _ _ rfl Tryz.underlying34 hi0 hz0 hz1 hz2 rfl (by decide) (by rfl) HO4.out (some a) ((L.drop lc).flatMap csT) 0 0 (by rfl) (by rw[flat_len csT_lenM,yP,<- HN.out];try omega) (fun e=>HS4.out.no _ _ (by rw[e])) (HS4.out.cells csT_lenM (by decide)) (one_csTM _) (by unfold maxLen;omega) (by omega) hs4 ?_);intro v5 w5 hown5 hgrow5;have HB5:Hid (Below w.heap.size w w5):=zA (HB4.out.grown hgrow5 HB4.out.size (fun k hk=>(HO4.out.lt k hk).1));have HO5:Hid (w5.ownsRow w.heap.size 9 1 v5 R.length (R.flatMap csT)):=zA (by
        rw[HT.out,zG,zG,zX,yP,zR,zR,<- HX3.out,<- HN.out];rw[HX4.out]at hown5;have e1:min lc lc+[s].length+(lc-lc)=lc+1+(lc-lc):=by rw[Nat.min_eq_left hk];rfl
        rw[e1];simpa using hown5)
       obtain⟨a5,c5,hv5⟩:=own_slice hown5;subst hv5;clear hown5 hgrow5;go_wp2;go_ret;exact⟨_,rfl,⟨Src.own csT_lenM HO5.out rfl,own_capM HO5.out⟩,HB5.out⟩
     . have hkc:(k:Int)<=(lc:Int):=by omega
       have hnc:(k:Int)<=(lc:Int):=by omega
       have hkn:(k:Int)<=(k:Int):=by omega
       have HS1:Hid (Src csT 1 w (.slice (some a) k lc) (L.take k)):=zA (src_take H.out HN.out hk);have HS2:Hid (Src csT 1 w (.slice (some (a.add k)) 0 (lc-k)) (L.drop k)):=zA (by
        have h:=src_drop H.out HN.out hk hlc;rw[if_neg hck,Nat.sub_self,Option.map_some]at h;exact h)
       go_wp2_with (at_builtin;refine wpList_append_many rfl _ _ rfl Tryz.underlying34 hi0 hz0 hz1 hz2 rfl (by decide) (by rfl) (World.ownsRow_nil _ w.heap.size _ _) (some a) ((L.take k).flatMap csT) k lc (by rfl) (by rw[flat_len csT_lenM,zX,<- HN.out];omega) (fun e=>HS1.out.no _ _ (by rw[e])) (HS1.out.cells csT_lenM (by decide)) (one_csTM _) (by unfold maxLen;omega) (by omega) (zD _) ?_);intro v3 w3 hown3 hgrow3;obtain⟨X3,hX3⟩:∃l,l=(L.take k).flatMap csT:=⟨_,rfl⟩
       have HX3:=zA hX3;have hown3':w3.ownsRow w.heap.size 9 1 v3 k X3:=by
        rw[hX3];simpa using hown3
       have HB3:Hid (Below w.heap.size w w3):=zA (Below.grown (zE _ _) hgrow3 (zD _) (fun k hk=>by cases hk));obtain⟨a3,c3,hv3⟩:=own_slice hown3';subst hv3;have HO3:=zA hown3';have hs3:w.heap.size<=w3.heap.size:=HB3.out.size;clear hown3 hgrow3 hown3' hX3;go_wp2_with (at_builtin;refine wpList_append_lies _ rfl _ _ _ rfl w.heap.size 9 i0 _ 1 16 Tryz.underlying34 hi0 hz0 hz1 hz2 rfl (by decide) (.slice a3 k c3) _ _ (by rfl) (HO3.out.alloc _) ⟨w3.heap.size,0,none⟩ 1 1 (csT s) (by rfl) (by rfl) (World.news_of_block (cs:=#[.string ⟨s.toArray⟩]) (t:=9) (fr:=(0,0)) (heap_alloc_new w3 _)) (by simp[Value.oneCell']) (by decide) (by unfold maxLen;omega) (by omega) (by simp;omega) (w3.heap.size+1) (by simp) ?_);intro gg cap2 w4 hown4 hgrow4 hat4 hlt4;have ba:Below w3.heap.size w3 (w3.alloc (.cells #[.string ⟨s.toArray⟩] 9)):=(zE _ _).alloc (zD _) _;have HB4:Hid (Below w.heap.size w w4):=zA ((HB3.out.trans (ba.mono HB3.out.size)).grown hgrow4 (by simp;omega) (fun k e=>(HO3.out.lt k e).1));obtain⟨X4,hX4⟩:∃l,l=X3++csT s:=⟨_,rfl⟩
       have HX4:=zA hX4;rw[<- hX4]at hown4;have HO4:=zA hown4;have HS4:=zA (HS2.out.below HB4.out);have hs4:w.heap.size<=w4.heap.size:=HB4.out.size;clear hown4 hgrow4 hat4 hlt4 ba hX4;go_wp2_with (at_builtin;refine wpList_append_many rfl _ _ rfl Tryz.underlying34 hi0 hz0 hz1 hz2 rfl (by decide) (by rfl) HO4.out (some (a.add k)) ((L.drop k).flatMap csT) 0 (lc-k) (by rfl) (by rw[flat_len csT_lenM,yP,<- HN.out];try omega) (fun e=>HS4.out.no _ _ (by rw[e])) (HS4.out.cells csT_lenM (by decide)) (one_csTM _) (by unfold maxLen;omega) (by omega) hs4 ?_);intro v5 w5 hown5 hgrow5;have HB5:Hid (Below w.heap.size w w5):=zA (HB4.out.grown hgrow5 HB4.out.size (fun k hk=>(HO4.out.lt k hk).1));have HO5:Hid (w5.ownsRow w.heap.size 9 1 v5 R.length (R.flatMap csT)):=zA (by
        rw[HT.out,zG,zG,zX,yP,zR,zR,<- HX3.out,<- HN.out];rw[HX4.out]at hown5;have e1:min k k+[s].length+(k-k)=k+1+(k-k):=by rw[Nat.min_eq_left hk];rfl
        rw[e1];simpa using hown5)
       obtain⟨a5,c5,hv5⟩:=own_slice hown5;subst hv5;clear hown5 hgrow5;go_wp2;go_ret;exact⟨_,rfl,⟨Src.own csT_lenM HO5.out rfl,own_capM HO5.out⟩,HB5.out⟩
set_option maxHeartbeats 8000000 in
theorem rVert_any{S:Nat->Prop}{w:World}{v:Value}{fs:List Fa}(h:FasS S w v fs)(hl:fs.length<=100000):
 Calls Tryz.prog 16 #[v] w fun e w'=>∃v',e=.returned v'/\SrcW w' v' (vertsL fs)/\Below w.heap.size w w':=by
 obtain⟨ao,cap,rfl⟩:=h.slice;have H:=zA h;obtain⟨n,hn⟩:∃n,n=fs.length:=⟨_,rfl⟩
 rw[<- hn]at H hl ⊢;have HN:=zA hn;obtain⟨R,hR⟩:∃R,R=vertsL fs:=⟨_,rfl⟩
 rw[<- hR];have HR:=zA hR;clear h hn hR;go_enter Tryz.func16,Tryz.ntmps16;go_wp2_with fail;go_loopw [3,4] (fun vl c wr=>∃(i:Nat) (u:Value),u=vl/\i<=n/\c=.int .i64 i/\SrcW wr u (vertsL (fs.take i))/\Below w.heap.size w wr) (fun _ c _=>n-(intOf c).toNat)
 case atStart=>exact⟨0,.slice none 0 0,rfl,zO _,rfl,srcW_nil _,zE _ _⟩
 case round=>
  obtain⟨i,u,rfl,hi,rfl,hsrc,hbq⟩:=hrel;obtain⟨wx,hwx⟩:∃wx,wx=wr:=⟨_,rfl⟩
  subst hwx;obtain⟨V,hV⟩:∃V,V=vertsL (fs.take i):=⟨_,rfl⟩
  rw[<- hV]at hsrc;have hvl:V.length<=200000:=by rw[hV];have:=verts_len (fs.take i);rw[zX]at this;omega
  have HSRC:=zA hsrc;obtain⟨_,ua,uc,hu,_⟩:=hsrc;obtain⟨nu,hnu⟩:∃n,n=V.length:=⟨_,rfl⟩
  rw[<- hnu]at hu hvl;subst hu;have HBQ:=zA hbq;have HV:=zA hV;have HNU:=zA hnu;clear hbq hV hnu;by_cases hlt:i<n
  . have hltI:(i:Int)<(n:Int):=by omega
    obtain⟨⟨fs1,fp1,fo1⟩,hx⟩:∃x,fs[i]?=some x:=⟨_,zB (by rw[<- HN.out];exact hlt)⟩
    obtain⟨g,off,hla,_,hgl,hcell⟩:=(H.out.below HBQ.out).get hx;subst hla;obtain⟨q0,q1,q2⟩:=getF hcell;have HT:Hid (vertsL (fs.take (i+1))=putL less (putL less V fs1) fo1):=zA (by rw[zS,hx,HV.out];exact verts_snoc _ _);have KC:Hid (∀u,Below wx.heap.size wx u->u.cell? ⟨g,off+i*3,none⟩=some (.string ⟨fs1.toArray⟩)/\u.cell? ⟨g,off+i*3+2,none⟩=some (.string ⟨fo1.toArray⟩)):=zA (fun u hu=>⟨(hu.cell (p:=⟨g,off+i*3,none⟩) hgl).trans q0,(hu.cell (p:=⟨g,off+i*3+2,none⟩) hgl).trans q2⟩);have HPA:Hid (Below wx.heap.size wx wx.drew):=zA (zE _ _).drew;have C1:=zA (rPut_any (HSRC.out.below HPA.out) (by rw[<- HNU.out];omega) fs1);clear hx hcell q1;go_wp2_with fail;go_region_held3 (fun u=>u.cell? ⟨g,off+i*3,none⟩=some (.string ⟨fs1.toArray⟩)/\u.cell? ⟨g,off+i*3+2,none⟩=some (.string ⟨fo1.toArray⟩))
     (first|with_reducible exact KC.out _ HPA.out|with_reducible exact KC.out _ h4|with_reducible exact KC.out _ h3)
     (first
      |(go_at_call 37;with_reducible refine C1.out.mono ?_;rintro e w3 ⟨v3,rfl,hs3,hb3⟩;have h3:=HPA.out.trans (hb3.mono HPA.out.size))
      |(go_at_call 37;refine(rPut_any hs3 (by have:=putL_len (lt:=less) V fs1;have:=HNU.out;omega) fo1).mono ?_;rintro e w4 ⟨v4,rfl,hs4,hb4⟩;have h4:=h3.trans (hb4.mono h3.size)))
    all_goals (
     have HS4:=zA hs4;have HB4:=zA (HBQ.out.trans (h4.mono HBQ.out.size));clear hs4 hb4 h4 h3 hb3;go_wp2;go_roundw
     case rel=>exact⟨i+1,_,rfl,by omega,by go_num,by rw[HT.out];exact HS4.out,HB4.out⟩
     case measure=>simp[intOf];omega)
  . have hltI:¬(i:Int)<(n:Int):=by omega
    have HT:Hid (V=R):=zA (by rw[HV.out,HR.out,zJ (by rw[<- HN.out];omega)]);go_wp2;go_ret;exact⟨_,rfl,by rw[<- HT.out];exact HSRC.out,HBQ.out⟩
end Go.Proofs.YtkbgmcmcpbegjaaGreatDoor
