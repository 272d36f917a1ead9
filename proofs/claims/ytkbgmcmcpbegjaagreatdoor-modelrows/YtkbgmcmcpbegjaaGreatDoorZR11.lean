/- MPut, MVert, BAcc, BFol, BMap. -/
import Derived.Test.YtkbgmcmcpbegjaaGreatDoorZR9
import Derived.Laws.ResultCell
import Derived.Deep.WholeRow
import Derived.MapKept
set_option maxRecDepth 100000
set_option maxHeartbeats 8000000
namespace Go.Proofs.YtkbgmcmcpbegjaaGreatDoor
open Go.RowKit Go.Shelf
theorem jat(x:Wd):(csT x).length=1:=rfl
theorem jbO(L:List Wd):∀u∈L.flatMap csT,u.oneCell'=true:=by
 intro u hu;obtain⟨x,_,h⟩:=List.mem_flatMap.1 hu;simp at h;subst h;rfl
theorem jbW{a b:Wd}(h:¬a=b):¬a=b/\(a==b)=false:=⟨h,by simpa using h⟩
theorem jjD:(Tryz.prog.info? 9).map (fun i=>(i.zero,i.size,i.bytes))=some (some (.string ⟨#[]⟩),1,16):=by kernel_rfl
theorem jbs{w:World}{B n:Nat}{e:TypeId}{size:Nat}{v:Value}{xs:List Value}(h:w.ownsRow B e size v n xs):CapS v n:=by
 rcases h.2 with⟨rfl,rfl⟩|⟨g,aa,cur,rfl,_,_,ab,_⟩
 . exact⟨none,0,rfl,zD _⟩
 . exact⟨_,aa,rfl,ab⟩
section
variable {α:Type} {enc:α->List Value} {kk:Nat}
theorem jbM{w:World}{ao:Option Addr}{n cap i:Nat}{L:List α}(h:Src enc kk w (.slice ao n cap) L)(hn:n=L.length)(hi:i<=n):Src enc kk w (.slice ao i cap) (L.take i):=by
 refine⟨jjw h.sl (by omega),fun m c e=>?_⟩;injection e with e1 e2 e3;have:=h.no n cap (by rw[e1]);omega
end
theorem jcG{α:Type}{enc:α->List Value}{w:World}{ao:Option Addr}{n cap i:Nat}{L:List α}(h:Src enc 1 w (.slice ao n cap) L)(hn:n=L.length)(hi:i<=n)(hc:n<=cap):Src enc 1 w (.slice (if cap=i then ao else Option.map (fun x=>x.add i) ao) (n-i) (cap-i)) (L.drop i):=by
 cases ao with
 |none=>
  have h0:=h.no n cap rfl;have hL:L=[]:=yP.1 (by omega);subst hL;have e1:(if cap=i then none else Option.map (fun x:Addr=>x.add i) none)=none:=by split<;>rfl
  rw[e1,List.drop_nil,show n-i=0 by omega,show cap-i=0 by omega];exact⟨SlS.nil _ _,fun m c e=>by injection e with _ e2 e3;exact⟨e2.symm,e3.symm⟩⟩
 |some a=>
  by_cases e:cap=i
  . rw[if_pos e];have h1:L.drop i=[]:=List.drop_eq_nil_iff.2 (by omega);rw[h1,show n-i=0 by omega];exact⟨jkT _ _,fun m c e=>by cases e⟩
  . rw[if_neg e];refine⟨?_,fun m c e=>by cases e⟩;rcases L with _|⟨y,L⟩
    . rw[List.drop_nil,show n-i=0 by rw[hn];simp];exact jkT _ _
    . obtain⟨g,off,e1,_⟩:=h.sl.get (j:=0) (x:=y) rfl;injection e1 with e1;subst e1;have:=jlX (i:=i) (cap2:=cap-i) h.sl hn;rw[yC]at this;rw[Option.map_some,addA];exact this
def SrcW(w:World)(v:Value)(L:List Wd):Prop:=Src csT 1 w v L/\CapS v L.length
theorem SrcW.below{w w':World}{v:Value}{L:List Wd}(h:SrcW w v L)(hb:Below w.heap.size w w'):SrcW w' v L:=⟨h.1.below hb,h.2⟩
theorem jkC(w:World):SrcW w (.slice none 0 0) []:=⟨⟨SlS.nil _ _,fun m c e=>by injection e with _ e2 e3;exact⟨e2.symm,e3.symm⟩⟩,none,0,rfl,zD _⟩
theorem jh5{w:World}{v:Value}{L:List Wd}(h:SrcW w v L)(hl:L.length<=1000000)(s:Wd):
 Calls Tryz.prog 37 #[v,.string ⟨s.toArray⟩] w fun e w'=>∃v',e=.returned v'/\SrcW w' v' (putL less L s)/\Below w.heap.size w w':=by
 obtain⟨i0,ap,ao,ar,aq⟩:=info_parts jjD;obtain⟨R,hR⟩:=eX (putL less L s);rw[<- hR];have HR:=zA hR;obtain⟨h1,la,lc,hv,aJ⟩:=h;subst hv;have H:=zA h1;obtain⟨n,hn⟩:=eX L.length;rw[<- hn]at H hl aJ ⊢;have HN:=zA hn;clear h1 hn hR;go_enter Tryz.func37,Tryz.ntmps37;go_wp2_with fail;go_loopw [5] (fun c wr=>∃k:Nat,k<=n/\c=.int .i64 k/\(∀(i:Nat) x,i<k->L[i]?=some x->less x s=true)/\wr=w) (fun c _=>n-(intOf c).toNat)
 case atStart=>exact⟨0,zO _,rfl,fun i x hi=>absurd hi (by omega),rfl⟩
 case round=>
  obtain⟨k,hk,rfl,aK,aU⟩:=hrel;subst aU;obtain⟨w,hw⟩:=eX wr;subst hw;have an:=zA aK;clear aK;by_cases hlt:k<n
  . have aN:(k:Int)<(n:Int):=by omega
    obtain⟨x,hx⟩:∃x,L[k]?=some x:=⟨_,zB (by rw[<- HN.out];exact hlt)⟩
    obtain⟨g,aL,aX,_,_,aA⟩:=H.out.sl.get hx;subst aX;have q0:=aA 0 _ rfl;rw[yC,yA]at q0;have HX:=zA hx;clear hx aA;cases hls:Op.bytesLess x s with
    |true=>
     have aY:Hid (∀(i:Nat) y,i<k+1->L[i]?=some y->less y s=true):=zA (fun i y hi hy=>by
      by_cases e:i=k
      . subst e;rw[HX.out]at hy;injection hy with hy;subst hy;exact hls
      . exact an.out i y (by omega) hy)
     go_wp2;go_roundw
     case rel=>exact⟨k+1,by omega,by go_num,aY.out,by trivial⟩
     case measure=>simp[intOf];omega
    |false=>
     have az:Hid (∀y,L[k]?=some y->less y s=false):=zA (fun y hy=>by
      rw[HX.out]at hy;injection hy with hy;subst hy;exact hls)
     by_cases exs:x=s
     . have HT:Hid (R=L):=zA (by rw[HR.out,jcU (k:=k) (by rw[<- HN.out];exact hk) an.out az.out,if_pos (by rw[HX.out,exs])]);subst exs;go_wp2;go_ret;exact⟨_,rfl,by rw[HT.out];exact⟨H.out,some ⟨g,aL,none⟩,lc,by rw[<- HN.out];rfl,by rw[<- HN.out];exact aJ⟩,zF _ _⟩
     . obtain⟨e1,e2⟩:=jbW exs;have aP:Hid (¬L[k]?=some s):=zA (fun h=>by rw[HX.out]at h;injection h with h;exact exs h);have HT:Hid (R=L.take k++[s]++L.drop k):=zA (by rw[HR.out,jcU (k:=k) (by rw[<- HN.out];exact hk) an.out az.out,if_neg aP.out]);clear exs;have aS:(k:Int)<=(lc:Int):=by omega
       have aT:(n:Int)<=(lc:Int):=by omega
       have aR:(k:Int)<=(n:Int):=by omega
       have av:Hid (Src csT 1 w (.slice (some ⟨g,aL,none⟩) k lc) (L.take k)):=zA (jbM H.out HN.out hk);have aM:¬lc=k:=by omega
       have aI:Hid (Src csT 1 w (.slice (some ⟨g,aL+k,none⟩) (n-k) (lc-k)) (L.drop k)):=zA (by
        have h:=jcG H.out HN.out hk aJ;rw[if_neg aM,Option.map_some,addA]at h;exact h)
       go_wp2_with (at_builtin;refine jah rfl _ _ rfl Tryz.underlying34 ap ao ar aq rfl (by decide) (by rfl) (World.ownsRow_nil _ w.heap.size _ _) (some ⟨g,aL,none⟩) ((L.take k).flatMap csT) k lc (by rfl) (by rw[jaz jat,zX,<- HN.out];omega) (fun e=>av.out.no _ _ (by rw[e])) (av.out.cells jat (by decide)) (jbO _) (by unfold maxLen;omega) (by omega) (zD _) ?_);intro v3 w3 ag ae;obtain⟨X3,aj⟩:=eX ((L.take k).flatMap csT);have aH:=zA aj;have aa:w3.ownsRow w.heap.size 9 1 v3 k X3:=by
        rw[aj];simpa using ag
       have ai:Hid (Below w.heap.size w w3):=zA (Below.grown (zF _ _) ae (zD _) (fun k hk=>by cases hk));obtain⟨a3,c3,aD⟩:=jab aa;subst aD;have ay:=zA aa;have aQ:w.heap.size<=w3.heap.size:=ai.out.size;clear ag ae aa aj;go_wp2_with (at_builtin;refine wpList_append_lies _ rfl _ _ _ rfl w.heap.size 9 i0 _ 1 16 Tryz.underlying34 ap ao ar aq rfl (by decide) (.slice a3 k c3) _ _ (by rfl) (ay.out.alloc _) ⟨w3.heap.size,0,none⟩ 1 1 (csT s) (by rfl) (by rfl) (World.news_of_block (cs:=#[.string ⟨s.toArray⟩]) (t:=9) (fr:=(0,0)) (heap_alloc_new w3 _)) (by simp[Value.oneCell']) (by decide) (by unfold maxLen;omega) (by omega) (by simp;omega) (w3.heap.size+1) (by simp) ?_);intro gg aF w4 ad af ak al;have ba:Below w3.heap.size w3 (w3.alloc (.cells #[.string ⟨s.toArray⟩] 9)):=(zF _ _).alloc (zD _) _;have ah:Hid (Below w.heap.size w w4):=zA ((ai.out.trans (ba.mono ai.out.size)).grown af (by simp;omega) (fun k e=>(ay.out.lt k e).1));obtain⟨X4,am⟩:=eX (X3++csT s);have aE:=zA am;rw[<- am]at ad;have au:=zA ad;have ax:=zA (aI.out.below ah.out);have aB:w.heap.size<=w4.heap.size:=ah.out.size;clear ad af ak al ba am;go_wp2_with (at_builtin;refine jah rfl _ _ rfl Tryz.underlying34 ap ao ar aq rfl (by decide) (by rfl) au.out (some ⟨g,aL+k,none⟩) ((L.drop k).flatMap csT) (n-k) (lc-k) (by rfl) (by rw[jaz jat,yS,<- HN.out];try omega) (fun e=>ax.out.no _ _ (by rw[e])) (ax.out.cells jat (by decide)) (jbO _) (by unfold maxLen;omega) (by omega) aB ?_);intro v5 w5 ab ac;have aC:Hid (Below w.heap.size w w5):=zA (ah.out.grown ac ah.out.size (fun k hk=>(au.out.lt k hk).1));have aw:Hid (w5.ownsRow w.heap.size 9 1 v5 R.length (R.flatMap csT)):=zA (by
        rw[HT.out,zG,zG,zX,yS,zP,zP,<- aH.out,<- HN.out];rw[aE.out]at ab;have e1:min k n+[s].length+(n-k)=k+1+(n-k):=by rw[Nat.min_eq_left hk];rfl
        rw[e1];simpa using ab)
       obtain⟨a5,c5,aG⟩:=jab ab;subst aG;clear ab ac;go_wp2;go_ret;exact⟨_,rfl,⟨Src.own jat aw.out rfl,jbs aw.out⟩,aC.out⟩
  . have aN:¬(k:Int)<(n:Int):=by omega
    have aO:k=n:=by omega
    have az:Hid (∀y,L[k]?=some y->less y s=false):=zA (fun y hy=>by
     have:=(zE.1 hy).1;rw[<- HN.out]at this;omega)
    have aP:Hid (¬L[k]?=some s):=zA (fun hy=>by
     have:=(zE.1 hy).1;rw[<- HN.out]at this;omega)
    have HT:Hid (R=L.take k++[s]++L.drop k):=zA (by rw[HR.out,jcU (k:=k) (by rw[<- HN.out];exact hk) an.out az.out,if_neg aP.out]);cases la with
    |none=>
     obtain⟨aV,aW⟩:=H.out.no n lc rfl;subst aV aW;obtain rfl:k=0:=by omega
     have av:Hid (Src csT 1 w (.slice none 0 0) (L.take 0)):=zA (jbM H.out HN.out hk);have aI:Hid (Src csT 1 w (.slice none 0 0) (L.drop 0)):=zA (by simpa using H.out);go_wp2_with (at_builtin;refine jah rfl _ _ rfl Tryz.underlying34 ap ao ar aq rfl (by decide) (by rfl) (World.ownsRow_nil _ w.heap.size _ _) none ((L.take 0).flatMap csT) 0 0 (by rfl) (by rw[jaz jat,zX,<- HN.out];omega) (fun e=>av.out.no _ _ (by rw[e])) (av.out.cells jat (by decide)) (jbO _) (by unfold maxLen;omega) (by omega) (zD _) ?_);intro v3 w3 ag ae;obtain⟨X3,aj⟩:=eX ((L.take 0).flatMap csT);have aH:=zA aj;have aa:w3.ownsRow w.heap.size 9 1 v3 0 X3:=by
      rw[aj];simpa using ag
     have ai:Hid (Below w.heap.size w w3):=zA (Below.grown (zF _ _) ae (zD _) (fun z hz=>by cases hz));obtain⟨a3,c3,aD⟩:=jab aa;subst aD;have ay:=zA aa;have aQ:w.heap.size<=w3.heap.size:=ai.out.size;clear ag ae aa aj;go_wp2_with (at_builtin;refine wpList_append_lies _ rfl _ _ _ rfl w.heap.size 9 i0 _ 1 16 Tryz.underlying34 ap ao ar aq rfl (by decide) (.slice a3 0 c3) _ _ (by rfl) (ay.out.alloc _) ⟨w3.heap.size,0,none⟩ 1 1 (csT s) (by rfl) (by rfl) (World.news_of_block (cs:=#[.string ⟨s.toArray⟩]) (t:=9) (fr:=(0,0)) (heap_alloc_new w3 _)) (by simp[Value.oneCell']) (by decide) (by unfold maxLen;omega) (by omega) (by simp;omega) (w3.heap.size+1) (by simp) ?_);intro gg aF w4 ad af ak al;have ba:Below w3.heap.size w3 (w3.alloc (.cells #[.string ⟨s.toArray⟩] 9)):=(zF _ _).alloc (zD _) _;have ah:Hid (Below w.heap.size w w4):=zA ((ai.out.trans (ba.mono ai.out.size)).grown af (by simp;omega) (fun z e=>(ay.out.lt z e).1));obtain⟨X4,am⟩:=eX (X3++csT s);have aE:=zA am;rw[<- am]at ad;have au:=zA ad;have ax:=zA (aI.out.below ah.out);have aB:w.heap.size<=w4.heap.size:=ah.out.size;clear ad af ak al ba am;go_wp2_with (at_builtin;refine jah rfl _ _ rfl Tryz.underlying34 ap ao ar aq rfl (by decide) (by rfl) au.out none ((L.drop 0).flatMap csT) 0 0 (by rfl) (by rw[jaz jat,yS,<- HN.out];try omega) (fun e=>ax.out.no _ _ (by rw[e])) (ax.out.cells jat (by decide)) (jbO _) (by unfold maxLen;omega) (by omega) aB ?_);intro v5 w5 ab ac;have aC:Hid (Below w.heap.size w w5):=zA (ah.out.grown ac ah.out.size (fun z hz=>(au.out.lt z hz).1));have aw:Hid (w5.ownsRow w.heap.size 9 1 v5 R.length (R.flatMap csT)):=zA (by
      rw[HT.out,zG,zG,zX,yS,zP,zP,<- aH.out,<- HN.out];rw[aE.out]at ab;have e1:min 0 0+[s].length+(0-0)=0+1+(0-0):=by rw[Nat.min_eq_left hk];rfl
      rw[e1];simpa using ab)
     obtain⟨a5,c5,aG⟩:=jab ab;subst aG;clear ab ac;go_wp2;go_ret;exact⟨_,rfl,⟨Src.own jat aw.out rfl,jbs aw.out⟩,aC.out⟩
    |some a=>
     subst aO;by_cases aM:lc=k
     . subst aM;have aS:(lc:Int)<=(lc:Int):=by omega
       have aT:(lc:Int)<=(lc:Int):=by omega
       have aR:(lc:Int)<=(lc:Int):=by omega
       have av:Hid (Src csT 1 w (.slice (some a) lc lc) (L.take lc)):=zA (jbM H.out HN.out hk);have aI:Hid (Src csT 1 w (.slice (some a) 0 0) (L.drop lc)):=zA (by
        have h:=jcG H.out HN.out hk aJ;rw[if_pos rfl,Nat.sub_self]at h;exact h)
       go_wp2_with (at_builtin;refine jah rfl _ _ rfl Tryz.underlying34 ap ao ar aq rfl (by decide) (by rfl) (World.ownsRow_nil _ w.heap.size _ _) (some a) ((L.take lc).flatMap csT) lc lc (by rfl) (by rw[jaz jat,zX,<- HN.out];omega) (fun e=>av.out.no _ _ (by rw[e])) (av.out.cells jat (by decide)) (jbO _) (by unfold maxLen;omega) (by omega) (zD _) ?_);intro v3 w3 ag ae;obtain⟨X3,aj⟩:=eX ((L.take lc).flatMap csT);have aH:=zA aj;have aa:w3.ownsRow w.heap.size 9 1 v3 lc X3:=by
        rw[aj];simpa using ag
       have ai:Hid (Below w.heap.size w w3):=zA (Below.grown (zF _ _) ae (zD _) (fun k hk=>by cases hk));obtain⟨a3,c3,aD⟩:=jab aa;subst aD;have ay:=zA aa;have aQ:w.heap.size<=w3.heap.size:=ai.out.size;clear ag ae aa aj;go_wp2_with (at_builtin;refine wpList_append_lies _ rfl _ _ _ rfl w.heap.size 9 i0 _ 1 16 Tryz.underlying34 ap ao ar aq rfl (by decide) (.slice a3 lc c3) _ _ (by rfl) (ay.out.alloc _) ⟨w3.heap.size,0,none⟩ 1 1 (csT s) (by rfl) (by rfl) (World.news_of_block (cs:=#[.string ⟨s.toArray⟩]) (t:=9) (fr:=(0,0)) (heap_alloc_new w3 _)) (by simp[Value.oneCell']) (by decide) (by unfold maxLen;omega) (by omega) (by simp;omega) (w3.heap.size+1) (by simp) ?_);intro gg aF w4 ad af ak al;have ba:Below w3.heap.size w3 (w3.alloc (.cells #[.string ⟨s.toArray⟩] 9)):=(zF _ _).alloc (zD _) _;have ah:Hid (Below w.heap.size w w4):=zA ((ai.out.trans (ba.mono ai.out.size)).grown af (by simp;omega) (fun k e=>(ay.out.lt k e).1));obtain⟨X4,am⟩:=eX (X3++csT s);have aE:=zA am;rw[<- am]at ad;have au:=zA ad;have ax:=zA (aI.out.below ah.out);have aB:w.heap.size<=w4.heap.size:=ah.out.size;clear ad af ak al ba am;go_wp2_with (at_builtin;refine jah rfl _ _ rfl Tryz.underlying34 ap ao ar aq rfl (by decide) (by rfl) au.out (some a) ((L.drop lc).flatMap csT) 0 0 (by rfl) (by rw[jaz jat,yS,<- HN.out];try omega) (fun e=>ax.out.no _ _ (by rw[e])) (ax.out.cells jat (by decide)) (jbO _) (by unfold maxLen;omega) (by omega) aB ?_);intro v5 w5 ab ac;have aC:Hid (Below w.heap.size w w5):=zA (ah.out.grown ac ah.out.size (fun k hk=>(au.out.lt k hk).1));have aw:Hid (w5.ownsRow w.heap.size 9 1 v5 R.length (R.flatMap csT)):=zA (by
        rw[HT.out,zG,zG,zX,yS,zP,zP,<- aH.out,<- HN.out];rw[aE.out]at ab;have e1:min lc lc+[s].length+(lc-lc)=lc+1+(lc-lc):=by rw[Nat.min_eq_left hk];rfl
        rw[e1];simpa using ab)
       obtain⟨a5,c5,aG⟩:=jab ab;subst aG;clear ab ac;go_wp2;go_ret;exact⟨_,rfl,⟨Src.own jat aw.out rfl,jbs aw.out⟩,aC.out⟩
     . have aS:(k:Int)<=(lc:Int):=by omega
       have aT:(k:Int)<=(lc:Int):=by omega
       have aR:(k:Int)<=(k:Int):=by omega
       have av:Hid (Src csT 1 w (.slice (some a) k lc) (L.take k)):=zA (jbM H.out HN.out hk);have aI:Hid (Src csT 1 w (.slice (some (a.add k)) 0 (lc-k)) (L.drop k)):=zA (by
        have h:=jcG H.out HN.out hk aJ;rw[if_neg aM,Nat.sub_self,Option.map_some]at h;exact h)
       go_wp2_with (at_builtin;refine jah rfl _ _ rfl Tryz.underlying34 ap ao ar aq rfl (by decide) (by rfl) (World.ownsRow_nil _ w.heap.size _ _) (some a) ((L.take k).flatMap csT) k lc (by rfl) (by rw[jaz jat,zX,<- HN.out];omega) (fun e=>av.out.no _ _ (by rw[e])) (av.out.cells jat (by decide)) (jbO _) (by unfold maxLen;omega) (by omega) (zD _) ?_);intro v3 w3 ag ae;obtain⟨X3,aj⟩:=eX ((L.take k).flatMap csT);have aH:=zA aj;have aa:w3.ownsRow w.heap.size 9 1 v3 k X3:=by
        rw[aj];simpa using ag
       have ai:Hid (Below w.heap.size w w3):=zA (Below.grown (zF _ _) ae (zD _) (fun k hk=>by cases hk));obtain⟨a3,c3,aD⟩:=jab aa;subst aD;have ay:=zA aa;have aQ:w.heap.size<=w3.heap.size:=ai.out.size;clear ag ae aa aj;go_wp2_with (at_builtin;refine wpList_append_lies _ rfl _ _ _ rfl w.heap.size 9 i0 _ 1 16 Tryz.underlying34 ap ao ar aq rfl (by decide) (.slice a3 k c3) _ _ (by rfl) (ay.out.alloc _) ⟨w3.heap.size,0,none⟩ 1 1 (csT s) (by rfl) (by rfl) (World.news_of_block (cs:=#[.string ⟨s.toArray⟩]) (t:=9) (fr:=(0,0)) (heap_alloc_new w3 _)) (by simp[Value.oneCell']) (by decide) (by unfold maxLen;omega) (by omega) (by simp;omega) (w3.heap.size+1) (by simp) ?_);intro gg aF w4 ad af ak al;have ba:Below w3.heap.size w3 (w3.alloc (.cells #[.string ⟨s.toArray⟩] 9)):=(zF _ _).alloc (zD _) _;have ah:Hid (Below w.heap.size w w4):=zA ((ai.out.trans (ba.mono ai.out.size)).grown af (by simp;omega) (fun k e=>(ay.out.lt k e).1));obtain⟨X4,am⟩:=eX (X3++csT s);have aE:=zA am;rw[<- am]at ad;have au:=zA ad;have ax:=zA (aI.out.below ah.out);have aB:w.heap.size<=w4.heap.size:=ah.out.size;clear ad af ak al ba am;go_wp2_with (at_builtin;refine jah rfl _ _ rfl Tryz.underlying34 ap ao ar aq rfl (by decide) (by rfl) au.out (some (a.add k)) ((L.drop k).flatMap csT) 0 (lc-k) (by rfl) (by rw[jaz jat,yS,<- HN.out];try omega) (fun e=>ax.out.no _ _ (by rw[e])) (ax.out.cells jat (by decide)) (jbO _) (by unfold maxLen;omega) (by omega) aB ?_);intro v5 w5 ab ac;have aC:Hid (Below w.heap.size w w5):=zA (ah.out.grown ac ah.out.size (fun k hk=>(au.out.lt k hk).1));have aw:Hid (w5.ownsRow w.heap.size 9 1 v5 R.length (R.flatMap csT)):=zA (by
        rw[HT.out,zG,zG,zX,yS,zP,zP,<- aH.out,<- HN.out];rw[aE.out]at ab;have e1:min k k+[s].length+(k-k)=k+1+(k-k):=by rw[Nat.min_eq_left hk];rfl
        rw[e1];simpa using ab)
       obtain⟨a5,c5,aG⟩:=jab ab;subst aG;clear ab ac;go_wp2;go_ret;exact⟨_,rfl,⟨Src.own jat aw.out rfl,jbs aw.out⟩,aC.out⟩
def jaT(L:List Wd)(s:Wd):Int:=match L.findIdx? (fun x=>decide (x=s))with|some i=>(i:Int)|none=> -1
theorem jfj{L:List Wd}{s:Wd}{i:Nat}(h:L[i]?=some s)(hn:∀j,j<i->L[j]?≠some s):jaT L s=i:=by
 have:L.findIdx? (fun x=>decide (x=s))=some i:=by
  rw[List.findIdx?_eq_some_iff_getElem];have hi:=(zE.1 h).1;have he:=(zE.1 h).2;refine⟨hi,by simp[he],fun j hj=>?_⟩;have:=hn j hj;rw[zB (by omega)]at this;simpa using this
 rw[jaT,this]
theorem jb0{L:List Wd}{s:Wd}(h:s∉L):jaT L s= -1:=by
 have:L.findIdx? (fun x=>decide (x=s))=none:=by
  rw[List.findIdx?_eq_none_iff];intro x hx;have:x≠s:=fun e=>h (e▸hx)
  simpa using this
 rw[jaT,this]
theorem jbu{S:Nat->Prop}{w:World}{v:Value}{L:List Wd}(h:TxtS S w v L)(hl:L.length<=1000000)(s:Wd):
 Calls Tryz.prog 44 #[v,.string ⟨s.toArray⟩] w fun e w'=>e=.returned (.int .i64 (jaT L s))/\w'=w:=by
 obtain⟨la,lc,rfl⟩:=h.slice;have H:=zA h;obtain⟨n,hn⟩:=eX L.length;rw[<- hn]at H hl ⊢;have HN:=zA hn;obtain⟨r,hr⟩:=eX (jaT L s);rw[<- hr];have HR:=zA hr;clear h hn hr;go_enter Tryz.func44,Tryz.ntmps44;go_wp2_with fail;go_loopw [5] (fun c wr=>∃k:Nat,k<=n/\c=.int .i64 k/\(∀j,j<k->L[j]?≠some s)/\wr=w) (fun c _=>n-(intOf c).toNat)
 case atStart=>exact⟨0,zO _,rfl,fun j hj=>absurd hj (by omega),rfl⟩
 case round=>
  obtain⟨k,hk,rfl,ac,rfl⟩:=hrel;have ab:=zA ac;clear ac;by_cases hlt:k<n
  . have ad:(k:Int)<(n:Int):=by omega
    obtain⟨x,hx⟩:∃x,L[k]?=some x:=⟨_,zB (by rw[<- HN.out];exact hlt)⟩
    obtain⟨g,off,ae,_,_,aa⟩:=H.out.get hx;subst ae;have q0:=aa 0 _ rfl;rw[yC,yA]at q0;have HX:=zA hx;clear hx aa;by_cases exs:x=s
    . have HT:Hid (r=(k:Int)):=zA (by rw[HR.out];exact jfj (by rw[HX.out,exs]) ab.out);subst exs;go_wp2;go_ret;exact⟨by rw[HT.out];rfl,rfl⟩
    . obtain⟨e1,e2⟩:=jbW exs;have af:Hid (∀j,j<k+1->L[j]?≠some s):=zA (fun j hj=>by
       by_cases e:j=k
       . subst e;rw[HX.out];intro h;injection h with h;exact exs h
       . exact ab.out j (by omega))
      clear exs;go_wp2;go_roundw
      case rel=>exact⟨k+1,by omega,by go_num,af.out,by trivial⟩
      case measure=>simp[intOf];omega
  . have ad:¬(k:Int)<(n:Int):=by omega
    have HT:Hid (r= -1):=zA (by
     rw[HR.out];refine jb0 (fun h=>?_);obtain⟨j,hj⟩:=List.getElem?_of_mem h;have:=(zE.1 hj).1;rw[<- HN.out]at this;exact ab.out j (by omega) hj)
    go_wp2;go_ret;exact⟨by rw[HT.out];rfl,rfl⟩
abbrev csF(f:Fa):List Value:=[.string ⟨f.1.toArray⟩,.string ⟨f.2.1.toArray⟩,.string ⟨f.2.2.toArray⟩]
theorem ji3(x:Fa):(csF x).length=3:=rfl
abbrev FasS:=SlS csF 3
theorem getF{w:World}{g o:Nat}{f:Fa}(h:∀(c:Nat) u,(csF f)[c]?=some u->w.cell? ⟨g,o+c,none⟩=some u):w.cell? ⟨g,o,none⟩=some (.string ⟨f.1.toArray⟩)/\w.cell? ⟨g,o+1,none⟩=some (.string ⟨f.2.1.toArray⟩)/\w.cell? ⟨g,o+2,none⟩=some (.string ⟨f.2.2.toArray⟩):=
 ⟨h 0 _ rfl,h 1 _ rfl,h 2 _ rfl⟩
theorem jgm{S:Nat->Prop}{w:World}{v:Value}{fs:List Fa}(h:FasS S w v fs)(hl:fs.length<=100000):
 Calls Tryz.prog 16 #[v] w fun e w'=>∃v',e=.returned v'/\SrcW w' v' (jac fs)/\Below w.heap.size w w':=by
 obtain⟨ao,cap,rfl⟩:=h.slice;have H:=zA h;obtain⟨n,hn⟩:=eX fs.length;rw[<- hn]at H hl ⊢;have HN:=zA hn;obtain⟨R,hR⟩:=eX (jac fs);rw[<- hR];have HR:=zA hR;clear h hn hR;go_enter Tryz.func16,Tryz.ntmps16;go_wp2_with fail;go_loopw [3,4] (fun vl c wr=>∃(i:Nat) (u:Value),u=vl/\i<=n/\c=.int .i64 i/\SrcW wr u (jac (fs.take i))/\Below w.heap.size w wr) (fun _ c _=>n-(intOf c).toNat)
 case atStart=>exact⟨0,.slice none 0 0,rfl,zO _,rfl,jkC _,zF _ _⟩
 case round=>
  obtain⟨i,u,rfl,hi,rfl,ab,aq⟩:=hrel;obtain⟨wx,ax⟩:=eX wr;subst ax;obtain⟨V,hV⟩:=eX (jac (fs.take i));rw[<- hV]at ab;have ar:V.length<=200000:=by rw[hV];have:=jbz (fs.take i);rw[zX]at this;omega
  have ad:=zA ab;obtain⟨_,ua,uc,hu,_⟩:=ab;obtain⟨nu,ai⟩:=eX V.length;rw[<- ai]at hu ar;subst hu;have af:=zA aq;have HV:=zA hV;have am:=zA ai;clear aq hV ai;by_cases hlt:i<n
  . have aj:(i:Int)<(n:Int):=by omega
    obtain⟨⟨ae,fp1,ah⟩,hx⟩:∃x,fs[i]?=some x:=⟨_,zB (by rw[<- HN.out];exact hlt)⟩
    obtain⟨g,ac,aw,_,al,aa⟩:=(H.out.below af.out).get hx;subst aw;obtain⟨q0,q1,q2⟩:=getF aa;have HT:Hid (jac (fs.take (i+1))=putL less (putL less V ae) ah):=zA (by rw[zS,hx,HV.out];exact jir _ _);have KC:Hid (∀u,Below wx.heap.size wx u->u.cell? ⟨g,ac+i*3,none⟩=some (.string ⟨ae.toArray⟩)/\u.cell? ⟨g,ac+i*3+2,none⟩=some (.string ⟨ah.toArray⟩)):=zA (fun u hu=>⟨(hu.cell (p:=⟨g,ac+i*3,none⟩) al).trans q0,(hu.cell (p:=⟨g,ac+i*3+2,none⟩) al).trans q2⟩);have ag:Hid (Below wx.heap.size wx wx.drew):=zA (zF _ _).drew;have C1:=zA (jh5 (ad.out.below ag.out) (by rw[<- am.out];omega) ae);clear hx aa q1;go_wp2_with fail;go_region_held3 (fun u=>u.cell? ⟨g,ac+i*3,none⟩=some (.string ⟨ae.toArray⟩)/\u.cell? ⟨g,ac+i*3+2,none⟩=some (.string ⟨ah.toArray⟩))
     (first|with_reducible exact KC.out _ ag.out|with_reducible exact KC.out _ h4|with_reducible exact KC.out _ h3)
     (first
      |(go_at_call 37;with_reducible refine C1.out.mono ?_;rintro e w3 ⟨v3,rfl,av,ap⟩;have h3:=ag.out.trans (ap.mono ag.out.size))
      |(go_at_call 37;refine(jh5 av (by have:=jea (lt:=less) V ae;have:=am.out;omega) ah).mono ?_;rintro e w4 ⟨v4,rfl,ak,an⟩;have h4:=h3.trans (an.mono h3.size)))
    all_goals (
     have ay:=zA ak;have au:=zA (af.out.trans (h4.mono af.out.size));clear ak an h4 h3 ap;go_wp2;go_roundw
     case rel=>exact⟨i+1,_,rfl,by omega,by go_num,by rw[HT.out];exact ay.out,au.out⟩
     case measure=>simp[intOf];omega)
  . have aj:¬(i:Int)<(n:Int):=by omega
    have HT:Hid (V=R):=zA (by rw[HV.out,HR.out,zJ (by rw[<- HN.out];omega)]);go_wp2;go_ret;exact⟨_,rfl,by rw[<- HT.out];exact ad.out,af.out⟩
end Go.Proofs.YtkbgmcmcpbegjaaGreatDoor
namespace Go.Proofs.YtkbgmcmcpbegjaaGreatDoor
open Go.RowKit
def jdi(ws:List Wd)(s:Wd):Nat->Nat
 |0=>0
 |k+1=>if ws[k]?=some s then jdi ws s k ||| 2^k else jdi ws s k
theorem jfK(ws:List Wd)(s:Wd)(j:Nat):∀k,(jdi ws s k).testBit j=true↔j<k/\ws[j]?=some s
 |0=>by simp[jdi]
 |k+1=>by
  rw[jdi];split
  . rename_i h;rw[Nat.testBit_or,Bool.or_eq_true,jfK ws s j k,Nat.testBit_two_pow,decide_eq_true_eq];constructor
    . rintro (⟨h1,h2⟩|rfl)
      . exact⟨by omega,h2⟩
      . exact⟨by omega,h⟩
    . rintro⟨h1,h2⟩;by_cases e:k=j
      . exact .inr e
      . exact .inl ⟨by omega,h2⟩
  . rename_i h;rw[jfK ws s j k];constructor
    . rintro⟨h1,h2⟩;exact⟨by omega,h2⟩
    . rintro⟨h1,h2⟩;have:j≠k:=fun e=>h (by rw[<- e];exact h2)
      exact⟨by omega,h2⟩
theorem jf3(ws:List Wd)(s:Wd):∀k,k<=24->jdi ws s k<16777216
 |0,_=>by simp[jdi]
 |k+1,h=>by
  rw[jdi];have:=jf3 ws s k (by omega);split
  . exact jek this (jb7 (by omega))
  . exact this
def jbH(w:World)(b o:Nat)(F:Nat->Nat):Prop:=∀j,j<24->w.cell? ⟨b,o+j,none⟩=some (.int .u32 (F j:Int))/\w.frozen? ⟨b,o+j,none⟩=false
theorem jbH.keep{w w':World}{b o:Nat}{F:Nat->Nat}(h:jbH w b o F)(hb:w'.heap[b]?=w.heap[b]?):jbH w' b o F:=fun j hj=>by
 have:=h j hj;simpa only[World.cell?,World.frozen?,hb]using this
theorem jbH.set{w:World}{b o:Nat}{F:Nat->Nat}(h:jbH w b o F){i x:Nat}(hi:i<24):jbH (w.setCell ⟨b,o+i,none⟩ (.int .u32 (x:Int))) b o (fun j=>if j=i then x else F j):=fun j hj=>by
 rw[World.frozen?_setCell];refine⟨?_,(h j hj).2⟩;by_cases e:j=i
 . subst e;rw[World.cell?_setCell_same _ _ _ (h j hj).1];simp
 . rw[World.cell?_setCell_other _ _ _ _ (fun h=>e (by injection h with h1 h2;omega)),(h j hj).1];simp[e]
theorem jbH.congr{w:World}{b o:Nat}{F G:Nat->Nat}(h:jbH w b o F)(hg:∀j,j<24->F j=G j):jbH w b o G:=fun j hj=>by rw[(h j hj).1,hg j hj];exact⟨rfl,(h j hj).2⟩
theorem jeS{P:Program}{w:World}{ty kt et:TypeId}{es:Array MapEntry}{c:Nat}{k:Int}{v:Value}(hu:P.underlying ty=some (.map kt et))(hk:P.underlying kt=some (.int .i64))(hnew:Instr.findNow (.int .i64) (.int .i64 k) es.toList 0=some none):
 (Instr.mapUpdate ty (.map (some w.heap.size)) (.int .i64 k) v).run P (w.alloc (.map es c))=.ok () (w.alloc (.map (es.push ⟨.int .i64 k,v,c⟩) (c+1))):=by
 have hg:(w.alloc (.map es c)).heap[w.heap.size]?=some (.map es c):=heap_alloc_new w _;unfold Instr.mapUpdate;simp only[Sem.run_bind,run_underlying hu,Result.andThen,MapKept.run_getObj_map hg,MapKept.run_checkKey (P:=P) (k:=.int .i64 k) hk (by trivial),MapKept.run_findKey hk hnew,MapKept.run_setObj_map _ hg];congr 1;show ({ w with heap:=(w.heap.push (.map es c)).setIfInBounds w.heap.size (.map (es.push ⟨.int .i64 k,v,c⟩) (c+1)) }:World)={ w with heap:=w.heap.push (.map (es.push ⟨.int .i64 k,v,c⟩) (c+1)) };congr 1;apply Array.ext_getElem?;intro i;rw[Array.getElem?_setIfInBounds,Array.getElem?_push,Array.getElem?_push];by_cases e:w.heap.size=i
 . subst e;simp
 . have e2:¬i=w.heap.size:=fun h=>e h.symm
   simp[e2,e]
theorem jds{P:Program}{ops:Array Oper}{rest:List Oper}{op:Oper}{a:Act}{w:World}{Q:Exit->Act->World->Prop}(hgd:op.guard=none)(ty:TypeId)(m x y:Operand)(ho:op.op=.insert ty m x y)
 (g:Nat) (hm:a.eval m=.map (some g)) (hgw:g=w.heap.size) (k:Int) (hx:a.eval x=.int .i64 k) (v:Value) (hy:a.eval y=v) (es:Array MapEntry) (c:Nat) {kt et:TypeId} (hu:P.underlying ty=some (.map kt et)) (hk:P.underlying kt=some (.int .i64)) (hnew:Instr.findNow (.int .i64) (.int .i64 k) es.toList 0=some none)
 (h:wpList P ops Q rest (a.put op.dst undef) (w.alloc (.map (es.push ⟨.int .i64 k,v,c⟩) (c+1)))):wpList P ops Q (op::rest) a (w.alloc (.map es c)):=by
 subst hgw;refine wpList_plain hgd fun K hK=>?_
 unfold Oper.wp execOp;simp only[ho,hm,hx,hy,Sem.run_bind,Sem.run_pure,Result.andThen_ok,jeS hu hk hnew];exact hK _ _ h
theorem jaX{P:Program}{w:World}{ty kt et:TypeId}{g:Nat}{es:Array MapEntry}{c j:Nat}{k:Int}{v:Value}(hu:P.underlying ty=some (.map kt et))(hk:P.underlying kt=some (.int .i64))(hg:w.heap[g]?=some (.map es c))(hf:Instr.findNow (.int .i64) (.int .i64 k) es.toList 0=some (some (j,v))):
 (Instr.lookup ty (.map (some g)) (.int .i64 k) false).run P w=.ok v w:=by
 unfold Instr.lookup;simp[Sem.run_bind,run_underlying hu,Result.andThen,MapKept.run_getObj_map hg,MapKept.run_checkKey (P:=P) (k:=.int .i64 k) hk (by trivial),MapKept.run_findKey hk hf]
def entK(k:Int)(f:FuncId)(mb c:Nat):MapEntry:=⟨.int .i64 k,.func (.func f) #[.pointer (some ⟨mb,0,none⟩)] #[],c⟩
def jfz(mb:Nat):Array MapEntry:=#[entK 1 81 mb 0,entK 2 82 mb 1,entK 3 83 mb 2,entK 4 84 mb 3,entK 5 85 mb 4,entK 6 86 mb 5]
def fnK(k:Int):FuncId:=if k=1 then 81 else if k=2 then 82 else if k=3 then 83 else if k=4 then 84 else if k=5 then 85 else 86
theorem jbv(mb:Nat){k:Int}(h1:1<=k)(h6:k<=6):∃j,Instr.findNow (.int .i64) (.int .i64 k) (jfz mb).toList 0=some (some (j,.func (.func (fnK k)) #[.pointer (some ⟨mb,0,none⟩)] #[])):=by
 have:k=1\/k=2\/k=3\/k=4\/k=5\/k=6:=by omega
 rcases this with rfl|rfl|rfl|rfl|rfl|rfl
 . exact⟨0,rfl⟩
 . exact⟨1,rfl⟩
 . exact⟨2,rfl⟩
 . exact⟨3,rfl⟩
 . exact⟨4,rfl⟩
 . exact⟨5,rfl⟩
theorem jbo:Tryz.prog.underlying 148=some (.map 3 104):=Tryz.underlying148
theorem ji9:(Tryz.prog.info? 150).map (fun i=>(i.zero,i.size))=some (some (.agg (#[.slice none 0 0]++Array.replicate 24 (.int .u32 0)++#[.map none])),26):=by kernel_rfl
theorem jg0(w:World):
 Calls Tryz.prog 52 #[] w fun e w'=>e=.returned (.pointer (some ⟨w.heap.size,0,none⟩))/\w'.heap[w.heap.size]?=some (.cells (#[.slice none 0 0]++Array.replicate 24 (.int .u32 0)++#[.map (some (w.heap.size+1))]) 150 (0,0))/\w'.heap[w.heap.size+1]?=some (.map (jfz w.heap.size) 6)/\Below w.heap.size w w':=by
 obtain⟨hv,hsz⟩:=zero_of_info ji9;have hmk:∀w,(Instr.makeMap 148 none).run Tryz.prog w=.ok (.map (some w.heap.size)) (w.alloc (.map #[] 0)):=fun w=>rfl
 obtain⟨z,hz⟩:=eX (#[.slice none 0 0]++Array.replicate 24 (.int .u32 0)++#[.map none]:Array Value);rw[<- hz]at hv;have hz25:z[25]?=some (.map none):=by rw[hz];rfl
 have hzs:z.size=26:=by rw[hz];rfl
 have HZ:Hid (#[.slice none 0 0]++Array.replicate 24 (.int .u32 0)++#[.map (some (w.heap.size+1))]=z.setIfInBounds 25 (.map (some (w.heap.size+1)))):=zA (by rw[hz];rfl);rw[HZ.out];clear HZ hz;go_enter Tryz.func52,Tryz.ntmps52;go_wp2_with (first|(refine jds rfl _ _ _ _ rfl _ rfl (by simp) _ rfl _ rfl _ _ jbo Tryz.underlying3 (by rfl) ?_)|fail);go_ret;refine⟨rfl,?_,?_,?_⟩
 . rw[heap_alloc_old _ _ (by simp),heap_alloc_new]
 . have:=heap_alloc_new (w.alloc (.cells (z.setIfInBounds 25 (.map (some (w.heap.size+1)))) 150)) (.map (jfz w.heap.size) 6);simpa[jfz,entK]using this
 . exact((zF _ _).alloc (zD _) _).alloc (by simp) _
end Go.Proofs.YtkbgmcmcpbegjaaGreatDoor
