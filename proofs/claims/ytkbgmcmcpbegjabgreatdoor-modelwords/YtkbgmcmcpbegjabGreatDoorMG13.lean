/- MPutR. -/
import Derived.Test.YtkbgmcmcpbegjabGreatDoorMG12
set_option maxRecDepth 100000
namespace Go.Proofs.YtkbgmcmcpbegjabGreatDoor
open Go.RowKit Go.Shelf
abbrev csRw(p:Value×Rw):List Value:=[p.1]
theorem csRw_len(x:Value×Rw):(csRw x).length=1:=rfl
structure RowsS (w:World) (v:Value) (rs:List (Value×Rw)):Prop where
 src:Src csRw 1 w v rs
 cap:CapS v rs.length
 rows:∀p∈rs,TxtS (fun _=>True) w p.1 p.2/\p.2.length<=1000000
def RowsM(w:World)(v:Value)(L:List Rw):Prop:=∃rs:List (Value×Rw),RowsS w v rs/\rs.map (·.2)=L
theorem RowsS.below{w w':World}{v:Value}{rs:List (Value×Rw)}(h:RowsS w v rs)(hb:Below w.heap.size w w'):RowsS w' v rs:=⟨h.src.below hb,h.cap,fun p hp=>⟨(h.rows p hp).1.below hb,(h.rows p hp).2⟩⟩
theorem RowsM.below{w w':World}{v:Value}{L:List Rw}(h:RowsM w v L)(hb:Below w.heap.size w w'):RowsM w' v L:=by
 obtain⟨rs,h1,h2⟩:=h;exact⟨rs,h1.below hb,h2⟩
theorem rowsM_nil(w:World):RowsM w (.slice none 0 0) []:=⟨[],⟨⟨SlS.nil _ _,fun m c e=>by injection e with _ e2 e3;exact⟨e2.symm,e3.symm⟩⟩,⟨none,0,rfl,zD _⟩,by simp⟩,rfl⟩
theorem one_csRw(rs:List (Value×Rw))(h:∀p∈rs,p.1.oneCell'=true):∀u∈rs.flatMap csRw,u.oneCell'=true:=by
 intro u hu;obtain⟨x,hx,h2⟩:=List.mem_flatMap.1 hu;simp at h2;rw[h2];exact h x hx
theorem infoRw:(Tryz.prog.info? 30).map (fun i=>(i.zero,i.size,i.bytes))=some (some (.slice none 0 0),1,24):=by kernel_rfl
set_option maxHeartbeats 16000000 in
theorem rPutRow_any{w:World}{v vr:Value}{L:List Rw}{r:Rw}(h:RowsM w v L)(hl:L.length<=1000000000000)(hrise:RiseL lessR L)(hv:TxtS (fun _=>True) w vr r)(hrl:r.length<=1000000):
 Calls Tryz.prog 15 #[v,vr] w fun e w'=>∃v',e=.returned v'/\RowsM w' v' (putL lessR L r)/\Below w.heap.size w w':=by
 obtain⟨i0,hi0,hz0,hz1,hz2⟩:=info_parts infoRw;obtain⟨R,hR⟩:∃R,R=putL lessR L r:=⟨_,rfl⟩
 rw[<- hR];have HR:=zA hR;obtain⟨rs,hrs,hmap⟩:=h;obtain⟨la,lc,hvv,hlc⟩:=hrs.cap;subst hvv;obtain⟨ra,rc,hvr⟩:=hv.slice;have HV:=zA hv;obtain⟨rn,hrn⟩:∃n,n=r.length:=⟨_,rfl⟩
 rw[<- hrn]at hvr;obtain⟨n,hn⟩:∃n,n=rs.length:=⟨_,rfl⟩
 have HLL:Hid (rs.length=L.length):=zA (by rw[<- hmap,zH]);have hnl:n<=1000000000000:=by rw[hn,HLL.out];exact hl
 have HRS:=zA hrs;rw[<- hn]at HRS hlc ⊢;have HN:=zA hn;have HLM:=zA hmap;have HRI:=zA hrise;have HRO0:Hid (∀p∈rs,p.1.oneCell'=true):=zA (fun p hp=>by
  obtain⟨a,c,e⟩:=(hrs.rows p hp).1.slice;rw[e];rfl)
 have hvo:vr.oneCell'=true:=by rw[hvr];rfl
 clear hrs hmap hrise hR hv hn hl hrn;subst hvr;have C:Hid (∀u,Below w.heap.size w u->∀p∈rs,Calls Tryz.prog 33 #[p.1,(.slice ra rn rc)] u fun e w'=>e=.returned (.bool (lessR p.2 r))/\Below u.heap.size u w'):=zA (fun u hu p hp=>rLess_any ((HRS.out.rows p hp).1.below hu) (HV.out.below hu) (HRS.out.rows p hp).2);have CS:Hid (∀u,Below w.heap.size w u->∀p∈rs,Calls Tryz.prog 34 #[p.1,(.slice ra rn rc)] u fun e w'=>e=.returned (.bool (decide (p.2=r)))/\Below u.heap.size u w'):=zA (fun u hu p hp=>rSameRow_any ((HRS.out.rows p hp).1.below hu) (HV.out.below hu) (HRS.out.rows p hp).2 hrl);go_enter Tryz.func15,Tryz.ntmps15;go_wp2_with fail;go_loopw [5,6] (fun c d wr=>∃(a b:Nat),a<=b/\b<=n/\c=.int .i64 a/\d=.int .i64 b/\(∀(j:Nat) x,j<a->L[j]?=some x->lessR x r=true)/\(∀(j:Nat) x,b<=j->L[j]?=some x->lessR x r=false)/\Below w.heap.size w wr) (fun c d _=>(intOf d).toNat-(intOf c).toNat)
 case atStart=>exact⟨0,n,zR _,zD _,rfl,rfl,fun j x hj=>absurd hj (by omega),fun j x hj hx=>by
  have:=(zE.1 hx).1;rw[<- HLL.out,<- HN.out]at this;omega,zF _ _⟩
 case round=>
  obtain⟨a,b,hab,hbn,rfl,rfl,hlow,hhigh,hbq⟩:=hrel;have HLOW:=zA hlow;have HHIGH:=zA hhigh;have HBQ:=zA hbq;clear hlow hhigh hbq;by_cases hlt:a<b
  . have hltI:(a:Int)<(b:Int):=by omega
    obtain⟨mid,hmid⟩:∃m,m=(a+b)/2:=⟨_,rfl⟩
    have hm1:a<=mid:=by omega
    have hm2:mid<b:=by omega
    have hmI:(mid:Int)<(n:Int):=by omega
    have hsum:IntKind.i64.wrap ((a:Int)+(b:Int))=(a:Int)+(b:Int):=by rw[IntKind.wrap_i64];omega
    have hdiv:((a:Int)+(b:Int)).tdiv 2=(mid:Int):=by
     rw[Int.tdiv_eq_ediv_of_nonneg (by omega),hmid];omega
    obtain⟨⟨xv,xr⟩,hx⟩:∃x,rs[mid]?=some x:=⟨_,zB (by rw[<- HN.out];omega)⟩
    have hxL:L[mid]?=some xr:=by rw[<- HLM.out,zI,hx];rfl
    obtain⟨g,off,hla,_,_,hcell⟩:=(HRS.out.src.sl.below HBQ.out).get hx;subst hla;have q0:=hcell 0 _ rfl;rw[yF,yJ]at q0;have C1:=zA (C.out wr HBQ.out (xv,xr) (zC hx));have HXL:=zA hxL;obtain⟨xa,xc,hxv⟩:=(HRS.out.rows _ (zC hx)).1.slice;dsimp only at hxv;have HXV:=zA hxv;obtain⟨ls,hls⟩:∃b,b=lessR xr r:=⟨_,rfl⟩
    have HLS:=zA hls;have C2:Hid (Calls Tryz.prog 33 #[xv,(.slice ra rn rc)] wr fun e w'=>e=.returned (.bool ls)/\Below wr.heap.size wr w'):=zA (by rw[hls];exact C1.out);clear hx hxL hcell hxv hls hmid C1;go_wp2_with fail;refine C2.out.mono ?_;rintro e w3 ⟨rfl,hb3⟩;have HB3:=zA (HBQ.out.trans (hb3.mono HBQ.out.size));clear hb3;cases ls with
    |true=>
     have HL2:Hid (∀(j:Nat) x,j<mid+1->L[j]?=some x->lessR x r=true):=zA (fun j x hj hx=>by
      by_cases e:j=mid
      . subst e;rw[HXL.out]at hx;injection hx with hx;rw[<- hx];exact HLS.out.symm
      . exact lessR_tr _ _ _ (HRI.out.lt_at ordR hx HXL.out (by omega)) HLS.out.symm)
     go_wp2;go_roundw
     case rel=>exact⟨mid+1,b,by omega,by omega,by go_num,rfl,HL2.out,HHIGH.out,HB3.out⟩
     case measure=>simp[intOf];omega
    |false=>
     have HH2:Hid (∀(j:Nat) x,mid<=j->L[j]?=some x->lessR x r=false):=zA (fun j x hj hx=>by
      by_cases e:j=mid
      . subst e;rw[HXL.out]at hx;injection hx with hx;rw[<- hx];exact HLS.out.symm
      . cases h:lessR x r with
        |false=>rfl
        |true=>
         have h2:=lessR_tr _ _ _ (HRI.out.lt_at ordR HXL.out hx (by omega)) h;rw[<- HLS.out]at h2;cases h2)
     go_wp2;go_roundw
     case rel=>exact⟨a,mid,by omega,by omega,rfl,rfl,HLOW.out,HH2.out,HB3.out⟩
     case measure=>simp[intOf];omega
  . have hltI:¬(a:Int)<(b:Int):=by omega
    obtain rfl:a=b:=by omega
    obtain⟨k,hk0⟩:∃k,k=a:=⟨_,rfl⟩
    subst hk0;have hk:k<=n:=hbn;have HNOT:Hid (∀y,L[k]?=some y->lessR y r=false):=zA (fun y hy=>HHIGH.out k y (zD _) hy);obtain⟨RS,hRS⟩:∃l,l=rs.take k++[(Value.slice ra rn rc,r)]++rs.drop k:=⟨_,rfl⟩
    obtain⟨wy,hwy⟩:∃wy,wy=wr:=⟨_,rfl⟩
    subst hwy;by_cases hkn:k<n
    . have hknI:(k:Int)<(n:Int):=by omega
      obtain⟨⟨xv,xr⟩,hx⟩:∃x,rs[k]?=some x:=⟨_,zB (by rw[<- HN.out];exact hkn)⟩
      have hxL:L[k]?=some xr:=by rw[<- HLM.out,zI,hx];rfl
      obtain⟨g,off,hla,_,_,hcell⟩:=(HRS.out.src.sl.below HBQ.out).get hx;subst hla;have q0:=hcell 0 _ rfl;rw[yF,yJ]at q0;obtain⟨sm,hsm⟩:∃b,b=decide (xr=r):=⟨_,rfl⟩
      have C2:Hid (Calls Tryz.prog 34 #[xv,(.slice ra rn rc)] wy fun e w'=>e=.returned (.bool sm)/\Below wy.heap.size wy w'):=zA (by rw[hsm];exact CS.out wy HBQ.out (xv,xr) (zC hx));have HXL:=zA hxL;have HSM:=zA hsm;clear hx hxL hcell hsm;go_wp2_with fail;refine C2.out.mono ?_;rintro e wx ⟨rfl,hb3⟩;have HBX:=zA (HBQ.out.trans (hb3.mono HBQ.out.size));clear hb3 q0;cases sm with
      |true=>
       have HT:Hid (R=L):=zA (by rw[HR.out,putL_at (k:=k) (by rw[<- HLL.out,<- HN.out];exact hk) HLOW.out HNOT.out,if_pos (by rw[HXL.out,of_decide_eq_true HSM.out.symm])]);go_wp2;go_ret;exact⟨_,rfl,by rw[HT.out];exact⟨rs,HRS.out.below HBX.out,HLM.out⟩,HBX.out⟩
      |false=>
       have HNE:Hid (¬L[k]?=some r):=zA (fun h=>by rw[HXL.out]at h;injection h with h;exact of_decide_eq_false HSM.out.symm h);have H:=zA (HRS.out.src.below HBX.out);have HROWS:=zA (HRS.out.below HBX.out).rows;have HVR:=zA (HV.out.below HBX.out);have HRO:∀p∈rs,p.1.oneCell'=true:=HRO0.out;have HT:Hid (RS=rs.take k++[(Value.slice ra rn rc,r)]++rs.drop k):=zA hRS;have HRM:Hid (RS.map (·.2)=R):=zA (by
        rw[hRS,HR.out,putL_at (k:=k) (by rw[<- HLL.out,<- HN.out];exact hk) HLOW.out HNOT.out,if_neg HNE.out,yL,yL,List.map_take,List.map_drop,HLM.out];rfl)
       have HRR:Hid (∀u,Below wx.heap.size wx u->∀p∈RS,TxtS (fun _=>True) u p.1 p.2/\p.2.length<=1000000):=zA (fun u hu p hp=>by
        rw[hRS]at hp;rcases zM.1 hp with hp|hp
        . rcases zM.1 hp with hp|hp
          . have h:=HROWS.out p (List.mem_of_mem_take hp);exact⟨h.1.below hu,h.2⟩
          . simp at hp;subst hp;exact⟨HVR.out.below hu,hrl⟩
        . have h:=HROWS.out p (List.mem_of_mem_drop hp);exact⟨h.1.below hu,h.2⟩)
       clear hRS;have hkc:(k:Int)<=(lc:Int):=by omega
       have hnc:(n:Int)<=(lc:Int):=by omega
       have hkn:(k:Int)<=(n:Int):=by omega
       have HS1:Hid (Src csRw 1 wx (.slice (some ⟨g,off,none⟩) k lc) (rs.take k)):=zA (src_take H.out HN.out hk);have hck:¬lc=k:=by omega
       have HS2:Hid (Src csRw 1 wx (.slice (some ⟨g,off+k,none⟩) (n-k) (lc-k)) (rs.drop k)):=zA (by
        have h:=src_drop H.out HN.out hk hlc;rw[if_neg hck,Option.map_some,addA]at h;exact h)
       go_wp2_with (at_builtin;refine wpList_append_many rfl _ _ rfl Tryz.underlying38 hi0 hz0 hz1 hz2 rfl (by decide) (by rfl) (World.ownsRow_nil _ wx.heap.size _ _) (some ⟨g,off,none⟩) ((rs.take k).flatMap csRw) k lc (by rfl) (by rw[flat_len csRw_len,yH,<- HN.out];omega) (fun e=>HS1.out.no _ _ (by rw[e])) (HS1.out.cells csRw_len (by decide)) (one_csRw _ (fun p hp=>HRO p (by first|exact List.mem_of_mem_take hp|exact List.mem_of_mem_drop hp))) (by unfold maxLen;omega) (by omega) (zD _) ?_);intro v3 w3 hown3 hgrow3;obtain⟨X3,hX3⟩:∃l,l=(rs.take k).flatMap csRw:=⟨_,rfl⟩
       have HX3:=zA hX3;have hown3':w3.ownsRow wx.heap.size 30 1 v3 k X3:=by
        rw[hX3];simpa using hown3
       have HB3:Hid (Below wx.heap.size wx w3):=zA (Below.grown (zF _ _) hgrow3 (zD _) (fun k hk=>by cases hk));obtain⟨a3,c3,hv3⟩:=own_slice hown3';subst hv3;have HO3:=zA hown3';have hs3:wx.heap.size<=w3.heap.size:=HB3.out.size;clear hown3 hgrow3 hown3' hX3;go_wp2_with (at_builtin;refine wpList_append_lies _ rfl _ _ _ rfl wx.heap.size 30 i0 _ 1 24 Tryz.underlying38 hi0 hz0 hz1 hz2 rfl (by decide) (.slice a3 k c3) _ _ (by rfl) (HO3.out.alloc _) ⟨w3.heap.size,0,none⟩ 1 1 [.slice ra rn rc] (by rfl) (by rfl) (World.news_of_block (cs:=#[.slice ra rn rc]) (t:=30) (fr:=(0,0)) (heap_alloc_new w3 _)) (by simp[hvo]) (by decide) (by unfold maxLen;omega) (by omega) (by simp;omega) (w3.heap.size+1) (by simp) ?_);intro gg cap2 w4 hown4 hgrow4 hat4 hlt4;have ba:Below w3.heap.size w3 (w3.alloc (.cells #[.slice ra rn rc] 30)):=(zF _ _).alloc (zD _) _;have HB4:Hid (Below wx.heap.size wx w4):=zA ((HB3.out.trans (ba.mono HB3.out.size)).grown hgrow4 (by simp;omega) (fun k e=>(HO3.out.lt k e).1));obtain⟨X4,hX4⟩:∃l,l=X3++[.slice ra rn rc]:=⟨_,rfl⟩
       have HX4:=zA hX4;rw[<- hX4]at hown4;have HO4:=zA hown4;have HS4:=zA (HS2.out.below HB4.out);have hs4:wx.heap.size<=w4.heap.size:=HB4.out.size;clear hown4 hgrow4 hat4 hlt4 ba hX4;go_wp2_with (at_builtin;refine wpList_append_many rfl _ _ rfl Tryz.underlying38 hi0 hz0 hz1 hz2 rfl (by decide) (by rfl) HO4.out (some ⟨g,off+k,none⟩) ((rs.drop k).flatMap csRw) (n-k) (lc-k) (by rfl) (by rw[flat_len csRw_len,List.length_drop,<- HN.out];try omega) (fun e=>HS4.out.no _ _ (by rw[e])) (HS4.out.cells csRw_len (by decide)) (one_csRw _ (fun p hp=>HRO p (by first|exact List.mem_of_mem_take hp|exact List.mem_of_mem_drop hp))) (by unfold maxLen;omega) (by omega) hs4 ?_);intro v5 w5 hown5 hgrow5;have HB5:Hid (Below wx.heap.size wx w5):=zA (HB4.out.grown hgrow5 HB4.out.size (fun k hk=>(HO4.out.lt k hk).1));have HO5:Hid (w5.ownsRow wx.heap.size 30 1 v5 RS.length (RS.flatMap csRw)):=zA (by
        rw[HT.out,zG,zG,yH,List.length_drop,zT,zT,<- HX3.out,<- HN.out];rw[HX4.out]at hown5;have e1:min k n+[(Value.slice ra rn rc,r)].length+(n-k)=k+1+(n-k):=by rw[Nat.min_eq_left hk];rfl
        rw[e1];simpa using hown5)
       obtain⟨a5,c5,hv5⟩:=own_slice hown5;subst hv5;clear hown5 hgrow5;go_wp2;go_ret;exact⟨_,rfl,⟨RS,⟨Src.own csRw_len HO5.out rfl,own_capM HO5.out,HRR.out _ HB5.out⟩,HRM.out⟩,HBX.out.trans (HB5.out.mono HBX.out.size)⟩
    . have hknI:¬(k:Int)<(n:Int):=by omega
      have hdk:decide ((k:Int)<(n:Int))=false:=decide_eq_false hknI;have hkn2:k=n:=by omega
      have HNE:Hid (¬L[k]?=some r):=zA (fun hy=>by
       have:=(zE.1 hy).1;rw[<- HLL.out,<- HN.out]at this;omega)
      obtain⟨wx,hwx⟩:∃wx,wx=wy:=⟨_,rfl⟩
      subst hwx;have HBX:=HBQ;have H:=zA (HRS.out.src.below HBX.out);have HROWS:=zA (HRS.out.below HBX.out).rows;have HVR:=zA (HV.out.below HBX.out);have HRO:∀p∈rs,p.1.oneCell'=true:=HRO0.out;have HT:Hid (RS=rs.take k++[(Value.slice ra rn rc,r)]++rs.drop k):=zA hRS;have HRM:Hid (RS.map (·.2)=R):=zA (by
       rw[hRS,HR.out,putL_at (k:=k) (by rw[<- HLL.out,<- HN.out];exact hk) HLOW.out HNOT.out,if_neg HNE.out,yL,yL,List.map_take,List.map_drop,HLM.out];rfl)
      have HRR:Hid (∀u,Below wx.heap.size wx u->∀p∈RS,TxtS (fun _=>True) u p.1 p.2/\p.2.length<=1000000):=zA (fun u hu p hp=>by
       rw[hRS]at hp;rcases zM.1 hp with hp|hp
       . rcases zM.1 hp with hp|hp
         . have h:=HROWS.out p (List.mem_of_mem_take hp);exact⟨h.1.below hu,h.2⟩
         . simp at hp;subst hp;exact⟨HVR.out.below hu,hrl⟩
       . have h:=HROWS.out p (List.mem_of_mem_drop hp);exact⟨h.1.below hu,h.2⟩)
      clear hRS;cases la with
      |none=>
       obtain⟨hn0,hc0⟩:=H.out.no n lc rfl;subst hn0 hc0;obtain rfl:k=0:=by omega
       have HS1:Hid (Src csRw 1 wx (.slice none 0 0) (rs.take 0)):=zA (src_take H.out HN.out hk);have HS2:Hid (Src csRw 1 wx (.slice none 0 0) (rs.drop 0)):=zA (by simpa using H.out);go_wp2_with (at_builtin;refine wpList_append_many rfl _ _ rfl Tryz.underlying38 hi0 hz0 hz1 hz2 rfl (by decide) (by rfl) (World.ownsRow_nil _ wx.heap.size _ _) none ((rs.take 0).flatMap csRw) 0 0 (by rfl) (by rw[flat_len csRw_len,yH,<- HN.out];omega) (fun e=>HS1.out.no _ _ (by rw[e])) (HS1.out.cells csRw_len (by decide)) (one_csRw _ (fun p hp=>HRO p (by first|exact List.mem_of_mem_take hp|exact List.mem_of_mem_drop hp))) (by unfold maxLen;omega) (by omega) (zD _) ?_);intro v3 w3 hown3 hgrow3;obtain⟨X3,hX3⟩:∃l,l=(rs.take 0).flatMap csRw:=⟨_,rfl⟩
       have HX3:=zA hX3;have hown3':w3.ownsRow wx.heap.size 30 1 v3 0 X3:=by
        rw[hX3];simpa using hown3
       have HB3:Hid (Below wx.heap.size wx w3):=zA (Below.grown (zF _ _) hgrow3 (zD _) (fun z hz=>by cases hz));obtain⟨a3,c3,hv3⟩:=own_slice hown3';subst hv3;have HO3:=zA hown3';have hs3:wx.heap.size<=w3.heap.size:=HB3.out.size;clear hown3 hgrow3 hown3' hX3;go_wp2_with (at_builtin;refine wpList_append_lies _ rfl _ _ _ rfl wx.heap.size 30 i0 _ 1 24 Tryz.underlying38 hi0 hz0 hz1 hz2 rfl (by decide) (.slice a3 0 c3) _ _ (by rfl) (HO3.out.alloc _) ⟨w3.heap.size,0,none⟩ 1 1 [.slice ra rn rc] (by rfl) (by rfl) (World.news_of_block (cs:=#[.slice ra rn rc]) (t:=30) (fr:=(0,0)) (heap_alloc_new w3 _)) (by simp[hvo]) (by decide) (by unfold maxLen;omega) (by omega) (by simp;omega) (w3.heap.size+1) (by simp) ?_);intro gg cap2 w4 hown4 hgrow4 hat4 hlt4;have ba:Below w3.heap.size w3 (w3.alloc (.cells #[.slice ra rn rc] 30)):=(zF _ _).alloc (zD _) _;have HB4:Hid (Below wx.heap.size wx w4):=zA ((HB3.out.trans (ba.mono HB3.out.size)).grown hgrow4 (by simp;omega) (fun z e=>(HO3.out.lt z e).1));obtain⟨X4,hX4⟩:∃l,l=X3++[.slice ra rn rc]:=⟨_,rfl⟩
       have HX4:=zA hX4;rw[<- hX4]at hown4;have HO4:=zA hown4;have HS4:=zA (HS2.out.below HB4.out);have hs4:wx.heap.size<=w4.heap.size:=HB4.out.size;clear hown4 hgrow4 hat4 hlt4 ba hX4;go_wp2_with (at_builtin;refine wpList_append_many rfl _ _ rfl Tryz.underlying38 hi0 hz0 hz1 hz2 rfl (by decide) (by rfl) HO4.out none ((rs.drop 0).flatMap csRw) 0 0 (by rfl) (by rw[flat_len csRw_len,List.length_drop,<- HN.out];try omega) (fun e=>HS4.out.no _ _ (by rw[e])) (HS4.out.cells csRw_len (by decide)) (one_csRw _ (fun p hp=>HRO p (by first|exact List.mem_of_mem_take hp|exact List.mem_of_mem_drop hp))) (by unfold maxLen;omega) (by omega) hs4 ?_);intro v5 w5 hown5 hgrow5;have HB5:Hid (Below wx.heap.size wx w5):=zA (HB4.out.grown hgrow5 HB4.out.size (fun z hz=>(HO4.out.lt z hz).1));have HO5:Hid (w5.ownsRow wx.heap.size 30 1 v5 RS.length (RS.flatMap csRw)):=zA (by
        rw[HT.out,zG,zG,yH,List.length_drop,zT,zT,<- HX3.out,<- HN.out];rw[HX4.out]at hown5;have e1:min 0 0+[(Value.slice ra rn rc,r)].length+(0-0)=0+1+(0-0):=by rw[Nat.min_eq_left hk];rfl
        rw[e1];simpa using hown5)
       obtain⟨a5,c5,hv5⟩:=own_slice hown5;subst hv5;clear hown5 hgrow5;go_wp2;go_ret;exact⟨_,rfl,⟨RS,⟨Src.own csRw_len HO5.out rfl,own_capM HO5.out,HRR.out _ HB5.out⟩,HRM.out⟩,HBX.out.trans (HB5.out.mono HBX.out.size)⟩
      |some ad=>
       subst hkn2;by_cases hck:lc=k
       . subst hck;have hkc:(lc:Int)<=(lc:Int):=by omega
         have hnc:(lc:Int)<=(lc:Int):=by omega
         have hkn:(lc:Int)<=(lc:Int):=by omega
         have HS1:Hid (Src csRw 1 wx (.slice (some ad) lc lc) (rs.take lc)):=zA (src_take H.out HN.out hk);have HS2:Hid (Src csRw 1 wx (.slice (some ad) 0 0) (rs.drop lc)):=zA (by
          have h:=src_drop H.out HN.out hk hlc;rw[if_pos rfl,Nat.sub_self]at h;exact h)
         go_wp2_with (at_builtin;refine wpList_append_many rfl _ _ rfl Tryz.underlying38 hi0 hz0 hz1 hz2 rfl (by decide) (by rfl) (World.ownsRow_nil _ wx.heap.size _ _) (some ad) ((rs.take lc).flatMap csRw) lc lc (by rfl) (by rw[flat_len csRw_len,yH,<- HN.out];omega) (fun e=>HS1.out.no _ _ (by rw[e])) (HS1.out.cells csRw_len (by decide)) (one_csRw _ (fun p hp=>HRO p (by first|exact List.mem_of_mem_take hp|exact List.mem_of_mem_drop hp))) (by unfold maxLen;omega) (by omega) (zD _) ?_);intro v3 w3 hown3 hgrow3;obtain⟨X3,hX3⟩:∃l,l=(rs.take lc).flatMap csRw:=⟨_,rfl⟩
         have HX3:=zA hX3;have hown3':w3.ownsRow wx.heap.size 30 1 v3 lc X3:=by
          rw[hX3];simpa using hown3
         have HB3:Hid (Below wx.heap.size wx w3):=zA (Below.grown (zF _ _) hgrow3 (zD _) (fun k hk=>by cases hk));obtain⟨a3,c3,hv3⟩:=own_slice hown3';subst hv3;have HO3:=zA hown3';have hs3:wx.heap.size<=w3.heap.size:=HB3.out.size;clear hown3 hgrow3 hown3' hX3;go_wp2_with (at_builtin;refine wpList_append_lies _ rfl _ _ _ rfl wx.heap.size 30 i0 _ 1 24 Tryz.underlying38 hi0 hz0 hz1 hz2 rfl (by decide) (.slice a3 lc c3) _ _ (by rfl) (HO3.out.alloc _) ⟨w3.heap.size,0,none⟩ 1 1 [.slice ra rn rc] (by rfl) (by rfl) (World.news_of_block (cs:=#[.slice ra rn rc]) (t:=30) (fr:=(0,0)) (heap_alloc_new w3 _)) (by simp[hvo]) (by decide) (by unfold maxLen;omega) (by omega) (by simp;omega) (w3.heap.size+1) (by simp) ?_);intro gg cap2 w4 hown4 hgrow4 hat4 hlt4;have ba:Below w3.heap.size w3 (w3.alloc (.cells #[.slice ra rn rc] 30)):=(zF _ _).alloc (zD _) _;have HB4:Hid (Below wx.heap.size wx w4):=zA ((HB3.out.trans (ba.mono HB3.out.size)).grown hgrow4 (by simp;omega) (fun k e=>(HO3.out.lt k e).1));obtain⟨X4,hX4⟩:∃l,l=X3++[.slice ra rn rc]:=⟨_,rfl⟩
         have HX4:=zA hX4;rw[<- hX4]at hown4;have HO4:=zA hown4;have HS4:=zA (HS2.out.below HB4.out);have hs4:wx.heap.size<=w4.heap.size:=HB4.out.size;clear hown4 hgrow4 hat4 hlt4 ba hX4;go_wp2_with (at_builtin;refine wpList_append_many rfl _ _ rfl Tryz.underlying38 hi0 hz0 hz1 hz2 rfl (by decide) (by rfl) HO4.out (some ad) ((rs.drop lc).flatMap csRw) 0 0 (by rfl) (by rw[flat_len csRw_len,List.length_drop,<- HN.out];try omega) (fun e=>HS4.out.no _ _ (by rw[e])) (HS4.out.cells csRw_len (by decide)) (one_csRw _ (fun p hp=>HRO p (by first|exact List.mem_of_mem_take hp|exact List.mem_of_mem_drop hp))) (by unfold maxLen;omega) (by omega) hs4 ?_);intro v5 w5 hown5 hgrow5;have HB5:Hid (Below wx.heap.size wx w5):=zA (HB4.out.grown hgrow5 HB4.out.size (fun k hk=>(HO4.out.lt k hk).1));have HO5:Hid (w5.ownsRow wx.heap.size 30 1 v5 RS.length (RS.flatMap csRw)):=zA (by
          rw[HT.out,zG,zG,yH,List.length_drop,zT,zT,<- HX3.out,<- HN.out];rw[HX4.out]at hown5;have e1:min lc lc+[(Value.slice ra rn rc,r)].length+(lc-lc)=lc+1+(lc-lc):=by rw[Nat.min_eq_left hk];rfl
          rw[e1];simpa using hown5)
         obtain⟨a5,c5,hv5⟩:=own_slice hown5;subst hv5;clear hown5 hgrow5;go_wp2;go_ret;exact⟨_,rfl,⟨RS,⟨Src.own csRw_len HO5.out rfl,own_capM HO5.out,HRR.out _ HB5.out⟩,HRM.out⟩,HBX.out.trans (HB5.out.mono HBX.out.size)⟩
       . have hkc:(k:Int)<=(lc:Int):=by omega
         have hnc:(k:Int)<=(lc:Int):=by omega
         have hkn:(k:Int)<=(k:Int):=by omega
         have HS1:Hid (Src csRw 1 wx (.slice (some ad) k lc) (rs.take k)):=zA (src_take H.out HN.out hk);have HS2:Hid (Src csRw 1 wx (.slice (some (ad.add k)) 0 (lc-k)) (rs.drop k)):=zA (by
          have h:=src_drop H.out HN.out hk hlc;rw[if_neg hck,Nat.sub_self,Option.map_some]at h;exact h)
         go_wp2_with (at_builtin;refine wpList_append_many rfl _ _ rfl Tryz.underlying38 hi0 hz0 hz1 hz2 rfl (by decide) (by rfl) (World.ownsRow_nil _ wx.heap.size _ _) (some ad) ((rs.take k).flatMap csRw) k lc (by rfl) (by rw[flat_len csRw_len,yH,<- HN.out];omega) (fun e=>HS1.out.no _ _ (by rw[e])) (HS1.out.cells csRw_len (by decide)) (one_csRw _ (fun p hp=>HRO p (by first|exact List.mem_of_mem_take hp|exact List.mem_of_mem_drop hp))) (by unfold maxLen;omega) (by omega) (zD _) ?_);intro v3 w3 hown3 hgrow3;obtain⟨X3,hX3⟩:∃l,l=(rs.take k).flatMap csRw:=⟨_,rfl⟩
         have HX3:=zA hX3;have hown3':w3.ownsRow wx.heap.size 30 1 v3 k X3:=by
          rw[hX3];simpa using hown3
         have HB3:Hid (Below wx.heap.size wx w3):=zA (Below.grown (zF _ _) hgrow3 (zD _) (fun k hk=>by cases hk));obtain⟨a3,c3,hv3⟩:=own_slice hown3';subst hv3;have HO3:=zA hown3';have hs3:wx.heap.size<=w3.heap.size:=HB3.out.size;clear hown3 hgrow3 hown3' hX3;go_wp2_with (at_builtin;refine wpList_append_lies _ rfl _ _ _ rfl wx.heap.size 30 i0 _ 1 24 Tryz.underlying38 hi0 hz0 hz1 hz2 rfl (by decide) (.slice a3 k c3) _ _ (by rfl) (HO3.out.alloc _) ⟨w3.heap.size,0,none⟩ 1 1 [.slice ra rn rc] (by rfl) (by rfl) (World.news_of_block (cs:=#[.slice ra rn rc]) (t:=30) (fr:=(0,0)) (heap_alloc_new w3 _)) (by simp[hvo]) (by decide) (by unfold maxLen;omega) (by omega) (by simp;omega) (w3.heap.size+1) (by simp) ?_);intro gg cap2 w4 hown4 hgrow4 hat4 hlt4;have ba:Below w3.heap.size w3 (w3.alloc (.cells #[.slice ra rn rc] 30)):=(zF _ _).alloc (zD _) _;have HB4:Hid (Below wx.heap.size wx w4):=zA ((HB3.out.trans (ba.mono HB3.out.size)).grown hgrow4 (by simp;omega) (fun k e=>(HO3.out.lt k e).1));obtain⟨X4,hX4⟩:∃l,l=X3++[.slice ra rn rc]:=⟨_,rfl⟩
         have HX4:=zA hX4;rw[<- hX4]at hown4;have HO4:=zA hown4;have HS4:=zA (HS2.out.below HB4.out);have hs4:wx.heap.size<=w4.heap.size:=HB4.out.size;clear hown4 hgrow4 hat4 hlt4 ba hX4;go_wp2_with (at_builtin;refine wpList_append_many rfl _ _ rfl Tryz.underlying38 hi0 hz0 hz1 hz2 rfl (by decide) (by rfl) HO4.out (some (ad.add k)) ((rs.drop k).flatMap csRw) 0 (lc-k) (by rfl) (by rw[flat_len csRw_len,List.length_drop,<- HN.out];try omega) (fun e=>HS4.out.no _ _ (by rw[e])) (HS4.out.cells csRw_len (by decide)) (one_csRw _ (fun p hp=>HRO p (by first|exact List.mem_of_mem_take hp|exact List.mem_of_mem_drop hp))) (by unfold maxLen;omega) (by omega) hs4 ?_);intro v5 w5 hown5 hgrow5;have HB5:Hid (Below wx.heap.size wx w5):=zA (HB4.out.grown hgrow5 HB4.out.size (fun k hk=>(HO4.out.lt k hk).1));have HO5:Hid (w5.ownsRow wx.heap.size 30 1 v5 RS.length (RS.flatMap csRw)):=zA (by
          rw[HT.out,zG,zG,yH,List.length_drop,zT,zT,<- HX3.out,<- HN.out];rw[HX4.out]at hown5;have e1:min k k+[(Value.slice ra rn rc,r)].length+(k-k)=k+1+(k-k):=by rw[Nat.min_eq_left hk];rfl
          rw[e1];simpa using hown5)
         obtain⟨a5,c5,hv5⟩:=own_slice hown5;subst hv5;clear hown5 hgrow5;go_wp2;go_ret;exact⟨_,rfl,⟨RS,⟨Src.own csRw_len HO5.out rfl,own_capM HO5.out,HRR.out _ HB5.out⟩,HRM.out⟩,HBX.out.trans (HB5.out.mono HBX.out.size)⟩
end Go.Proofs.YtkbgmcmcpbegjabGreatDoor
