/- XGrp, XSome1, XSome2. -/
import Derived.Test.YtkbgmcmcpbegjabGreatDoorMH35
set_option maxRecDepth 100000
namespace Go.Proofs.YtkbgmcmcpbegjabGreatDoor
open Go.RowKit Go.Shelf
def lnkOf(lks:List Lm)(x y:Nat):Bool:=lks.any (lnkB x y)
def GrpE(w:World)(lks:List Lm)(c:Ch)(X:List Nat)(e:Ending)(w':World):Prop:=
 ∃ug rows D,e=.returned ug/\GI (lnkOf lks) (openX c X) (rows.map (·.2)) []/\GrM w D w' ug rows []
theorem GrM.plusNil{w wr:World}{D:Nat->Prop}{ug:Value}{rows:List (Value×List Nat)}{x y:Value×List Nat}(h:GrM w D wr ug rows [x,y]):GrM w D wr ug rows [x,y,(.slice none 0 0,[])]:=by
 have hn:∀k,¬QB (.slice none 0 0) k:=fun k hk=>by obtain⟨_,_,_,e⟩:=hk;cases e
 refine h.turn (fun u hu k hk=>?_) (fun u hu=>?_) (fun i j u v hu hv hij k h1 h2=>?_)
 . simp only[zY,List.mem_nil_iff,or_false]at hu;rcases hu with rfl|rfl|rfl
   . exact h.dq _ (by simp) k hk
   . exact h.dq _ (by simp) k hk
   . exact absurd hk (hn k)
 . simp only[zY,List.mem_nil_iff,or_false]at hu;rcases hu with rfl|rfl|rfl
   . exact h.qs _ (by simp)
   . exact h.qs _ (by simp)
   . exact .inl ⟨rfl,rfl⟩
 . match i,j,hu,hv,hij with
   |0,0,_,_,hij=>exact hij rfl
   |1,1,_,_,hij=>exact hij rfl
   |2,2,_,_,hij=>exact hij rfl
   |0,1,hu,hv,hij=>exact h.ap 0 1 u v (by simpa using hu) (by simpa using hv) hij k h1 h2
   |1,0,hu,hv,hij=>exact h.ap 1 0 u v (by simpa using hu) (by simpa using hv) hij k h1 h2
   |2,_,hu,_,_=>simp at hu;subst hu;exact hn k h1
   |_,2,_,hv,_=>simp at hv;subst hv;exact hn k h2
   |i+3,_,hu,_,_=>simp at hu
   |_,j+3,_,hv,_=>simp at hv
theorem GrM.drop1{w wr:World}{D:Nat->Prop}{ug:Value}{rows:List (Value×List Nat)}{x y z:Value×List Nat}(h:GrM w D wr ug rows [x,y,z]):GrM w D wr ug rows [x,z]:=by
 refine h.turn (fun u hu k hk=>?_) (fun u hu=>?_) (fun i j u v hu hv hij k h1 h2=>?_)
 . simp only[zY,List.mem_nil_iff,or_false]at hu;rcases hu with rfl|rfl
   . exact h.dq _ (by simp) k hk
   . exact h.dq _ (by simp) k hk
 . simp only[zY,List.mem_nil_iff,or_false]at hu;rcases hu with rfl|rfl
   . exact h.qs _ (by simp)
   . exact h.qs _ (by simp)
 . match i,j,hu,hv,hij with
   |0,0,_,_,hij=>exact hij rfl
   |1,1,_,_,hij=>exact hij rfl
   |0,1,hu,hv,_=>exact h.ap 0 2 u v (by simpa using hu) (by simpa using hv) (by decide) k h1 h2
   |1,0,hu,hv,_=>exact h.ap 2 0 u v (by simpa using hu) (by simpa using hv) (by decide) k h1 h2
   |i+2,_,hu,_,_=>simp at hu
   |_,j+2,_,hv,_=>simp at hv
set_option maxHeartbeats 16000000 in
theorem groups_any{w:World}{F:Nat->Prop}{jb:Nat}{ds:List Sy}{n:Nat}{c:Ch}{lks:List Lm}{ls:List Lk}{l:List Sx}{cv sv:Value}{X:List Nat}
 (h:JS w F jb ds n c.length lks ls l) (hc:ChR F w cv n c) (hc0:0<c.length) (hsv:NatS F w sv X) (hX:∀k∈X,k<c.length) (hXl:X.length<=1000):
 Calls Tryz.prog 97 #[.pointer (some ⟨jb,0,none⟩),cv,sv] w (GrpE w lks c X):=by
 obtain⟨iR,hiR,hzR0,hzR1,hzR2⟩:=info_partsG infoRG;obtain⟨lv,hj,hlk⟩:=h.lk;have hjl:=h.low jb h.jF;obtain⟨ca,nc,cc,rfl⟩:∃a b d,cv=.slice a b d:=by
  obtain⟨rows0,_,hr2,_⟩:=hc.ex;obtain⟨ca,cc,e⟩:=hr2.slice;exact⟨_,_,_,e⟩
 have hll:=h.ll;obtain⟨w0,hw0⟩:∃W,W=w.alloc (.cells #[.slice ca nc cc] 88):=⟨_,rfl⟩
 have hb0:Below w.heap.size w w0:=by rw[hw0];exact(zF _ _).alloc (zD _) _
 have C0:=zA (cloneI_all (hsv.below hb0) (by omega));have C1:=zA (fun v1 w1=>open_begin (w1:=w1) (v1:=v1) hc hc0 hX hXl hw0);have CL:=zA (fun(a b:Nat) (W:World) (hW:Below w.heap.size w W)=>linked_any (a:=a) (b:=b) (by simpa only[World.cell?,hW.block jb hjl]using hj:W.cell? ⟨jb,3,none⟩=some lv) (hlk.below hW) hll);obtain⟨Y,hY⟩:∃Y,Y=openX c X:=⟨_,rfl⟩
 have hYl:Y.length<=1000:=by rw[hY];exact zQ (yC _ _) hXl
 obtain⟨Q,hQ⟩:∃Q,Q=GrpE w lks c X:=⟨_,rfl⟩
 have HFIN:Hid (∀ug rows D w',GI (lnkOf lks) Y (rows.map (·.2)) []->GrM w D w' ug rows []->Q (.returned ug) w'):=zA (fun ug rows D w' h1 h2=>by
  rw[hQ];rw[hY]at h1;exact⟨ug,rows,D,rfl,h1,h2⟩)
 rw[<- hY]at C1;rw[<- hQ];obtain⟨lnk,hlnk⟩:∃f,f=lnkOf lks:=⟨_,rfl⟩
 rw[<- hlnk]at HFIN;have CL2:Hid (∀(a b:Nat) (W:World),Below w.heap.size w W->Calls Tryz.prog 123 #[.pointer (some ⟨jb,0,none⟩),.int .i64 (a:Int),.int .i64 (b:Int)] W fun e w'=>e=.returned (.bool (lnk a b))/\Below W.heap.size W w'):=zA (by rw[hlnk];exact CL.out);have HW0:=zA hw0;clear CL h hc hc0 hsv hX hXl hj hlk hll hjl hw0 hb0 hY hQ hlnk;go_enter Tryz.func97,Tryz.ntmps97;go_wp2_with fail;rw[<- HW0.out];refine C0.out.mono ?_;rintro e w1 ⟨v1,rfl,hown,hb1⟩;have C2:=zA (C1.out v1 w1 hown hb1);clear hown hb1 C0 C1 HW0;go_wp2_with fail;refine C2.out.mono ?_;rintro e w2 ⟨v2,rfl,hgm⟩;have HGM0:Hid (GrM w (fun _=>False) w2 (.slice none 0 0) [] [(v2,Y)]):=zA hgm;have HGI0:Hid (GI lnk Y [] Y):=zA (GI.start _ _);clear hgm C2;go_wp2_with fail;go_loopg [7,8] Y.length (fun gg u7 u8 wr=>∃(D:Nat->Prop) (rows:List (Value×List Nat)) (O:List Nat),gg=O.length/\Hid (GI lnk Y (rows.map (·.2)) O)/\Hid (GrM w D wr u7 rows [(u8,O)]))
 case atStart=>exact⟨fun _=>False,[],Y,rfl,HGI0,HGM0⟩
 case round=>
  obtain⟨D,rows,O,hgO,HGI,HGM⟩:=hrel;obtain⟨wx,hwx⟩:∃wx,wx=wr:=⟨_,rfl⟩
  subst hwx;obtain⟨gko,hgko⟩:∃x,x=gk:=⟨_,rfl⟩
  subst hgko;have hOl:=HGI.out.len.1;cases O with
  |nil=>
   have HF:=zA (HFIN.out u7 rows D wx HGI.out (HGM.out.turn (fun u hu=>by simp at hu) (fun u hu=>by simp at hu) (fun i j u v hu=>by simp at hu)));have HQ8:=HGM.out.qs (u8,[]) (by simp);dsimp only at HQ8;rcases HQ8 with⟨rfl,_⟩|⟨g,off,cap,cur,rfl,_⟩
   . go_wp2;all_goals (first|(go_ret;exact HF.out)|exact HF.out)
   . go_wp2;all_goals (first|(go_ret;exact HF.out)|exact HF.out)
  |cons a O'=>
   rcases HGM.out.qs (u8,a::O') (by simp)with⟨_,hq0⟩|⟨g,off,cap,cur,hue,hgB,hgb,hoc,hlc,hcells⟩
   . cases hq0
   . dsimp only at hue hgb;subst hue;have hca:wx.cell? ⟨g,off,none⟩=some (.int .i64 (a:Int)):=by
      have:=hcells 0 a rfl;rw[yJ]at this;simp only[World.cell?,hgb];exact this
     obtain⟨nt,hnt⟩:∃k,k=O'.length:=⟨_,rfl⟩
     have hlc2:nt+1<=cap:=by rw[hnt];simpa using hlc
     have hgl:g<wx.heap.size:=lt_of_block hgb;obtain⟨ga,gc,hu7⟩:=own_slice HGM.out.row;obtain⟨nr,hnr⟩:∃k,k=rows.length:=⟨_,rfl⟩
     rw[<- hnr]at hu7;subst hu7;have HNR:=zA hnr;have HFLT:Hid ((rows.map (·.2)).flatten.length+(nt+1)=Y.length):=zA (by
      have:=HGI.out.perm.length_eq;rw[zG,yI,<- hnt]at this;exact this)
     have hnrl:nr<=1000:=by
      have:=HGI.out.count;rw[zH,<- hnr]at this;omega
     clear hnr;obtain⟨wq,hwq⟩:∃W,W=wx.alloc (.cells #[.int .i64 (a:Int)] 3):=⟨_,rfl⟩
     have hbq:Below wx.heap.size wx wq:=by rw[hwq];exact(zF _ _).alloc (zD _) _
     have haq:wq.heap[wx.heap.size]?=some (.cells #[.int .i64 (a:Int)] 3 (0,0)):=by rw[hwq];exact heap_alloc_new _ _
     have hgq:wq.heap[g]?=some (.cells cur 3 (0,0)):=(hbq.block g hgl).trans hgb;have hszw:w.heap.size<=wx.heap.size:=HGM.out.bel.size;have HQ1:Hid (∀u,(u=.slice (some ⟨g,off,none⟩) 0 0/\cap=1)\/(u=.slice (some ⟨g,off+1,none⟩) nt (cap-1)/\cap≠1)->GrM w D wq (.slice ga nr gc) rows [(.slice (some ⟨wx.heap.size,0,none⟩) 1 1,[a]),(u,O')]):=zA (fun u hu=>by
      have hQ:QRow w.heap.size wq u O':=by
       rcases hu with⟨rfl,hc1⟩|⟨rfl,hc1⟩
       . have h0:O'=[]:=yP.1 (by omega);subst h0;exact .inr ⟨g,off,0,cur,rfl,hgB,hgq,by omega,zD _,fun j x hx=>by simp at hx⟩
       . exact .inr ⟨g,off+1,cap-1,cur,by rw[hnt],hgB,hgq,by omega,by omega,fun j x hx=>by
          have:=hcells (j+1) x (by simpa using hx);rw[show off+1+j=off+(j+1) by omega];exact this⟩
      have hug:∀k,QB u k->k=g:=fun k hk=>by
       obtain⟨_,_,_,e⟩:=hk;rcases hu with⟨rfl,_⟩|⟨rfl,_⟩
       . injection e with e;injection e with e;injection e with e;exact e.symm
       . injection e with e;injection e with e;injection e with e;exact e.symm
      have hua:∀k,QB (.slice (some ⟨wx.heap.size,0,none⟩) 1 1) k->k=wx.heap.size:=fun k hk=>by
       obtain⟨_,_,_,e⟩:=hk;injection e with e;injection e with e;injection e with e;exact e.symm
      have hQa:QRow w.heap.size wq (.slice (some ⟨wx.heap.size,0,none⟩) 1 1) [a]:=.inr ⟨wx.heap.size,0,1,_,rfl,hszw,haq,by simp,by simp,fun j x hx=>by
       match j,hx with
       |0,hx=>simp at hx;subst hx;rfl
       |j+1,hx=>simp at hx⟩
      have hdg:¬D g:=HGM.out.dq _ (zN ..) g ⟨off,_,cap,rfl⟩;refine(HGM.out.below hbq).turn (fun y hy k hk=>?_) (fun y hy=>?_) (fun i j x y hx hy hij k hk1 hk2=>?_)
      . simp only[zY,List.mem_nil_iff,or_false]at hy;rcases hy with rfl|rfl
        . rw[hua k hk];exact fun hd=>by have:=(HGM.out.dl _ hd).2;omega
        . rw[hug k hk];exact hdg
      . simp only[zY,List.mem_nil_iff,or_false]at hy;rcases hy with rfl|rfl
        . exact hQa
        . exact hQ
      . match i,j,hx,hy,hij with
        |0,0,_,_,hij=>exact hij rfl
        |1,1,_,_,hij=>exact hij rfl
        |0,1,hx,hy,_=>
         simp at hx hy;subst hx hy;have h1:=hua k hk1;have h2:=hug k hk2;omega
        |1,0,hx,hy,_=>
         simp at hx hy;subst hx hy;have h1:=hua k hk2;have h2:=hug k hk1;omega
        |i+2,_,hx,_,_=>simp at hx
        |_,j+2,_,hy,_=>simp at hy)
     have HGM1:Hid (GM lnk Y (rows.map (·.2)) [a] 0 O'):=zA HGI.out.pop;have hcapI:(nt:Int)+1<=(cap:Int):=by omega
     have hntI:(0:Int)<(nt:Int)+1:=by omega
     rw[yI]at hOl hgO;rw[<- hnt]at hOl hgO;have hntl:nt<=1000:=by omega
     have HNT:=zA hnt;have HWQ:=zA hwq;have HGO:=zA hgO;rw[yI,<- hnt];clear hcells hlc hnt hwq hbq haq hgq hgO HGM HGI;go_upto_region 5 with fail;rw[<- HWQ.out];go_cut [8] (fun s8 wz=>Hid (GrM w D wq (.slice ga nr gc) rows [(.slice (some ⟨wx.heap.size,0,none⟩) 1 1,[a]),(s8,O')])/\wz=wq)
     case first=>
      by_cases hc1:cap=1
      . have HQ:=zA (HQ1.out _ (.inl ⟨rfl,hc1⟩));subst hc1;have hnt0:nt=0:=by omega
        subst hnt0;go_wp2_with fail;go_meet;exact⟨HQ,rfl⟩
      . have HQ:=zA (HQ1.out _ (.inr ⟨rfl,hc1⟩));have hc2:¬(cap:Int)=1:=by omega
        go_wp2_with fail;go_meet;exact⟨HQ,rfl⟩
     case rest=>
     obtain⟨HG1,rfl⟩:=hcut;go_wp2_with fail;go_loopg [8,9,10] Y.length (fun gg u8 u9 u10 wr=>∃(G:List Nat) (i:Nat) (O2:List Nat),gg+i=Y.length/\i<=G.length/\u10=.int .i64 i/\Hid (GM lnk Y (rows.map (·.2)) G i O2)/\Hid (GrM w D wr (.slice ga nr gc) rows [(u9,G),(u8,O2)]))
     case atStart=>exact⟨[a],0,O',rfl,by simp,rfl,HGM1,HG1⟩
     case round=>
      obtain⟨G,i,O2,hgi,hiG,rfl,HM,HG⟩:=hrel;obtain⟨wy,hwy⟩:∃wy,wy=wr:=⟨_,rfl⟩
      subst hwy;have hGl:=HM.out.len;have HQ9:=HG.out.qs (u9,G) (by simp);dsimp only at HQ9;rcases HQ9 with⟨_,hG0⟩|⟨g9,off9,cap9,cur9,rfl,hB9,hb9,hc9,hl9,hcl9⟩
      . exact absurd hG0 HM.out.nz
      . obtain⟨n9,hn9⟩:∃k,k=G.length:=⟨_,rfl⟩
        rw[<- hn9];by_cases hlt:i<n9
        . have hltI:(i:Int)<(n9:Int):=by omega
          obtain⟨b,hb⟩:∃b,G[i]?=some b:=⟨_,zB (by omega)⟩
          have HQ8:=HG.out.qs (u8,O2) (by simp);dsimp only at HQ8;obtain⟨a8,c8,hu8⟩:=HQ8.natC.1.slice;obtain⟨n8,hn8⟩:∃k,k=O2.length:=⟨_,rfl⟩
          rw[<- hn8]at hu8;subst hu8;have hn8l:n8<=1000:=by omega
          have hn9l:n9<=1000:=by omega
          have HN8:=zA hn8;have HN9:=zA hn9;have HBI:=zA hb;have HG0:Hid (GrM w D wy (.slice ga nr gc) rows [(.slice (some ⟨g9,off9,none⟩) n9 cap9,G),(.slice a8 n8 c8,O2),(.slice none 0 0,[])]):=zA (by have h1:=HG.out.plusNil;rw[<- hn9]at h1;exact h1);have hGO:n9+n8<=1000:=by omega
          clear hcl9 hn9 hn8 hb HG HQ8 hb9;go_wp2_with fail;go_loopw [9,11,35] (fun v9 v11 k wr=>∃(j:Nat) (G2 A:List Nat),j<=n8/\k=.int .i64 j/\Hid (G2=G++(O2.take j).filter (lnk b))/\Hid (A=(O2.take j).filter fun y=> !lnk b y)/\Hid (GrM w D wr (.slice ga nr gc) rows [(v9,G2),(.slice a8 n8 c8,O2),(v11,A)])) (fun _ _ k _=>n8-(intOf k).toNat)
          case atStart=>exact⟨0,G,[],zR _,rfl,zA (by simp),zA (by simp),HG0⟩
          case round=>
          obtain⟨j,G2,A,hj,rfl,HO9,HOA,HG1⟩:=hrel;obtain⟨wz,hwz⟩:∃wz,wz=wr:=⟨_,rfl⟩
          subst hwz;have hG2l:G2.length<=1000:=by
           rw[HO9.out,zG,<- HN9.out];have h1:=yC (lnk b) (O2.take j);rw[yH,<- HN8.out]at h1;omega
          have hAl:A.length<=1000:=by
           rw[HOA.out];have h1:=yC (fun y=> !lnk b y) (O2.take j);rw[yH,<- HN8.out]at h1;omega
          by_cases hjl:j<n8
          . have hjI:(j:Int)<(n8:Int):=by omega
            obtain⟨x,hx⟩:∃x,O2[j]?=some x:=⟨_,zB (by rw[<- HN8.out];exact hjl)⟩
            have HQ8:=HG1.out.qs (.slice a8 n8 c8,O2) (by simp);dsimp only at HQ8;obtain⟨g8,off8,ha8,_,hg8l,hc8⟩:=HQ8.natC.1.get hx;subst ha8;have cx:=hc8 0 _ rfl;rw[yF,yJ]at cx;have HQ9:=HG1.out.qs (u9,G2) (by simp);dsimp only at HQ9;have hbi:G2[i]?=some b:=by
             rw[HO9.out,yE (by rw[<- HN9.out];exact hlt)];exact HBI.out
            obtain⟨aA,cA,hu9⟩:=HQ9.natC.1.slice;obtain⟨nA,hnA⟩:∃k,k=G2.length:=⟨_,rfl⟩
            rw[<- hnA]at hu9;subst hu9;have hiA:i<nA:=by have:=(zE.1 hbi).1;omega
            have hiAI:(i:Int)<(nA:Int):=by omega
            obtain⟨gA,oA,haA,_,hgAl,hcA⟩:=HQ9.natC.1.get hbi;subst haA;have cb:=hcA 0 _ rfl;rw[yF,yJ]at cb;have CK:=zA (CL2.out b x wz HG1.out.bel);have htk:Hid (O2.take (j+1)=O2.take j++[x]):=zA (by rw[zU,hx];rfl);have HNA:=zA hnA;clear hc8 hcA HQ8 HQ9 hx hbi hnA;go_wp2_with fail;refine CK.out.mono ?_;rintro e w3 ⟨rfl,hb3⟩;have HG3:=zA (HG1.out.below hb3);clear hb3 CK cx cb;obtain⟨t,ht⟩:∃t,t=lnk b x:=⟨_,rfl⟩
            rw[<- ht];have hl:lnk b x=t:=ht.symm;have HLX:=zA hl;clear hl ht;cases t with
            |true=>
            obtain⟨w4,hw4⟩:∃W,W=w3.alloc (.cells #[.int .i64 (x:Int)] 3):=⟨_,rfl⟩
            have hb4:Below w3.heap.size w3 w4:=by rw[hw4];exact(zF _ _).alloc (zD _) _
            have hy4:w4.cell? ⟨w3.heap.size,0,none⟩=some (.int .i64 (x:Int)):=by
             have h1:w4.heap[w3.heap.size]?=some (.cells #[.int .i64 (x:Int)] 3 (0,0)):=by rw[hw4];exact heap_alloc_new _ _
             simp[World.cell?,h1]
            have HY4:=zA hy4;have HG4:=zA (HG3.out.below hb4);have HQ4:Hid (QRow w.heap.size w4 (.slice (some ⟨gA,oA,none⟩) nA cA) G2):=zA (HG4.out.qs ((.slice (some ⟨gA,oA,none⟩) nA cA),G2) (by simp));have HSZ4:Hid (w.heap.size<=w4.heap.size):=zA HG4.out.bel.size;have HW4:Hid (w3.alloc (.cells #[.int .i64 (x:Int)] 3)=w4):=zA hw4.symm;clear hy4 hb4 hw4;go_wp2_with (at_builtin;rw[HW4.out];refine wpList_append_q rfl _ _ rfl (by rfl) HQ4.out (by omega) ⟨w3.heap.size,0,none⟩ 1 x (by rfl) HY4.out HSZ4.out ?_);intro u' w9 q1 q2 q3 q4 q5 q6 q7;have HG9:=zA (HG4.out.grow (i:=0) rfl q2 q3 q4 q5 q6 q1 q7);clear q1 q2 q3 q4 q5 q6 q7;go_wp2;go_roundw
            case rel=>exact⟨j+1,_,_,by omega,by go_num,zA (by rw[HO9.out,htk.out];simp[List.filter_append,HLX.out]),zA (by rw[HOA.out,htk.out];simp[List.filter_append,HLX.out]),HG9⟩
            case measure=>simp[intOf];omega
            |false=>
            obtain⟨w4,hw4⟩:∃W,W=w3.alloc (.cells #[.int .i64 (x:Int)] 3):=⟨_,rfl⟩
            have hb4:Below w3.heap.size w3 w4:=by rw[hw4];exact(zF _ _).alloc (zD _) _
            have hy4:w4.cell? ⟨w3.heap.size,0,none⟩=some (.int .i64 (x:Int)):=by
             have h1:w4.heap[w3.heap.size]?=some (.cells #[.int .i64 (x:Int)] 3 (0,0)):=by rw[hw4];exact heap_alloc_new _ _
             simp[World.cell?,h1]
            have HY4:=zA hy4;have HG4:=zA (HG3.out.below hb4);have HQ4:Hid (QRow w.heap.size w4 u11 A):=zA (HG4.out.qs (u11,A) (by simp));have HSZ4:Hid (w.heap.size<=w4.heap.size):=zA HG4.out.bel.size;have HW4:Hid (w3.alloc (.cells #[.int .i64 (x:Int)] 3)=w4):=zA hw4.symm;clear hy4 hb4 hw4;go_wp2_with (at_builtin;rw[HW4.out];refine wpList_append_q rfl _ _ rfl (by rfl) HQ4.out (by omega) ⟨w3.heap.size,0,none⟩ 1 x (by rfl) HY4.out HSZ4.out ?_);intro u' w9 q1 q2 q3 q4 q5 q6 q7;have HG9:=zA (HG4.out.grow (i:=2) rfl q2 q3 q4 q5 q6 q1 q7);clear q1 q2 q3 q4 q5 q6 q7;go_wp2;go_roundw
            case rel=>exact⟨j+1,_,_,by omega,by go_num,zA (by rw[HO9.out,htk.out];simp[List.filter_append,HLX.out]),zA (by rw[HOA.out,htk.out];simp[List.filter_append,HLX.out]),HG9⟩
            case measure=>simp[intOf];omega
          . have hjI:¬(j:Int)<(n8:Int):=by omega
            have hjn:j=n8:=by omega
            have HM2:Hid (GM lnk Y (rows.map (·.2)) G2 (i+1) A):=zA (by
             have h1:=HM.out.step HBI.out;have h2:O2.take j=O2:=by rw[hjn,HN8.out,List.take_length]
             rw[HO9.out,HOA.out,h2];exact h1)
            have HG2:=zA HG1.out.drop1;have hi2:i+1<=G2.length:=by
             rw[HO9.out,zG,<- HN9.out];omega
            clear hjn;go_wp2;go_roundg (gk-1)
            case measure=>have h8:=HM.out.len;have h9:=HN9.out;omega
            case rel=>exact⟨G2,i+1,A,by have h8:=HM.out.len;have h9:=HN9.out;omega,hi2,by go_num,HM2,HG2⟩
        . have hltI:¬(i:Int)<(n9:Int):=by omega
          have HR9:Hid (wy.ownsRow w.heap.size 63 1 (.slice ga nr gc) nr (rows.flatMap csRow)):=zA (by have:=HG.out.row;rw[<- HNR.out]at this;exact this);have HSW:Hid (w.heap.size<=wy.heap.size):=zA HG.out.bel.size;have HN9:=zA hn9;clear hcl9 hn9;go_wp2_with (at_builtin;refine wpList_append_lies _ rfl _ _ _ rfl w.heap.size 63 iR _ 1 24 Tryz.underlying59 hiR hzR0 hzR1 hzR2 rfl (by decide) (.slice ga nr gc) _ _ (by rfl) (HR9.out.alloc _) ⟨wy.heap.size,0,none⟩ 1 1 [.slice (some ⟨g9,off9,none⟩) n9 cap9] (by rfl) (by rfl) ?d1 ?d2 (by decide) ?d3 ?d4 ?d5 (wy.heap.size+1) (by simp) ?_)
          case d2=>simp[Value.oneCell']
          case d3=>unfold maxLen;omega
          case d4=>omega
          case d5=>have:=HSW.out;simp;omega
          intro gg cap2 w5 hown5 hgrow5 hat5 hlt5;have HGI2:Hid (GI lnk Y ((rows++[((Value.slice (some ⟨g9,off9,none⟩) n9 cap9,G):Value×List Nat)]).map (·.2)) O2):=zA (by
           rw[yL];exact HM.out.done (by rw[<- HN9.out];omega))
          have HGM2:Hid (GrM w (fun k=>D k\/QB (.slice (some ⟨g9,off9,none⟩) n9 cap9) k) w5 (.slice (some ⟨gg,0,none⟩) (nr+1) cap2) (rows++[(.slice (some ⟨g9,off9,none⟩) n9 cap9,G)]) [(u8,O2)]):=zA (by
           have hb:=(zF wy.heap.size wy).alloc (zD _) (.cells #[.slice (some ⟨g9,off9,none⟩) n9 cap9] 63);have h1:=HG.out.below hb;rw[<- HN9.out]at h1;refine h1.put hgrow5 ?_ (fun q hq=>?_)
           . rw[zG,<- HNR.out,zT];exact hown5
           . have e1:gg=q:=by simpa[Value.ownBlock]using hq
             subst e1;rcases hat5 with e2|e2
             . exact .inl e2
             . exact .inr (by simp;omega))
          have hless:O2.length<gko:=by
           have h1:=HM.out.perm.length_eq;have h2:=HFLT.out;have h3:=HGO.out;have h4:0<G.length:=List.length_pos_iff.2 HM.out.nz;rw[zG,zG]at h1;omega
          clear hown5 hgrow5 hat5 hlt5;go_wp2;go_roundg O2.length
          case measure=>exact hless
          case rel=>exact⟨_,_,O2,rfl,HGI2,HGM2⟩
def SomE(w:World)(F:Nat->Prop)(jb:Nat)(ds:List Sy)(n m:Nat)(lks:List Lm)(ls:List Lk)(r:Bool)(e:Ending)(w':World):Prop:=
 e=.returned (.bool r)/\Fr F w w'/\∃l,JS w' F jb ds n m lks ls l
theorem JS.sub{w w':World}{F F':Nat->Prop}{jb:Nat}{ds:List Sy}{n m:Nat}{lks:List Lm}{ls:List Lk}{l l':List Sx}(h:JS w F jb ds n m lks ls l)(hf:Fr F w w')(h':JS w' F' jb ds n m lks ls l')(hs:∀k,F k->F' k):JS w' F jb ds n m lks ls l':=by
 obtain⟨lv,h1,h2⟩:=h.lk;exact⟨h'.pool,h'.like,fun k hk=>h'.low k (hs k hk),fun k hk=>h'.un k (hs k hk),h'.tab,h.f0,h.jF,⟨lv,by simpa only[World.cell?,hf.block jb h.jF]using h1,h2.fr hf⟩,h.ll,h.ok,h.nn,h.mm⟩
theorem lnkB_sym(a b:Nat)(L:Lm):lnkB a b L=lnkB b a L:=by
 unfold lnkB;rw[Bool.or_comm]
theorem lnkOf_sym(lks:List Lm)(x y:Nat):lnkOf lks x y=lnkOf lks y x:=by
 unfold lnkOf;congr 1;funext L;exact lnkB_sym x y L
theorem LinksOk.lnk{ds:List Sy}{n m:Nat}{lks:List Lm}{ls:List Lk}(h:LinksOk ds n m lks ls):∀l∈ls,lnkOf lks l.fr l.to=true:=fun l hl=>by
 obtain⟨i,hi⟩:=List.getElem?_of_mem hl;have hil:=(zE.1 hi).1;obtain⟨L,hL⟩:∃L,lks[i]?=some L:=⟨_,zB (by rw[<- h.len];exact hil)⟩
 obtain⟨h1,h2,_⟩:=h.at_ i L l hL hi;unfold lnkOf;rw[List.any_eq_true];exact⟨L,zC hL,by unfold lnkB;rw[h1,h2];simp⟩
theorem GrpE.use{w:World}{F:Nat->Prop}{jb:Nat}{ds:List Sy}{n:Nat}{c:Ch}{lks:List Lm}{ls:List Lk}{l:List Sx}{X:List Nat}{w1:World}{ug:Value}{rows:List (Value×List Nat)}{D:Nat->Prop}
 (h:JS w F jb ds n c.length lks ls l) (hgi:GI (lnkOf lks) (openX c X) (rows.map (·.2)) []) (hgm:GrM w D w1 ug rows []) (hX:∀k∈X,k<c.length) (hnd:X.Nodup) (hac:AC ls c) (hi:Iso ls c X):
 JS w1 (fun k=>F k\/D k\/ug.ownBlock=some k) jb ds n c.length lks ls l/\Fr F w w1/\SlS csRow 1 (fun k=>F k\/D k\/ug.ownBlock=some k) w1 ug rows/\
 (LocSol ls c X↔∀r∈rows,LocSol ls c r.2)/\∀r∈rows,NatC (fun k=>F k\/D k\/ug.ownBlock=some k) w1 r.1 r.2/\r.2≠[]/\r.2.Nodup/\r.2.length<=X.length/\(∀k∈r.2,k<c.length)/\Iso ls c r.2:=by
 have hp:Parted ls c X (rows.map (·.2)):=GI.parted hgi (lnkOf_sym lks) h.ok.lnk;have hol:(openX c X).length<=X.length:=yC _ _;refine⟨h.more hgm.bel (fun k hk=>?_) (fun k hk=>.inl hk),fr_below h.low hgm.bel,(own_sl csRow_len hgm.row rfl).sub (fun k hk _=>.inr (.inr hk)),?_,fun r hr=>?_⟩
 . rcases hk with hk|hk|hk
   . exact .inl hk
   . exact .inr (hgm.dl k hk)
   . exact .inr (hgm.row.lt k hk)
 . rw[loc_parts hac hp];constructor
   . exact fun h1 r hr=>h1 r.2 (zV hr)
   . intro h1 G hG;obtain⟨r,hr,rfl⟩:=zS.1 hG;exact h1 r hr
 . have hm:r.2∈rows.map (·.2):=zV hr;refine⟨(hgm.ats r hr).sub (fun k hk _=>.inr (.inl hk)),hgi.ne r.2 hm,hgi.nodup (hnd.sublist List.filter_sublist) hm,zQ (hgi.len.2 r.2 hm) hol,fun k hk=>hX k ((hp.mem k).1 ⟨r.2,hm,hk⟩).1,hp.iso hi hm⟩
def SomeOfP(k jb:Nat)(ds:List Sy)(n:Nat)(lks:List Lm)(ls:List Lk):Prop:=
 ∀(w:World) (F:Nat->Prop) (c:Ch) (l:List Sx) (cv:Value) (G:List Nat) (gv:Value),JS w F jb ds n c.length lks ls l->ChR F w cv n c->AC ls c->NatC F w gv G->G≠[]->G.Nodup->G.length<=k->(∀x∈G,x<c.length)->Iso ls c G->
  Calls Tryz.prog 98 #[.pointer (some ⟨jb,0,none⟩),cv,gv] w (SomE w F jb ds n c.length lks ls (locB ls c G))
def SomeP(k jb:Nat)(ds:List Sy)(n:Nat)(lks:List Lm)(ls:List Lk):Prop:=
 ∀(w:World) (F:Nat->Prop) (c:Ch) (l:List Sx) (cv:Value) (X:List Nat) (sv:Value),JS w F jb ds n c.length lks ls l->ChR F w cv n c->0<c.length->AC ls c->NatC F w sv X->X.Nodup->X.length<=k->(∀x∈X,x<c.length)->Iso ls c X->
  Calls Tryz.prog 69 #[.pointer (some ⟨jb,0,none⟩),cv,sv] w (SomE w F jb ds n c.length lks ls (locB ls c X))
set_option maxHeartbeats 8000000 in
theorem some_step{k jb:Nat}{ds:List Sy}{n:Nat}{lks:List Lm}{ls:List Lk}(hk:k<=1000)(H:SomeOfP k jb ds n lks ls):SomeP k jb ds n lks ls:=by
 intro w F c l cv X sv h hc hc0 hac hsv hnd hXl hX hi;have C0:=zA (groups_any h hc hc0 hsv.1 hX (by omega));obtain⟨Q,hQ⟩:∃Q,Q=SomE w F jb ds n c.length lks ls (locB ls c X):=⟨_,rfl⟩
 rw[<- hQ];have HU:=zA (fun w1 ug rows D hgi hgm=>GrpE.use (w1:=w1) (ug:=ug) (rows:=rows) (D:=D) h hgi hgm hX hnd hac hi);have HFIN:Hid (∀(w1 wr:World) (F1:Nat->Prop) (r:Bool),r=locB ls c X->(∀q,F q->F1 q)->Fr F w w1->Fr F1 w1 wr->(∃l',JS wr F1 jb ds n c.length lks ls l')->Q (.returned (.bool r)) wr):=zA (fun w1 wr F1 r hr hs h1 h2 h3=>by
  obtain⟨l',h3⟩:=h3;have hf:=h1.trans (h2.sub hs);rw[hQ,hr];exact⟨rfl,hf,l',h.sub hf h3 hs⟩)
 have HH:=zA H;have HC:=zA hc;have HAC:=zA hac;clear hQ h hc hc0 hac hsv hnd hX hi H;go_enter Tryz.func69,Tryz.ntmps69;go_wp2_with fail;refine C0.out.mono ?_;rintro e w1 ⟨ug,rows,D,rfl,hgi,hgm⟩;obtain⟨u1,u2,u3,u4,u5⟩:=HU.out w1 ug rows D hgi hgm;have hcnt:=hgi.count;have hol:(openX c X).length<=X.length:=yC _ _;obtain⟨F1,hF1⟩:∃F1,F1=fun q=>F q\/D q\/ug.ownBlock=some q:=⟨_,rfl⟩
 rw[<- hF1]at u1 u3 u5;have hsub:∀q,F q->F1 q:=fun q hq=>by rw[hF1];exact .inl hq
 obtain⟨ga,gc,hug⟩:=u3.slice;obtain⟨nr,hnr⟩:∃q,q=rows.length:=⟨_,rfl⟩
 have hnrl:nr<=1000:=by
  rw[zH,<- hnr]at hcnt;omega
 rw[<- hnr]at hug;clear hF1 hgi hgm hcnt hol C0 HU;subst hug;have HNR:=zA hnr;have HSUB:=zA hsub;have H2:=zA u2;have H3:=zA u3;have H4:=zA u4;have H5:=zA u5;have HJ1:Hid (∃l',JS w1 F1 jb ds n c.length lks ls l'):=zA ⟨_,u1⟩;have HC1:Hid (ChR F1 w1 cv n c):=zA (HC.out.keep u2.size (fun b hb _=>⟨hsub b hb,u2.block b hb⟩));clear u1 u2 u3 u4 u5 hnr hsub HC;go_wp2_with fail;go_loopw [14] (fun k wr=>∃j:Nat,j<=nr/\k=.int .i64 j/\Hid (Fr F1 w1 wr)/\Hid (∃l',JS wr F1 jb ds n c.length lks ls l')/\Hid (∀(i:Nat) r,i<j->rows[i]?=some r->LocSol ls c r.2)) (fun k _=>nr-(intOf k).toNat)
 case atStart=>exact⟨0,zR _,rfl,zA (Fr.refl _ _),HJ1,zA (fun i r hi=>absurd hi (Nat.not_lt_zero _))⟩
 case round=>
  obtain⟨j,hj,rfl,HFR,HJ,HL⟩:=hrel;obtain⟨wx,hwx⟩:∃wx,wx=wr:=⟨_,rfl⟩
  subst hwx;by_cases hjl:j<nr
  . have hjI:(j:Int)<(nr:Int):=by omega
    obtain⟨r,hr⟩:∃r,rows[j]?=some r:=⟨_,zB (by rw[<- HNR.out];exact hjl)⟩
    obtain⟨gb,off,hga,_,_,hcell⟩:=(H3.out.fr HFR.out).get hr;subst hga;have c0:=hcell 0 _ rfl;rw[yF,yJ]at c0;obtain⟨v1,v2,v3,v4,v5,v6⟩:=H5.out r (zC hr);obtain⟨l',hl'⟩:=HJ.out;have CK:=zA (HH.out wx F1 c l' cv r.2 r.1 hl' (HC1.out.keep HFR.out.size (fun b hb _=>⟨hb,HFR.out.block b hb⟩)) HAC.out (v1.fr HFR.out) v2 v3 (by omega) v5 v6);obtain⟨ra,rc,hre⟩:=v1.1.slice;obtain⟨rv,rl⟩:=r;dsimp only at CK c0 hre;subst hre;have HRJ:=zA hr;clear hcell v1 v2 v3 v4 v5 v6 hl' hr;go_wp2_with fail;refine CK.out.mono ?_;rintro e w3 ⟨rfl,hf3,hj3⟩;have HFR3:=zA (HFR.out.trans hf3);have HJ3:=zA hj3;clear hf3 hj3 CK c0;obtain⟨t,ht⟩:∃t,t=locB ls c rl:=⟨_,rfl⟩
    have HT:=zA ht;rw[<- ht];clear ht;cases t with
    |true=>
     have HL3:Hid (∀(i:Nat) r,i<j+1->rows[i]?=some r->LocSol ls c r.2):=zA (fun i r hi hr=>by
      by_cases e:i=j
      . subst e;rw[HRJ.out]at hr;injection hr with hr;rw[<- hr];exact locB_iff.1 HT.out.symm
      . exact HL.out i r (by omega) hr)
     go_wp2;go_roundw
     case rel=>exact⟨j+1,by omega,by go_num,HFR3,HJ3,HL3⟩
     case measure=>simp[intOf];omega
    |false=>
     have HE:=zA (HFIN.out w1 w3 F1 false (by
      cases hb:locB ls c X with
      |false=>rfl
      |true=>
       have h1:=H4.out.1 (locB_iff.1 hb) _ (zC HRJ.out);have h2:=locB_iff.2 h1;rw[<- HT.out]at h2;cases h2) HSUB.out H2.out HFR3.out HJ3.out)
     go_wp2;all_goals (first|(go_ret;exact HE.out)|exact HE.out)
  . have hjI:¬(j:Int)<(nr:Int):=by omega
    have HE:=zA (HFIN.out w1 wx F1 true (by
     refine(locB_iff.2 (H4.out.2 fun r hr=>?_)).symm;obtain⟨i,hi⟩:=List.getElem?_of_mem hr;have h1:=(zE.1 hi).1;rw[<- HNR.out]at h1;exact HL.out i r (by omega) hi) HSUB.out H2.out HFR.out HJ.out)
    go_wp2;all_goals (first|(go_ret;exact HE.out)|exact HE.out)
end Go.Proofs.YtkbgmcmcpbegjabGreatDoor
