/- XGrp. -/
import Derived.Test.YtdalcipmpelifaaGreatDoorMG35
set_option maxRecDepth 100000
namespace Go.Proofs.YtdalcipmpelifaaGreatDoor
open Go.RowKit Go.Shelf
def lnkOf(lks:List Lm)(x y:Nat):Bool:=lks.any (lnkB x y)
def GrpE(w:World)(lks:List Lm)(c:Ch)(X:List Nat)(e:Ending)(w':World):Prop:=
 ∃ug rows D,e=.returned ug/\GI (lnkOf lks) (openX c X) (rows.map (·.2)) []/\GrM w D w' ug rows []
theorem GrM.plusNil{w wr:World}{D:Nat->Prop}{ug:Value}{rows:List (Value×List Nat)}{x y:Value×List Nat}(h:GrM w D wr ug rows [x,y]):GrM w D wr ug rows [x,y,(.slice none 0 0,[])]:=by
 have hn:∀k,¬QB (.slice none 0 0) k:=fun k hk=>by obtain⟨_,_,_,e⟩:=hk;cases e
 refine h.turn (fun u hu k hk=>?_) (fun u hu=>?_) (fun i j u v hu hv hij k h1 h2=>?_)
 . simp only[zX,List.mem_nil_iff,or_false]at hu;rcases hu with rfl|rfl|rfl
   . exact h.dq _ (by simp) k hk
   . exact h.dq _ (by simp) k hk
   . exact absurd hk (hn k)
 . simp only[zX,List.mem_nil_iff,or_false]at hu;rcases hu with rfl|rfl|rfl
   . exact h.qs _ (by simp)
   . exact h.qs _ (by simp)
   . exact .inl ⟨rfl,rfl⟩
 . match i,j,hu,hv,hij with
   |0,0,_,_,hij=>exact hij rfl
   |1,1,_,_,hij=>exact hij rfl
   |2,2,_,_,hij=>exact hij rfl
   |0,1,hu,hv,hij=>exact h.ap 0 1 u v (by simpa using hu) (by simpa using hv) hij k h1 h2
   |1,0,hu,hv,hij=>exact h.ap 1 0 u v (by simpa using hu) (by simpa using hv) hij k h1 h2
   |2,_,hu,_,_=>simp at hu;subst hu;exact hn k h1
   |_,2,_,hv,_=>simp at hv;subst hv;exact hn k h2
   |i+3,_,hu,_,_=>simp at hu
   |_,j+3,_,hv,_=>simp at hv
theorem GrM.drop1{w wr:World}{D:Nat->Prop}{ug:Value}{rows:List (Value×List Nat)}{x y z:Value×List Nat}(h:GrM w D wr ug rows [x,y,z]):GrM w D wr ug rows [x,z]:=by
 refine h.turn (fun u hu k hk=>?_) (fun u hu=>?_) (fun i j u v hu hv hij k h1 h2=>?_)
 . simp only[zX,List.mem_nil_iff,or_false]at hu;rcases hu with rfl|rfl
   . exact h.dq _ (by simp) k hk
   . exact h.dq _ (by simp) k hk
 . simp only[zX,List.mem_nil_iff,or_false]at hu;rcases hu with rfl|rfl
   . exact h.qs _ (by simp)
   . exact h.qs _ (by simp)
 . match i,j,hu,hv,hij with
   |0,0,_,_,hij=>exact hij rfl
   |1,1,_,_,hij=>exact hij rfl
   |0,1,hu,hv,_=>exact h.ap 0 2 u v (by simpa using hu) (by simpa using hv) (by decide) k h1 h2
   |1,0,hu,hv,_=>exact h.ap 2 0 u v (by simpa using hu) (by simpa using hv) (by decide) k h1 h2
   |i+2,_,hu,_,_=>simp at hu
   |_,j+2,_,hv,_=>simp at hv
set_option maxHeartbeats 16000000 in
theorem groups_any{w:World}{F:Nat->Prop}{jb:Nat}{ds:List Sy}{n:Nat}{c:Ch}{lks:List Lm}{ls:List Lk}{l:List Sx}{cv sv:Value}{X:List Nat}
 (h:JS w F jb ds n c.length lks ls l) (hc:ChR F w cv n c) (hc0:0<c.length) (hsv:NatS F w sv X) (hX:∀k∈X,k<c.length) (hXl:X.length<=1000):
 Calls Tryz.prog 105 #[.pointer (some ⟨jb,0,none⟩),cv,sv] w (GrpE w lks c X):=by
 obtain⟨iR,hiR,hzR0,hzR1,hzR2⟩:=info_partsG infoRG;obtain⟨lv,hj,hlk⟩:=h.lk;have hjl:=h.low jb h.jF;obtain⟨ca,nc,cc,rfl⟩:∃a b d,cv=.slice a b d:=by
  obtain⟨rows0,_,hr2,_⟩:=hc.ex;obtain⟨ca,cc,e⟩:=hr2.slice;exact⟨_,_,_,e⟩
 have hll:=h.ll;obtain⟨w0,hw0⟩:∃W,W=w.alloc (.cells #[.slice ca nc cc] 112):=⟨_,rfl⟩
 have hb0:Below w.heap.size w w0:=by rw[hw0];exact(zF _ _).alloc (zD _) _
 have C0:=zA (cloneI_all (hsv.below hb0) (by omega));have C1:=zA (fun v1 w1=>open_begin (w1:=w1) (v1:=v1) hc hc0 hX hXl hw0);have CL:=zA (fun(a b:Nat) (W:World) (hW:Below w.heap.size w W)=>linked_any (a:=a) (b:=b) (by simpa only[World.cell?,hW.block jb hjl]using hj:W.cell? ⟨jb,3,none⟩=some lv) (hlk.below hW) hll);obtain⟨Y,hY⟩:∃Y,Y=openX c X:=⟨_,rfl⟩
 have hYl:Y.length<=1000:=by rw[hY];exact zQ (yD _ _) hXl
 obtain⟨Q,hQ⟩:∃Q,Q=GrpE w lks c X:=⟨_,rfl⟩
 have HFIN:Hid (∀ug rows D w',GI (lnkOf lks) Y (rows.map (·.2)) []->GrM w D w' ug rows []->Q (.returned ug) w'):=zA (fun ug rows D w' h1 h2=>by
  rw[hQ];rw[hY]at h1;exact⟨ug,rows,D,rfl,h1,h2⟩)
 rw[<- hY]at C1;rw[<- hQ];obtain⟨lnk,hlnk⟩:∃f,f=lnkOf lks:=⟨_,rfl⟩
 rw[<- hlnk]at HFIN;have CL2:Hid (∀(a b:Nat) (W:World),Below w.heap.size w W->Calls Tryz.prog 123 #[.pointer (some ⟨jb,0,none⟩),.int .i64 (a:Int),.int .i64 (b:Int)] W fun e w'=>e=.returned (.bool (lnk a b))/\Below W.heap.size W w'):=zA (by rw[hlnk];exact CL.out);have HW0:=zA hw0;clear CL h hc hc0 hsv hX hXl hj hlk hll hjl hw0 hb0 hY hQ hlnk;go_enter Tryz.func105,Tryz.ntmps105;go_wp2_with fail;rw[<- HW0.out];refine C0.out.mono ?_;rintro e w1 ⟨v1,rfl,hown,hb1⟩;have C2:=zA (C1.out v1 w1 hown hb1);clear hown hb1 C0 C1 HW0;go_wp2_with fail;refine C2.out.mono ?_;rintro e w2 ⟨v2,rfl,hgm⟩;have HGM0:Hid (GrM w (fun _=>False) w2 (.slice none 0 0) [] [(v2,Y)]):=zA hgm;have HGI0:Hid (GI lnk Y [] Y):=zA (GI.start _ _);clear hgm C2;go_wp2_with fail;go_loopg [7,8] Y.length (fun gg u7 u8 wr=>∃(D:Nat->Prop) (rows:List (Value×List Nat)) (O:List Nat),gg=O.length/\Hid (GI lnk Y (rows.map (·.2)) O)/\Hid (GrM w D wr u7 rows [(u8,O)]))
 case atStart=>exact⟨fun _=>False,[],Y,rfl,HGI0,HGM0⟩
 case round=>
  obtain⟨D,rows,O,hgO,HGI,HGM⟩:=hrel;obtain⟨wx,hwx⟩:∃wx,wx=wr:=⟨_,rfl⟩
  subst hwx;obtain⟨gko,hgko⟩:∃x,x=gk:=⟨_,rfl⟩
  subst hgko;have hOl:=HGI.out.len.1;cases O with
  |nil=>
   have HF:=zA (HFIN.out u7 rows D wx HGI.out (HGM.out.turn (fun u hu=>by simp at hu) (fun u hu=>by simp at hu) (fun i j u v hu=>by simp at hu)));have HQ8:=HGM.out.qs (u8,[]) (by simp);dsimp only at HQ8;rcases HQ8 with⟨rfl,_⟩|⟨g,off,cap,cur,rfl,_⟩
   . go_wp2;all_goals (first|(go_ret;exact HF.out)|exact HF.out)
   . go_wp2;all_goals (first|(go_ret;exact HF.out)|exact HF.out)
  |cons a O'=>
   rcases HGM.out.qs (u8,a::O') (by simp)with⟨_,hq0⟩|⟨g,off,cap,cur,hue,hgB,hgb,hoc,hlc,hcells⟩
   . cases hq0
   . dsimp only at hue hgb;subst hue;have hca:wx.cell? ⟨g,off,none⟩=some (.int .i64 (a:Int)):=by
      have:=hcells 0 a rfl;rw[yF]at this;simp only[World.cell?,hgb];exact this
     obtain⟨nt,hnt⟩:∃k,k=O'.length:=⟨_,rfl⟩
     have hlc2:nt+1<=cap:=by rw[hnt];simpa using hlc
     have hgl:g<wx.heap.size:=lt_of_block hgb;obtain⟨ga,gc,hu7⟩:=own_slice HGM.out.row;obtain⟨nr,hnr⟩:∃k,k=rows.length:=⟨_,rfl⟩
     rw[<- hnr]at hu7;subst hu7;have HNR:=zA hnr;have HFLT:Hid ((rows.map (·.2)).flatten.length+(nt+1)=Y.length):=zA (by
      have:=HGI.out.perm.length_eq;rw[zG,yE,<- hnt]at this;exact this)
     have hnrl:nr<=1000:=by
      have:=HGI.out.count;rw[zH,<- hnr]at this;omega
     clear hnr;obtain⟨wq,hwq⟩:∃W,W=wx.alloc (.cells #[.int .i64 (a:Int)] 3):=⟨_,rfl⟩
     have hbq:Below wx.heap.size wx wq:=by rw[hwq];exact(zF _ _).alloc (zD _) _
     have haq:wq.heap[wx.heap.size]?=some (.cells #[.int .i64 (a:Int)] 3 (0,0)):=by rw[hwq];exact heap_alloc_new _ _
     have hgq:wq.heap[g]?=some (.cells cur 3 (0,0)):=(hbq.block g hgl).trans hgb;have hszw:w.heap.size<=wx.heap.size:=HGM.out.bel.size;have HQ1:Hid (∀u,(u=.slice (some ⟨g,off,none⟩) 0 0/\cap=1)\/(u=.slice (some ⟨g,off+1,none⟩) nt (cap-1)/\cap≠1)->GrM w D wq (.slice ga nr gc) rows [(.slice (some ⟨wx.heap.size,0,none⟩) 1 1,[a]),(u,O')]):=zA (fun u hu=>by
      have hQ:QRow w.heap.size wq u O':=by
       rcases hu with⟨rfl,hc1⟩|⟨rfl,hc1⟩
       . have h0:O'=[]:=yG.1 (by omega);subst h0;exact .inr ⟨g,off,0,cur,rfl,hgB,hgq,by omega,zD _,fun j x hx=>by simp at hx⟩
       . exact .inr ⟨g,off+1,cap-1,cur,by rw[hnt],hgB,hgq,by omega,by omega,fun j x hx=>by
          have:=hcells (j+1) x (by simpa using hx);rw[show off+1+j=off+(j+1) by omega];exact this⟩
      have hug:∀k,QB u k->k=g:=fun k hk=>by
       obtain⟨_,_,_,e⟩:=hk;rcases hu with⟨rfl,_⟩|⟨rfl,_⟩
       . injection e with e;injection e with e;injection e with e;exact e.symm
       . injection e with e;injection e with e;injection e with e;exact e.symm
      have hua:∀k,QB (.slice (some ⟨wx.heap.size,0,none⟩) 1 1) k->k=wx.heap.size:=fun k hk=>by
       obtain⟨_,_,_,e⟩:=hk;injection e with e;injection e with e;injection e with e;exact e.symm
      have hQa:QRow w.heap.size wq (.slice (some ⟨wx.heap.size,0,none⟩) 1 1) [a]:=.inr ⟨wx.heap.size,0,1,_,rfl,hszw,haq,by simp,by simp,fun j x hx=>by
       match j,hx with
       |0,hx=>simp at hx;subst hx;rfl
       |j+1,hx=>simp at hx⟩
      have hdg:¬D g:=HGM.out.dq _ (zL ..) g ⟨off,_,cap,rfl⟩;refine(HGM.out.below hbq).turn (fun y hy k hk=>?_) (fun y hy=>?_) (fun i j x y hx hy hij k hk1 hk2=>?_)
      . simp only[zX,List.mem_nil_iff,or_false]at hy;rcases hy with rfl|rfl
        . rw[hua k hk];exact fun hd=>by have:=(HGM.out.dl _ hd).2;omega
        . rw[hug k hk];exact hdg
      . simp only[zX,List.mem_nil_iff,or_false]at hy;rcases hy with rfl|rfl
        . exact hQa
        . exact hQ
      . match i,j,hx,hy,hij with
        |0,0,_,_,hij=>exact hij rfl
        |1,1,_,_,hij=>exact hij rfl
        |0,1,hx,hy,_=>
         simp at hx hy;subst hx hy;have h1:=hua k hk1;have h2:=hug k hk2;omega
        |1,0,hx,hy,_=>
         simp at hx hy;subst hx hy;have h1:=hua k hk2;have h2:=hug k hk1;omega
        |i+2,_,hx,_,_=>simp at hx
        |_,j+2,_,hy,_=>simp at hy)
     have HGM1:Hid (GM lnk Y (rows.map (·.2)) [a] 0 O'):=zA HGI.out.pop;have hcapI:(nt:Int)+1<=(cap:Int):=by omega
     have hntI:(0:Int)<(nt:Int)+1:=by omega
     rw[yE]at hOl hgO;rw[<- hnt]at hOl hgO;have hntl:nt<=1000:=by omega
     have HNT:=zA hnt;have HWQ:=zA hwq;have HGO:=zA hgO;rw[yE,<- hnt];clear hcells hlc hnt hwq hbq haq hgq hgO HGM HGI;go_upto_region 5 with fail;rw[<- HWQ.out];go_cut [8] (fun s8 wz=>Hid (GrM w D wq (.slice ga nr gc) rows [(.slice (some ⟨wx.heap.size,0,none⟩) 1 1,[a]),(s8,O')])/\wz=wq)
     case first=>
      by_cases hc1:cap=1
      . have HQ:=zA (HQ1.out _ (.inl ⟨rfl,hc1⟩));subst hc1;have hnt0:nt=0:=by omega
        subst hnt0;go_wp2_with fail;go_meet;exact⟨HQ,rfl⟩
      . have HQ:=zA (HQ1.out _ (.inr ⟨rfl,hc1⟩));have hc2:¬(cap:Int)=1:=by omega
        go_wp2_with fail;go_meet;exact⟨HQ,rfl⟩
     case rest=>
     obtain⟨HG1,rfl⟩:=hcut;go_wp2_with fail;go_loopg [8,9,10] Y.length (fun gg u8 u9 u10 wr=>∃(G:List Nat) (i:Nat) (O2:List Nat),gg+i=Y.length/\i<=G.length/\u10=.int .i64 i/\Hid (GM lnk Y (rows.map (·.2)) G i O2)/\Hid (GrM w D wr (.slice ga nr gc) rows [(u9,G),(u8,O2)]))
     case atStart=>exact⟨[a],0,O',rfl,by simp,rfl,HGM1,HG1⟩
     case round=>
      obtain⟨G,i,O2,hgi,hiG,rfl,HM,HG⟩:=hrel;obtain⟨wy,hwy⟩:∃wy,wy=wr:=⟨_,rfl⟩
      subst hwy;have hGl:=HM.out.len;have HQ9:=HG.out.qs (u9,G) (by simp);dsimp only at HQ9;rcases HQ9 with⟨_,hG0⟩|⟨g9,off9,cap9,cur9,rfl,hB9,hb9,hc9,hl9,hcl9⟩
      . exact absurd hG0 HM.out.nz
      . obtain⟨n9,hn9⟩:∃k,k=G.length:=⟨_,rfl⟩
        rw[<- hn9];by_cases hlt:i<n9
        . have hltI:(i:Int)<(n9:Int):=by omega
          obtain⟨b,hb⟩:∃b,G[i]?=some b:=⟨_,zB (by omega)⟩
          have HQ8:=HG.out.qs (u8,O2) (by simp);dsimp only at HQ8;obtain⟨a8,c8,hu8⟩:=HQ8.natC.1.slice;obtain⟨n8,hn8⟩:∃k,k=O2.length:=⟨_,rfl⟩
          rw[<- hn8]at hu8;subst hu8;have hn8l:n8<=1000:=by omega
          have hn9l:n9<=1000:=by omega
          have HN8:=zA hn8;have HN9:=zA hn9;have HBI:=zA hb;have HG0:Hid (GrM w D wy (.slice ga nr gc) rows [(.slice (some ⟨g9,off9,none⟩) n9 cap9,G),(.slice a8 n8 c8,O2),(.slice none 0 0,[])]):=zA (by have h1:=HG.out.plusNil;rw[<- hn9]at h1;exact h1);have hGO:n9+n8<=1000:=by omega
          clear hcl9 hn9 hn8 hb HG HQ8 hb9;go_wp2_with fail;go_loopw [9,11,35] (fun v9 v11 k wr=>∃(j:Nat) (G2 A:List Nat),j<=n8/\k=.int .i64 j/\Hid (G2=G++(O2.take j).filter (lnk b))/\Hid (A=(O2.take j).filter fun y=> !lnk b y)/\Hid (GrM w D wr (.slice ga nr gc) rows [(v9,G2),(.slice a8 n8 c8,O2),(v11,A)])) (fun _ _ k _=>n8-(intOf k).toNat)
          case atStart=>exact⟨0,G,[],zS _,rfl,zA (by simp),zA (by simp),HG0⟩
          case round=>
          obtain⟨j,G2,A,hj,rfl,HO9,HOA,HG1⟩:=hrel;obtain⟨wz,hwz⟩:∃wz,wz=wr:=⟨_,rfl⟩
          subst hwz;have hG2l:G2.length<=1000:=by
           rw[HO9.out,zG,<- HN9.out];have h1:=yD (lnk b) (O2.take j);rw[yL,<- HN8.out]at h1;omega
          have hAl:A.length<=1000:=by
           rw[HOA.out];have h1:=yD (fun y=> !lnk b y) (O2.take j);rw[yL,<- HN8.out]at h1;omega
          by_cases hjl:j<n8
          . have hjI:(j:Int)<(n8:Int):=by omega
            obtain⟨x,hx⟩:∃x,O2[j]?=some x:=⟨_,zB (by rw[<- HN8.out];exact hjl)⟩
            have HQ8:=HG1.out.qs (.slice a8 n8 c8,O2) (by simp);dsimp only at HQ8;obtain⟨g8,off8,ha8,_,hg8l,hc8⟩:=HQ8.natC.1.get hx;subst ha8;have cx:=hc8 0 _ rfl;rw[yK,yF]at cx;have HQ9:=HG1.out.qs (u9,G2) (by simp);dsimp only at HQ9;have hbi:G2[i]?=some b:=by
             rw[HO9.out,yH (by rw[<- HN9.out];exact hlt)];exact HBI.out
            obtain⟨aA,cA,hu9⟩:=HQ9.natC.1.slice;obtain⟨nA,hnA⟩:∃k,k=G2.length:=⟨_,rfl⟩
            rw[<- hnA]at hu9;subst hu9;have hiA:i<nA:=by have:=(zE.1 hbi).1;omega
            have hiAI:(i:Int)<(nA:Int):=by omega
            obtain⟨gA,oA,haA,_,hgAl,hcA⟩:=HQ9.natC.1.get hbi;subst haA;have cb:=hcA 0 _ rfl;rw[yK,yF]at cb;have CK:=zA (CL2.out b x wz HG1.out.bel);have htk:Hid (O2.take (j+1)=O2.take j++[x]):=zA (by rw[zT,hx];rfl);have HNA:=zA hnA;clear hc8 hcA HQ8 HQ9 hx hbi hnA;go_wp2_with fail;refine CK.out.mono ?_;rintro e w3 ⟨rfl,hb3⟩;have HG3:=zA (HG1.out.below hb3);clear hb3 CK cx cb;obtain⟨t,ht⟩:∃t,t=lnk b x:=⟨_,rfl⟩
            rw[<- ht];have hl:lnk b x=t:=ht.symm;have HLX:=zA hl;clear hl ht;cases t with
            |true=>
            obtain⟨w4,hw4⟩:∃W,W=w3.alloc (.cells #[.int .i64 (x:Int)] 3):=⟨_,rfl⟩
            have hb4:Below w3.heap.size w3 w4:=by rw[hw4];exact(zF _ _).alloc (zD _) _
            have hy4:w4.cell? ⟨w3.heap.size,0,none⟩=some (.int .i64 (x:Int)):=by
             have h1:w4.heap[w3.heap.size]?=some (.cells #[.int .i64 (x:Int)] 3 (0,0)):=by rw[hw4];exact heap_alloc_new _ _
             simp[World.cell?,h1]
            have HY4:=zA hy4;have HG4:=zA (HG3.out.below hb4);have HQ4:Hid (QRow w.heap.size w4 (.slice (some ⟨gA,oA,none⟩) nA cA) G2):=zA (HG4.out.qs ((.slice (some ⟨gA,oA,none⟩) nA cA),G2) (by simp));have HSZ4:Hid (w.heap.size<=w4.heap.size):=zA HG4.out.bel.size;have HW4:Hid (w3.alloc (.cells #[.int .i64 (x:Int)] 3)=w4):=zA hw4.symm;clear hy4 hb4 hw4;go_wp2_with (at_builtin;rw[HW4.out];refine wpList_append_q rfl _ _ rfl (by rfl) HQ4.out (by omega) ⟨w3.heap.size,0,none⟩ 1 x (by rfl) HY4.out HSZ4.out ?_);intro u' w9 q1 q2 q3 q4 q5 q6 q7;have HG9:=zA (HG4.out.grow (i:=0) rfl q2 q3 q4 q5 q6 q1 q7);clear q1 q2 q3 q4 q5 q6 q7;go_wp2;go_roundw
            case rel=>exact⟨j+1,_,_,by omega,by go_num,zA (by rw[HO9.out,htk.out];simp[List.filter_append,HLX.out]),zA (by rw[HOA.out,htk.out];simp[List.filter_append,HLX.out]),HG9⟩
            case measure=>simp[intOf];omega
            |false=>
            obtain⟨w4,hw4⟩:∃W,W=w3.alloc (.cells #[.int .i64 (x:Int)] 3):=⟨_,rfl⟩
            have hb4:Below w3.heap.size w3 w4:=by rw[hw4];exact(zF _ _).alloc (zD _) _
            have hy4:w4.cell? ⟨w3.heap.size,0,none⟩=some (.int .i64 (x:Int)):=by
             have h1:w4.heap[w3.heap.size]?=some (.cells #[.int .i64 (x:Int)] 3 (0,0)):=by rw[hw4];exact heap_alloc_new _ _
             simp[World.cell?,h1]
            have HY4:=zA hy4;have HG4:=zA (HG3.out.below hb4);have HQ4:Hid (QRow w.heap.size w4 u11 A):=zA (HG4.out.qs (u11,A) (by simp));have HSZ4:Hid (w.heap.size<=w4.heap.size):=zA HG4.out.bel.size;have HW4:Hid (w3.alloc (.cells #[.int .i64 (x:Int)] 3)=w4):=zA hw4.symm;clear hy4 hb4 hw4;go_wp2_with (at_builtin;rw[HW4.out];refine wpList_append_q rfl _ _ rfl (by rfl) HQ4.out (by omega) ⟨w3.heap.size,0,none⟩ 1 x (by rfl) HY4.out HSZ4.out ?_);intro u' w9 q1 q2 q3 q4 q5 q6 q7;have HG9:=zA (HG4.out.grow (i:=2) rfl q2 q3 q4 q5 q6 q1 q7);clear q1 q2 q3 q4 q5 q6 q7;go_wp2;go_roundw
            case rel=>exact⟨j+1,_,_,by omega,by go_num,zA (by rw[HO9.out,htk.out];simp[List.filter_append,HLX.out]),zA (by rw[HOA.out,htk.out];simp[List.filter_append,HLX.out]),HG9⟩
            case measure=>simp[intOf];omega
          . have hjI:¬(j:Int)<(n8:Int):=by omega
            have hjn:j=n8:=by omega
            have HM2:Hid (GM lnk Y (rows.map (·.2)) G2 (i+1) A):=zA (by
             have h1:=HM.out.step HBI.out;have h2:O2.take j=O2:=by rw[hjn,HN8.out,List.take_length]
             rw[HO9.out,HOA.out,h2];exact h1)
            have HG2:=zA HG1.out.drop1;have hi2:i+1<=G2.length:=by
             rw[HO9.out,zG,<- HN9.out];omega
            clear hjn;go_wp2;go_roundg (gk-1)
            case measure=>have h8:=HM.out.len;have h9:=HN9.out;omega
            case rel=>exact⟨G2,i+1,A,by have h8:=HM.out.len;have h9:=HN9.out;omega,hi2,by go_num,HM2,HG2⟩
        . have hltI:¬(i:Int)<(n9:Int):=by omega
          have HR9:Hid (wy.ownsRow w.heap.size 56 1 (.slice ga nr gc) nr (rows.flatMap csRow)):=zA (by have:=HG.out.row;rw[<- HNR.out]at this;exact this);have HSW:Hid (w.heap.size<=wy.heap.size):=zA HG.out.bel.size;have HN9:=zA hn9;clear hcl9 hn9;go_wp2_with (at_builtin;refine wpList_append_lies _ rfl _ _ _ rfl w.heap.size 56 iR _ 1 24 Tryz.underlying57 hiR hzR0 hzR1 hzR2 rfl (by decide) (.slice ga nr gc) _ _ (by rfl) (HR9.out.alloc _) ⟨wy.heap.size,0,none⟩ 1 1 [.slice (some ⟨g9,off9,none⟩) n9 cap9] (by rfl) (by rfl) ?d1 ?d2 (by decide) ?d3 ?d4 ?d5 (wy.heap.size+1) (by simp) ?_)
          case d2=>simp[Value.oneCell']
          case d3=>unfold maxLen;omega
          case d4=>omega
          case d5=>have:=HSW.out;simp;omega
          intro gg cap2 w5 hown5 hgrow5 hat5 hlt5;have HGI2:Hid (GI lnk Y ((rows++[((Value.slice (some ⟨g9,off9,none⟩) n9 cap9,G):Value×List Nat)]).map (·.2)) O2):=zA (by
           rw[yP];exact HM.out.done (by rw[<- HN9.out];omega))
          have HGM2:Hid (GrM w (fun k=>D k\/QB (.slice (some ⟨g9,off9,none⟩) n9 cap9) k) w5 (.slice (some ⟨gg,0,none⟩) (nr+1) cap2) (rows++[(.slice (some ⟨g9,off9,none⟩) n9 cap9,G)]) [(u8,O2)]):=zA (by
           have hb:=(zF wy.heap.size wy).alloc (zD _) (.cells #[.slice (some ⟨g9,off9,none⟩) n9 cap9] 56);have h1:=HG.out.below hb;rw[<- HN9.out]at h1;refine h1.put hgrow5 ?_ (fun q hq=>?_)
           . rw[zG,<- HNR.out,zY];exact hown5
           . have e1:gg=q:=by simpa[Value.ownBlock]using hq
             subst e1;rcases hat5 with e2|e2
             . exact .inl e2
             . exact .inr (by simp;omega))
          have hless:O2.length<gko:=by
           have h1:=HM.out.perm.length_eq;have h2:=HFLT.out;have h3:=HGO.out;have h4:0<G.length:=List.length_pos_iff.2 HM.out.nz;rw[zG,zG]at h1;omega
          clear hown5 hgrow5 hat5 hlt5;go_wp2;go_roundg O2.length
          case measure=>exact hless
          case rel=>exact⟨_,_,O2,rfl,HGI2,HGM2⟩
end Go.Proofs.YtdalcipmpelifaaGreatDoor
