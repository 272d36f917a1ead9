/- XGrp. -/
import Derived.Test.YtkbgmcmcpbegjaaGreatDoorZR39
set_option maxRecDepth 100000
set_option maxHeartbeats 16000000
namespace Go.Proofs.YtkbgmcmcpbegjaaGreatDoor
open Go.RowKit Go.Shelf
def lnkOf(lks:List Lm)(x y:Nat):Bool:=lks.any (lnkB x y)
def GrpE(w:World)(lks:List Lm)(c:Ch)(X:List Nat)(e:Ending)(w':World):Prop:=
 ∃ug rows D,e=.returned ug/\GI (lnkOf lks) (jio c X) (rows.map (·.2)) []/\GrM w D w' ug rows []
theorem GrM.plusNil{w wr:World}{D:Nat->Prop}{ug:Value}{rows:List (Value×List Nat)}{x y:Value×List Nat}(h:GrM w D wr ug rows [x,y]):GrM w D wr ug rows [x,y,(.slice none 0 0,[])]:=by
 have hn:∀k,¬QB (.slice none 0 0) k:=fun k hk=>by obtain⟨_,_,_,e⟩:=hk;cases e
 refine h.turn (fun u hu k hk=>?_) (fun u hu=>?_) (fun i j u v hu hv hij k h1 h2=>?_)
 . simp only[yB,List.mem_nil_iff,or_false]at hu;rcases hu with rfl|rfl|rfl
   . exact h.dq _ (by simp) k hk
   . exact h.dq _ (by simp) k hk
   . exact absurd hk (hn k)
 . simp only[yB,List.mem_nil_iff,or_false]at hu;rcases hu with rfl|rfl|rfl
   . exact h.qs _ (by simp)
   . exact h.qs _ (by simp)
   . exact .inl ⟨rfl,rfl⟩
 . match i,j,hu,hv,hij with
   |0,0,_,_,hij=>exact hij rfl
   |1,1,_,_,hij=>exact hij rfl
   |2,2,_,_,hij=>exact hij rfl
   |0,1,hu,hv,hij=>exact h.ap 0 1 u v (by simpa using hu) (by simpa using hv) hij k h1 h2
   |1,0,hu,hv,hij=>exact h.ap 1 0 u v (by simpa using hu) (by simpa using hv) hij k h1 h2
   |2,_,hu,_,_=>simp at hu;subst hu;exact hn k h1
   |_,2,_,hv,_=>simp at hv;subst hv;exact hn k h2
   |i+3,_,hu,_,_=>simp at hu
   |_,j+3,_,hv,_=>simp at hv
theorem GrM.drop1{w wr:World}{D:Nat->Prop}{ug:Value}{rows:List (Value×List Nat)}{x y z:Value×List Nat}(h:GrM w D wr ug rows [x,y,z]):GrM w D wr ug rows [x,z]:=by
 refine h.turn (fun u hu k hk=>?_) (fun u hu=>?_) (fun i j u v hu hv hij k h1 h2=>?_)
 . simp only[yB,List.mem_nil_iff,or_false]at hu;rcases hu with rfl|rfl
   . exact h.dq _ (by simp) k hk
   . exact h.dq _ (by simp) k hk
 . simp only[yB,List.mem_nil_iff,or_false]at hu;rcases hu with rfl|rfl
   . exact h.qs _ (by simp)
   . exact h.qs _ (by simp)
 . match i,j,hu,hv,hij with
   |0,0,_,_,hij=>exact hij rfl
   |1,1,_,_,hij=>exact hij rfl
   |0,1,hu,hv,_=>exact h.ap 0 2 u v (by simpa using hu) (by simpa using hv) (by decide) k h1 h2
   |1,0,hu,hv,_=>exact h.ap 2 0 u v (by simpa using hu) (by simpa using hv) (by decide) k h1 h2
   |i+2,_,hu,_,_=>simp at hu
   |_,j+2,_,hv,_=>simp at hv
theorem groups_any{w:World}{F:Nat->Prop}{jb:Nat}{ds:List Sy}{n:Nat}{c:Ch}{lks:List Lm}{ls:List Lk}{l:List Sx}{cv sv:Value}{X:List Nat}
 (h:JS w F jb ds n c.length lks ls l) (hc:ChR F w cv n c) (hc0:0<c.length) (hsv:NatS F w sv X) (hX:∀k∈X,k<c.length) (hXl:X.length<=1000):
 Calls Tryz.prog 131 #[.pointer (some ⟨jb,0,none⟩),cv,sv] w (GrpE w lks c X):=by
 obtain⟨iR,b2,bd,bf,bi⟩:=jal jk9;obtain⟨lv,hj,bn⟩:=h.lk;have aL:=h.low jb h.jF;obtain⟨ca,nc,cc,rfl⟩:∃a b d,cv=.slice a b d:=by
  obtain⟨rows0,_,bP,_⟩:=hc.ex;obtain⟨ca,cc,e⟩:=bP.slice;exact⟨_,_,_,e⟩
 have bw:=h.ll;obtain⟨w0,aO⟩:=eX (w.alloc (.cells #[.slice ca nc cc] 132));have bF:Below w.heap.size w w0:=by rw[aO];exact(zF _ _).alloc (zD _) _
 have C0:=zA (jiM (hsv.below bF) (by omega));have C1:=zA (fun v1 w1=>jiE (w1:=w1) (v1:=v1) hc hc0 hX hXl aO);have CL:=zA (fun(a b:Nat) (W:World) (hW:Below w.heap.size w W)=>jin (a:=a) (b:=b) (by simpa only[World.cell?,hW.block jb aL]using hj:W.cell? ⟨jb,3,none⟩=some lv) (bn.below hW) bw);obtain⟨Y,hY⟩:=eX (jio c X);have hYl:Y.length<=1000:=by rw[hY];exact zT (yH _ _) hXl
 obtain⟨Q,hQ⟩:=eX (GrpE w lks c X);have az:Hid (∀ug aa D w',GI (lnkOf lks) Y (aa.map (·.2)) []->GrM w D w' ug aa []->Q (.returned ug) w'):=zA (fun ug aa D w' h1 h2=>by
  rw[hQ];rw[hY]at h1;exact⟨ug,aa,D,rfl,h1,h2⟩)
 rw[<- hY]at C1;rw[<- hQ];obtain⟨ae,an⟩:=eX (lnkOf lks);rw[<- an]at az;have bW:Hid (∀(a b:Nat) (W:World),Below w.heap.size w W->Calls Tryz.prog 149 #[.pointer (some ⟨jb,0,none⟩),.int .i64 (a:Int),.int .i64 (b:Int)] W fun e w'=>e=.returned (.bool (ae a b))/\Below W.heap.size W w'):=zA (by rw[an];exact CL.out);have bz:=zA aO;clear CL h hc hc0 hsv hX hXl hj bn bw aL aO bF hY hQ an;go_enter Tryz.func131,Tryz.ntmps131;go_wp2_with fail;rw[<- bz.out];refine C0.out.mono ?_;rintro e w1 ⟨v1,rfl,aG,bx⟩;have C2:=zA (C1.out v1 w1 aG bx);clear aG bx C0 C1 bz;go_wp2_with fail;refine C2.out.mono ?_;rintro e w2 ⟨v2,rfl,bt⟩;have a9:Hid (GrM w (fun _=>False) w2 (.slice none 0 0) [] [(v2,Y)]):=zA bt;have aS:Hid (GI ae Y [] Y):=zA (GI.start _ _);clear bt C2;go_wp2_with fail;go_loopg [7,8] Y.length (fun gg u7 u8 wr=>∃(D:Nat->Prop) (aa:List (Value×List Nat)) (O:List Nat),gg=O.length/\Hid (GI ae Y (aa.map (·.2)) O)/\Hid (GrM w D wr u7 aa [(u8,O)]))
 case atStart=>exact⟨fun _=>False,[],Y,rfl,aS,a9⟩
 case round=>
  obtain⟨D,aa,O,aK,aw,ai⟩:=hrel;obtain⟨wx,bJ⟩:=eX wr;subst bJ;obtain⟨bU,bj⟩:=eX gk;subst bj;have bm:=aw.out.len.1;cases O with
  |nil=>
   have HF:=zA (az.out u7 aa D wx aw.out (ai.out.turn (fun u hu=>by simp at hu) (fun u hu=>by simp at hu) (fun i j u v hu=>by simp at hu)));have ah:=ai.out.qs (u8,[]) (by simp);dsimp only at ah;rcases ah with⟨rfl,_⟩|⟨g,ak,ag,aR,rfl,_⟩
   . go_wp2;all_goals (first|(go_ret;exact HF.out)|exact HF.out)
   . go_wp2;all_goals (first|(go_ret;exact HF.out)|exact HF.out)
  |cons a O'=>
   rcases ai.out.qs (u8,a::O') (by simp)with⟨_,b1⟩|⟨g,ak,ag,aR,bp,bB,aM,hoc,bk,ab⟩
   . cases b1
   . dsimp only at bp aM;subst bp;have hca:wx.cell? ⟨g,ak,none⟩=some (.int .i64 (a:Int)):=by
      have:=ab 0 a rfl;rw[yA]at this;simp only[World.cell?,aM];exact this
     obtain⟨nt,au⟩:=eX O'.length;have hlc2:nt+1<=ag:=by rw[au];simpa using bk
     have bN:g<wx.heap.size:=lt_of_block aM;obtain⟨ga,gc,bu⟩:=jab ai.out.row;obtain⟨nr,aQ⟩:=eX aa.length;rw[<- aQ]at bu;subst bu;have bG:=zA aQ;have a1:Hid ((aa.map (·.2)).flatten.length+(nt+1)=Y.length):=zA (by
      have:=aw.out.perm.length_eq;rw[zG,yI,<- au]at this;exact this)
     have hnrl:nr<=1000:=by
      have:=aw.out.count;rw[zH,<- aQ]at this;omega
     clear aQ;obtain⟨wq,aJ⟩:=eX (wx.alloc (.cells #[.int .i64 (a:Int)] 3));have a2:Below wx.heap.size wx wq:=by rw[aJ];exact(zF _ _).alloc (zD _) _
     have bA:wq.heap[wx.heap.size]?=some (.cells #[.int .i64 (a:Int)] 3 (0,0)):=by rw[aJ];exact heap_alloc_new _ _
     have aZ:wq.heap[g]?=some (.cells aR 3 (0,0)):=(a2.block g bN).trans aM;have a7:w.heap.size<=wx.heap.size:=ai.out.bel.size;have bq:Hid (∀u,(u=.slice (some ⟨g,ak,none⟩) 0 0/\ag=1)\/(u=.slice (some ⟨g,ak+1,none⟩) nt (ag-1)/\ag≠1)->GrM w D wq (.slice ga nr gc) aa [(.slice (some ⟨wx.heap.size,0,none⟩) 1 1,[a]),(u,O')]):=zA (fun u hu=>by
      have hQ:QRow w.heap.size wq u O':=by
       rcases hu with⟨rfl,aF⟩|⟨rfl,aF⟩
       . have h0:O'=[]:=yP.1 (by omega);subst h0;exact .inr ⟨g,ak,0,aR,rfl,bB,aZ,by omega,zD _,fun j x hx=>by simp at hx⟩
       . exact .inr ⟨g,ak+1,ag-1,aR,by rw[au],bB,aZ,by omega,by omega,fun j x hx=>by
          have:=ab (j+1) x (by simpa using hx);rw[show ak+1+j=ak+(j+1) by omega];exact this⟩
      have bb:∀k,QB u k->k=g:=fun k hk=>by
       obtain⟨_,_,_,e⟩:=hk;rcases hu with⟨rfl,_⟩|⟨rfl,_⟩
       . injection e with e;injection e with e;injection e with e;exact e.symm
       . injection e with e;injection e with e;injection e with e;exact e.symm
      have aY:∀k,QB (.slice (some ⟨wx.heap.size,0,none⟩) 1 1) k->k=wx.heap.size:=fun k hk=>by
       obtain⟨_,_,_,e⟩:=hk;injection e with e;injection e with e;injection e with e;exact e.symm
      have b4:QRow w.heap.size wq (.slice (some ⟨wx.heap.size,0,none⟩) 1 1) [a]:=.inr ⟨wx.heap.size,0,1,_,rfl,a7,bA,by simp,by simp,fun j x hx=>by
       match j,hx with
       |0,hx=>simp at hx;subst hx;rfl
       |j+1,hx=>simp at hx⟩
      have bT:¬D g:=ai.out.dq _ (zN ..) g ⟨ak,_,ag,rfl⟩;refine(ai.out.below a2).turn (fun y hy k hk=>?_) (fun y hy=>?_) (fun i j x y hx hy hij k hk1 hk2=>?_)
      . simp only[yB,List.mem_nil_iff,or_false]at hy;rcases hy with rfl|rfl
        . rw[aY k hk];exact fun hd=>by have:=(ai.out.dl _ hd).2;omega
        . rw[bb k hk];exact bT
      . simp only[yB,List.mem_nil_iff,or_false]at hy;rcases hy with rfl|rfl
        . exact b4
        . exact hQ
      . match i,j,hx,hy,hij with
        |0,0,_,_,hij=>exact hij rfl
        |1,1,_,_,hij=>exact hij rfl
        |0,1,hx,hy,_=>
         simp at hx hy;subst hx hy;have h1:=aY k hk1;have h2:=bb k hk2;omega
        |1,0,hx,hy,_=>
         simp at hx hy;subst hx hy;have h1:=aY k hk2;have h2:=bb k hk1;omega
        |i+2,_,hx,_,_=>simp at hx
        |_,j+2,_,hy,_=>simp at hy)
     have aT:Hid (GM ae Y (aa.map (·.2)) [a] 0 O'):=zA aw.out.pop;have hcapI:(nt:Int)+1<=(ag:Int):=by omega
     have hntI:(0:Int)<(nt:Int)+1:=by omega
     rw[yI]at bm aK;rw[<- au]at bm aK;have hntl:nt<=1000:=by omega
     have HNT:=zA au;have bR:=zA aJ;have bZ:=zA aK;rw[yI,<- au];clear ab bk au aJ a2 bA aZ aK ai aw;go_upto_region 5 with fail;rw[<- bR.out];go_cut [8] (fun s8 wz=>Hid (GrM w D wq (.slice ga nr gc) aa [(.slice (some ⟨wx.heap.size,0,none⟩) 1 1,[a]),(s8,O')])/\wz=wq)
     case first=>
      by_cases aF:ag=1
      . have HQ:=zA (bq.out _ (.inl ⟨rfl,aF⟩));subst aF;have aV:nt=0:=by omega
        subst aV;go_wp2_with fail;go_meet;exact⟨HQ,rfl⟩
      . have HQ:=zA (bq.out _ (.inr ⟨rfl,aF⟩));have hc2:¬(ag:Int)=1:=by omega
        go_wp2_with fail;go_meet;exact⟨HQ,rfl⟩
     case rest=>
     obtain⟨ap,rfl⟩:=hcut;go_wp2_with fail;go_loopg [8,9,10] Y.length (fun gg u8 u9 u10 wr=>∃(G:List Nat) (i:Nat) (O2:List Nat),gg+i=Y.length/\i<=G.length/\u10=.int .i64 i/\Hid (GM ae Y (aa.map (·.2)) G i O2)/\Hid (GrM w D wr (.slice ga nr gc) aa [(u9,G),(u8,O2)]))
     case atStart=>exact⟨[a],0,O',rfl,by simp,rfl,aT,ap⟩
     case round=>
      obtain⟨G,i,O2,hgi,hiG,rfl,HM,HG⟩:=hrel;obtain⟨wy,bH⟩:=eX wr;subst bH;have hGl:=HM.out.len;have ao:=HG.out.qs (u9,G) (by simp);dsimp only at ao;rcases ao with⟨_,bQ⟩|⟨g9,ad,ac,cur9,rfl,hB9,bV,hc9,hl9,aB⟩
      . exact absurd bQ HM.out.nz
      . obtain⟨n9,ax⟩:=eX G.length;rw[<- ax];by_cases hlt:i<n9
        . have aU:(i:Int)<(n9:Int):=by omega
          obtain⟨b,hb⟩:∃b,G[i]?=some b:=⟨_,zB (by omega)⟩
          have ah:=HG.out.qs (u8,O2) (by simp);dsimp only at ah;obtain⟨a8,c8,bD⟩:=ah.natC.1.slice;obtain⟨n8,a0⟩:=eX O2.length;rw[<- a0]at bD;subst bD;have hn8l:n8<=1000:=by omega
          have hn9l:n9<=1000:=by omega
          have aP:=zA a0;have al:=zA ax;have bs:=zA hb;have bS:Hid (GrM w D wy (.slice ga nr gc) aa [(.slice (some ⟨g9,ad,none⟩) n9 ac,G),(.slice a8 n8 c8,O2),(.slice none 0 0,[])]):=zA (by have h1:=HG.out.plusNil;rw[<- ax]at h1;exact h1);have hGO:n9+n8<=1000:=by omega
          clear aB ax a0 hb HG ah bV;go_wp2_with fail;go_loopw [9,11,35] (fun v9 v11 k wr=>∃(j:Nat) (G2 A:List Nat),j<=n8/\k=.int .i64 j/\Hid (G2=G++(O2.take j).filter (ae b))/\Hid (A=(O2.take j).filter fun y=> !ae b y)/\Hid (GrM w D wr (.slice ga nr gc) aa [(v9,G2),(.slice a8 n8 c8,O2),(v11,A)])) (fun _ _ k _=>n8-(intOf k).toNat)
          case atStart=>exact⟨0,G,[],zO _,rfl,zA (by simp),zA (by simp),bS⟩
          case round=>
          obtain⟨j,G2,A,hj,rfl,av,aI,ap⟩:=hrel;obtain⟨wz,bO⟩:=eX wr;subst bO;have hG2l:G2.length<=1000:=by
           rw[av.out,zG,<- al.out];have h1:=yH (ae b) (O2.take j);rw[zX,<- aP.out]at h1;omega
          have hAl:A.length<=1000:=by
           rw[aI.out];have h1:=yH (fun y=> !ae b y) (O2.take j);rw[zX,<- aP.out]at h1;omega
          by_cases aL:j<n8
          . have bY:(j:Int)<(n8:Int):=by omega
            obtain⟨x,hx⟩:∃x,O2[j]?=some x:=⟨_,zB (by rw[<- aP.out];exact aL)⟩
            have ah:=ap.out.qs (.slice a8 n8 c8,O2) (by simp);dsimp only at ah;obtain⟨g8,off8,bK,_,hg8l,br⟩:=ah.natC.1.get hx;subst bK;have cx:=br 0 _ rfl;rw[yC,yA]at cx;have ao:=ap.out.qs (u9,G2) (by simp);dsimp only at ao;have a4:G2[i]?=some b:=by
             rw[av.out,yJ (by rw[<- al.out];exact hlt)];exact bs.out
            obtain⟨aA,cA,bv⟩:=ao.natC.1.slice;obtain⟨nA,ba⟩:=eX G2.length;rw[<- ba]at bv;subst bv;have hiA:i<nA:=by have:=(zE.1 a4).1;omega
            have hiAI:(i:Int)<(nA:Int):=by omega
            obtain⟨gA,oA,bX,_,hgAl,bC⟩:=ao.natC.1.get a4;subst bX;have cb:=bC 0 _ rfl;rw[yC,yA]at cb;have CK:=zA (bW.out b x wz ap.out.bel);have aN:Hid (O2.take (j+1)=O2.take j++[x]):=zA (by rw[zS,hx];rfl);have HNA:=zA ba;clear br bC ah ao hx a4 ba;go_wp2_with fail;refine CK.out.mono ?_;rintro e w3 ⟨rfl,bE⟩;have bo:=zA (ap.out.below bE);clear bE CK cx cb;obtain⟨t,ht⟩:=eX (ae b x);rw[<- ht];have hl:ae b x=t:=ht.symm;have aH:=zA hl;clear hl ht;cases t with
            |true=>
            obtain⟨w4,aj⟩:=eX (w3.alloc (.cells #[.int .i64 (x:Int)] 3));have aD:Below w3.heap.size w3 w4:=by rw[aj];exact(zF _ _).alloc (zD _) _
            have aC:w4.cell? ⟨w3.heap.size,0,none⟩=some (.int .i64 (x:Int)):=by
             have h1:w4.heap[w3.heap.size]?=some (.cells #[.int .i64 (x:Int)] 3 (0,0)):=by rw[aj];exact heap_alloc_new _ _
             simp[World.cell?,h1]
            have bg:=zA aC;have aq:=zA (bo.out.below aD);have a5:Hid (QRow w.heap.size w4 (.slice (some ⟨gA,oA,none⟩) nA cA) G2):=zA (aq.out.qs ((.slice (some ⟨gA,oA,none⟩) nA cA),G2) (by simp));have ar:Hid (w.heap.size<=w4.heap.size):=zA aq.out.bel.size;have bh:Hid (w3.alloc (.cells #[.int .i64 (x:Int)] 3)=w4):=zA aj.symm;clear aC aD aj;go_wp2_with (at_builtin;rw[bh.out];refine jbf rfl _ _ rfl (by rfl) a5.out (by omega) ⟨w3.heap.size,0,none⟩ 1 x (by rfl) bg.out ar.out ?_);intro u' w9 q1 q2 q3 q4 q5 q6 q7;have a6:=zA (aq.out.grow (i:=0) rfl q2 q3 q4 q5 q6 q1 q7);clear q1 q2 q3 q4 q5 q6 q7;go_wp2;go_roundw
            case rel=>exact⟨j+1,_,_,by omega,by go_num,zA (by rw[av.out,aN.out];simp[List.filter_append,aH.out]),zA (by rw[aI.out,aN.out];simp[List.filter_append,aH.out]),a6⟩
            case measure=>simp[intOf];omega
            |false=>
            obtain⟨w4,aj⟩:=eX (w3.alloc (.cells #[.int .i64 (x:Int)] 3));have aD:Below w3.heap.size w3 w4:=by rw[aj];exact(zF _ _).alloc (zD _) _
            have aC:w4.cell? ⟨w3.heap.size,0,none⟩=some (.int .i64 (x:Int)):=by
             have h1:w4.heap[w3.heap.size]?=some (.cells #[.int .i64 (x:Int)] 3 (0,0)):=by rw[aj];exact heap_alloc_new _ _
             simp[World.cell?,h1]
            have bg:=zA aC;have aq:=zA (bo.out.below aD);have a5:Hid (QRow w.heap.size w4 u11 A):=zA (aq.out.qs (u11,A) (by simp));have ar:Hid (w.heap.size<=w4.heap.size):=zA aq.out.bel.size;have bh:Hid (w3.alloc (.cells #[.int .i64 (x:Int)] 3)=w4):=zA aj.symm;clear aC aD aj;go_wp2_with (at_builtin;rw[bh.out];refine jbf rfl _ _ rfl (by rfl) a5.out (by omega) ⟨w3.heap.size,0,none⟩ 1 x (by rfl) bg.out ar.out ?_);intro u' w9 q1 q2 q3 q4 q5 q6 q7;have a6:=zA (aq.out.grow (i:=2) rfl q2 q3 q4 q5 q6 q1 q7);clear q1 q2 q3 q4 q5 q6 q7;go_wp2;go_roundw
            case rel=>exact⟨j+1,_,_,by omega,by go_num,zA (by rw[av.out,aN.out];simp[List.filter_append,aH.out]),zA (by rw[aI.out,aN.out];simp[List.filter_append,aH.out]),a6⟩
            case measure=>simp[intOf];omega
          . have bY:¬(j:Int)<(n8:Int):=by omega
            have bl:j=n8:=by omega
            have b0:Hid (GM ae Y (aa.map (·.2)) G2 (i+1) A):=zA (by
             have h1:=HM.out.step bs.out;have h2:O2.take j=O2:=by rw[bl,aP.out,List.take_length]
             rw[av.out,aI.out,h2];exact h1)
            have bL:=zA ap.out.drop1;have bI:i+1<=G2.length:=by
             rw[av.out,zG,<- al.out];omega
            clear bl;go_wp2;go_roundg (gk-1)
            case measure=>have h8:=HM.out.len;have h9:=al.out;omega
            case rel=>exact⟨G2,i+1,A,by have h8:=HM.out.len;have h9:=al.out;omega,bI,by go_num,b0,bL⟩
        . have aU:¬(i:Int)<(n9:Int):=by omega
          have bM:Hid (wy.ownsRow w.heap.size 59 1 (.slice ga nr gc) nr (aa.flatMap jaN)):=zA (by have:=HG.out.row;rw[<- bG.out]at this;exact this);have b3:Hid (w.heap.size<=wy.heap.size):=zA HG.out.bel.size;have al:=zA ax;clear aB ax;go_wp2_with (at_builtin;refine wpList_append_lies _ rfl _ _ _ rfl w.heap.size 59 iR _ 1 24 Tryz.underlying60 b2 bd bf bi rfl (by decide) (.slice ga nr gc) _ _ (by rfl) (bM.out.alloc _) ⟨wy.heap.size,0,none⟩ 1 1 [.slice (some ⟨g9,ad,none⟩) n9 ac] (by rfl) (by rfl) ?d1 ?d2 (by decide) ?d3 ?d4 ?d5 (wy.heap.size+1) (by simp) ?_)
          case d2=>simp[Value.oneCell']
          case d3=>unfold maxLen;omega
          case d4=>omega
          case d5=>have:=b3.out;simp;omega
          intro gg bc w5 am af ay aX;have aW:Hid (GI ae Y ((aa++[((Value.slice (some ⟨g9,ad,none⟩) n9 ac,G):Value×List Nat)]).map (·.2)) O2):=zA (by
           rw[yG];exact HM.out.done (by rw[<- al.out];omega))
          have a3:Hid (GrM w (fun k=>D k\/QB (.slice (some ⟨g9,ad,none⟩) n9 ac) k) w5 (.slice (some ⟨gg,0,none⟩) (nr+1) bc) (aa++[(.slice (some ⟨g9,ad,none⟩) n9 ac,G)]) [(u8,O2)]):=zA (by
           have hb:=(zF wy.heap.size wy).alloc (zD _) (.cells #[.slice (some ⟨g9,ad,none⟩) n9 ac] 59);have h1:=HG.out.below hb;rw[<- al.out]at h1;refine h1.put af ?_ (fun q hq=>?_)
           . rw[zG,<- bG.out,zP];exact am
           . have e1:gg=q:=by simpa[Value.ownBlock]using hq
             subst e1;rcases ay with e2|e2
             . exact .inl e2
             . exact .inr (by simp;omega))
          have aE:O2.length<bU:=by
           have h1:=HM.out.perm.length_eq;have h2:=a1.out;have h3:=bZ.out;have h4:0<G.length:=List.length_pos_iff.2 HM.out.nz;rw[zG,zG]at h1;omega
          clear am af ay aX;go_wp2;go_roundg O2.length
          case measure=>exact aE
          case rel=>exact⟨_,_,O2,rfl,aW,a3⟩
end Go.Proofs.YtkbgmcmcpbegjaaGreatDoor
