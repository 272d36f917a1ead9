/- QRTree, MRowP, QNames, MFlat. -/
import Derived.Test.YtkbgmcmcpbegjaaGreatDoorZR4
import Derived.Test.YtkbgmcmcpbegjaaGreatDoorZR5
import Derived.Maps.AppendAt
import Derived.LaidEqlPtr
import Derived.Carry
set_option maxRecDepth 100000
set_option maxHeartbeats 8000000
namespace Go.Proofs.YtkbgmcmcpbegjaaGreatDoor
open Go.RowKit
theorem jiN{k:Int}{wd:List UInt8}{l:List Pt}{x:Pt}(h1:k≠1)(h:x∈l):jap x<=jap ⟨k,wd,l⟩:=by
 rw[jaJ,if_neg h1];exact jk7 h
theorem jdT:∀(l:List Nat) (m:Nat),m<=l.foldl max m
 |[],_=>zD _
 |x::l,m=>zT (Nat.le_max_left m x) (jdT l (max m x))
theorem jc6:∀(l:List Nat) (m x:Nat),x∈l->x<=l.foldl max m
 |y::l,m,x,h=>by
  rw[yN];rcases yB.1 h with rfl|h
  . exact zT (Nat.le_max_right m x) (jdT l _)
  . exact jc6 l _ x h
theorem jkA{k:Int}{wd:List UInt8}{l:List Pt}{x:Pt}(h:x∈l):high x+1<=high ⟨k,wd,l⟩:=by
 rw[jhb];have:=jc6 (l.map high) 0 (high x) (zW h);omega
theorem jkd{l:List Vt}{i:Nat}{x:Vt}(h:l[i]?=some x):(((l.map Vt.pt).take (i+1)).map high).foldl max 0=max ((((l.map Vt.pt).take i).map high).foldl max 0) (high x.pt):=by
 rw[jf4 h,List.foldl_append];rfl
theorem jcv{d:Nat}{l:List Vt}{i:Nat}{x:Vt}(h:l[i]?=some x)(ha:∀y∈l.take i,jaf d y.pt=true)(hm:jaf d x.pt=true):∀y∈l.take (i+1),jaf d y.pt=true:=by
 intro y hy;rw[zS,h]at hy;rcases zL.1 hy with hy|hy
 . exact ha y hy
 . simp at hy;subst hy;exact hm
theorem jd2(s:List UInt8)(w:World)(h:s.length<=9223372036854775807):Calls Tryz.prog 49 #[.string ⟨s.toArray⟩] w fun e w'=>e=.returned (.bool (isW s))/\w'=w:=by
 have:=jlj ⟨s.toArray⟩ w (by rw[jbG];omega);simpa using this
theorem jeE{S:Nat->Prop}:∀(t:Vt) (w:World),jap t.pt<=4611686018427387903->VOk S w t->
 Calls Tryz.prog 22 #[encN t] w fun e w'=>e=.returned (.int .i64 (jap t.pt:Int))/\Below w.heap.size w w':=by
 refine Vt.ind (fun k wd v l ih=>?_);intro w ah aq;obtain⟨h1,h2,h3,h4⟩:=jbV.1 aq;obtain⟨ao,ak,hv⟩:=h1.slice;subst hv;have H1:=zA h1;have H4:=zA h4;have IH:=zA ih;rw[Vt.pt_mk]at ah ⊢;obtain⟨n,hn⟩:=eX l.length;rw[<- hn]at h3 H1 ⊢;have HN:=zA hn;have au:=zA ah;obtain⟨ag,ab⟩:=eX (jap ⟨k,wd,l.map Vt.pt⟩);rw[<- ab]at ah ⊢;have HA:=zA ab;clear h1 h4 ih aq hn ab;by_cases hk:k=1
 . subst hk;have HR:Hid (ag=1):=zA (by rw[HA.out,jaJ];rfl);have HB:Hid (∀a:Obj,Below w.heap.size w (w.alloc a)):=zA (fun a=>(zF _ _).alloc (zD _) _);go_enter Tryz.func22,Tryz.ntmps22;go_wp2;go_ret;exact⟨by rw[HR.out];rfl,HB.out _⟩
 . obtain⟨k1,k2⟩:=jaj hk;have HR:Hid (ag=((l.map Vt.pt).map jap).sum):=zA (by rw[HA.out,jaJ,if_neg hk]);have HK:=zA hk;obtain⟨o,ho⟩:=eX (Obj.cells #[.int .i64 k,.string ⟨wd.toArray⟩,.slice ao n ak] 25);have HO:=zA ho;have HC:Hid (∀wr,Below (w.alloc o).heap.size (w.alloc o) wr->wr.cell? ⟨w.heap.size,2,none⟩=some (.slice ao n ak)):=zA (fun wr hb=>by
    have h:=jav hb;rw[HO.out]at h;simp[World.cell?,h])
   clear hk ho;go_enter Tryz.func22,Tryz.ntmps22;go_wp2_with fail;go_loopw [3,4] (fun s c wr=>∃i z:Nat,i<=n/\c=.int .i64 i/\s=.int .i64 z/\z<=4611686018427387903/\z=(((l.map Vt.pt).take i).map jap).sum/\Below (w.alloc o).heap.size (w.alloc o) wr) (fun _ c _=>n-(intOf c).toNat)
   case atStart=>exact⟨0,0,zO _,rfl,rfl,by omega,by simp,by rw[HO.out];exact zF _ _⟩
   case round=>
    obtain⟨i,z,hi,rfl,rfl,hz,am,ai⟩:=hrel;have HZ:=zA am;have ac:=zA ai;have c2:=HC.out _ ai;clear am ai;by_cases hlt:i<n
    . have ae:(i:Int)<(n:Int):=by omega
      obtain⟨x,hx⟩:∃x,l[i]?=some x:=⟨_,zB (by rw[<- HN.out];exact hlt)⟩
      obtain⟨g,off,rfl,_,_,aa⟩:=(H1.out.below (jaa ac.out)).get hx;obtain⟨q0,q1,q2⟩:=getN aa;have ad:=zC hx;have HX:=zA hx;have aj:=zA (IH.out x ad wr (zT (jiN HK.out (zW ad)) au.out) ((H4.out x ad).below (jaa ac.out)));obtain⟨p,hp⟩:=eX (jap x.pt);rw[<- hp]at aj;have HP:=zA hp;have ap:Hid (z+p=(((l.map Vt.pt).take (i+1)).map jap).sum):=zA (by rw[jf4 HX.out,List.sum_append,<- HZ.out,<- HP.out];simp);have av:z+p<=4611686018427387903:=by
       have:=jhK (f:=jap) (l.map Vt.pt) (i+1);rw[<- ap.out,<- HR.out]at this;omega
      obtain⟨xa,xc,af⟩:=(H4.out x ad).parts.1.slice;obtain⟨xn,an⟩:=eX x.kids.length;rw[<- an]at af;obtain⟨xk,xw,xv,xl⟩:=x;dsimp only at q0 q1 q2 af;subst af;clear an hx aa hp ad;go_wp2_with fail;refine aj.out.mono ?_;rintro e w2 ⟨rfl,al⟩;have aw:=zA (ac.out.trans (al.mono ac.out.size));clear al;go_wp2;go_roundw
      case rel=>exact⟨i+1,z+p,by omega,by go_num,by go_num,av,ap.out,aw.out⟩
      case measure=>simp[intOf];omega
    . have ar:i=n:=by omega
      have ae:¬(i:Int)<(n:Int):=by omega
      have HE:Hid (ag=z):=zA (by
       rw[HR.out];have:=HZ.out;rw[zJ (by rw[zH,<- HN.out];omega)]at this;exact this.symm)
      clear ar;go_wp2;go_ret;exact⟨by rw[HE.out];rfl,jaa ac.out⟩
theorem jjC{S:Nat->Prop}:∀(t:Vt) (w:World),high t.pt<=4611686018427387903->VOk S w t->
 Calls Tryz.prog 23 #[encN t] w fun e w'=>e=.returned (.int .i64 (high t.pt:Int))/\Below w.heap.size w w':=by
 refine Vt.ind (fun k wd v l ih=>?_);intro w ah ar;obtain⟨h1,h2,h3,h4⟩:=jbV.1 ar;obtain⟨ao,al,hv⟩:=h1.slice;subst hv;have H1:=zA h1;have H4:=zA h4;have IH:=zA ih;rw[Vt.pt_mk]at ah ⊢;obtain⟨n,hn⟩:=eX l.length;rw[<- hn]at h3 H1 ⊢;have HN:=zA hn;have ak:=zA ah;obtain⟨am,ab⟩:=eX (high ⟨k,wd,l.map Vt.pt⟩);rw[<- ab]at ah ⊢;have HR:Hid (am=((l.map Vt.pt).map high).foldl max 0+1):=zA (by rw[ab,jhb]);obtain⟨o,ho⟩:=eX (Obj.cells #[.int .i64 k,.string ⟨wd.toArray⟩,.slice ao n al] 25);have HO:=zA ho;have HC:Hid (∀wr,Below (w.alloc o).heap.size (w.alloc o) wr->wr.cell? ⟨w.heap.size,2,none⟩=some (.slice ao n al)):=zA (fun wr hb=>by
  have h:=jav hb;rw[HO.out]at h;simp[World.cell?,h])
 clear h1 h4 ih ar hn ab ho;go_enter Tryz.func23,Tryz.ntmps23;go_wp2_with fail;go_loopw [3,4] (fun s c wr=>∃i z:Nat,i<=n/\c=.int .i64 i/\s=.int .i64 z/\z<=4611686018427387903/\z=(((l.map Vt.pt).take i).map high).foldl max 0/\Below (w.alloc o).heap.size (w.alloc o) wr) (fun _ c _=>n-(intOf c).toNat)
 case atStart=>exact⟨0,0,zO _,rfl,rfl,by omega,by simp,by rw[HO.out];exact zF _ _⟩
 case round=>
  obtain⟨i,z,hi,rfl,rfl,hz,ap,ai⟩:=hrel;have HZ:=zA ap;have ac:=zA ai;have c2:=HC.out _ ai;clear ap ai;by_cases hlt:i<n
  . have af:(i:Int)<(n:Int):=by omega
    obtain⟨x,hx⟩:∃x,l[i]?=some x:=⟨_,zB (by rw[<- HN.out];exact hlt)⟩
    obtain⟨g,off,rfl,_,_,aa⟩:=(H1.out.below (jaa ac.out)).get hx;obtain⟨q0,q1,q2⟩:=getN aa;have ad:=zC hx;have HX:=zA hx;have ae:=jkA (k:=k) (wd:=wd) (zW (f:=Vt.pt) ad);have aj:=zA (IH.out x ad wr (by have:=ak.out;omega) ((H4.out x ad).below (jaa ac.out)));obtain⟨p,hp⟩:=eX (high x.pt);rw[<- hp]at aj ae;have HP:=zA hp;have hpb:p<=4611686018427387903:=by have:=ak.out;omega
    have aw:Hid (max z p=(((l.map Vt.pt).take (i+1)).map high).foldl max 0):=zA (by rw[jkd HX.out,<- HZ.out,<- HP.out]);obtain⟨xa,xc,ag⟩:=(H4.out x ad).parts.1.slice;obtain⟨xn,aq⟩:=eX x.kids.length;rw[<- aq]at ag;obtain⟨xk,xw,xv,xl⟩:=x;dsimp only at q0 q1 q2 ag;subst ag;clear aq hx aa hp ad ae;go_wp2_with fail;refine aj.out.mono ?_;rintro e w2 ⟨rfl,an⟩;have av:=zA (ac.out.trans (an.mono ac.out.size));clear an;go_wp2;go_roundw
    case rel=>exact⟨i+1,max z p,by omega,by go_num,by go_num,by omega,aw.out,av.out⟩
    case measure=>simp[intOf];omega
  . have au:i=n:=by omega
    have af:¬(i:Int)<(n:Int):=by omega
    have HE:Hid (am=z+1):=zA (by
     rw[HR.out];have:=HZ.out;rw[zJ (by rw[zH,<- HN.out];omega)]at this;rw[<- this])
    clear au;go_wp2;go_ret;exact⟨by rw[HE.out];rfl,jaa ac.out⟩
theorem jiy{S:Nat->Prop}:∀(t:Vt) (d:Int) (w:World),VOk S w t->
 Calls Tryz.prog 39 #[encN t,.int .i64 d] w fun e w'=>(∃z:Int,e=.returned (.int .i64 z))/\Below w.heap.size w w':=by
 refine Vt.ind (fun k wd v l ih=>?_);intro d w aj;obtain⟨h1,h2,h3,h4⟩:=jbV.1 aj;obtain⟨ao,ah,hv⟩:=h1.slice;subst hv;have H1:=zA h1;have H4:=zA h4;have IH:=zA ih;obtain⟨n,hn⟩:=eX l.length;rw[<- hn]at h3 H1 ⊢;have HN:=zA hn;obtain⟨o,ho⟩:=eX (Obj.cells #[.int .i64 k,.string ⟨wd.toArray⟩,.slice ao n ah] 25);have HO:=zA ho;have HC:Hid (∀wr,Below (w.alloc o).heap.size (w.alloc o) wr->wr.cell? ⟨w.heap.size,2,none⟩=some (.slice ao n ah)):=zA (fun wr hb=>by
  have h:=jav hb;rw[HO.out]at h;simp[World.cell?,h])
 clear h1 h4 ih aj hn ho;by_cases hd:d=0
 . subst hd;have HB:Hid (∀a:Obj,Below w.heap.size w (w.alloc a)):=zA (fun a=>(zF _ _).alloc (zD _) _);go_enter Tryz.func39,Tryz.ntmps39;go_wp2;go_ret;exact⟨⟨_,rfl⟩,HB.out _⟩
 . obtain⟨d1,d2⟩:=jaj hd;clear hd;go_enter Tryz.func39,Tryz.ntmps39;go_wp2_with fail;go_loopw [5,6] (fun s c wr=>∃(i:Nat) (z:Int),i<=n/\c=.int .i64 i/\s=.int .i64 z/\Below (w.alloc o).heap.size (w.alloc o) wr) (fun _ c _=>n-(intOf c).toNat)
   case atStart=>exact⟨0,1,zO _,rfl,rfl,by rw[HO.out];exact zF _ _⟩
   case round=>
    obtain⟨i,z,hi,rfl,rfl,ae⟩:=hrel;have ab:=zA ae;have c2:=HC.out _ ae;clear ae;by_cases hlt:i<n
    . have ad:(i:Int)<(n:Int):=by omega
      by_cases hz:z<1000
      . obtain⟨x,hx⟩:∃x,l[i]?=some x:=⟨_,zB (by rw[<- HN.out];exact hlt)⟩
        obtain⟨g,off,rfl,_,_,aa⟩:=(H1.out.below (jaa ab.out)).get hx;obtain⟨q0,q1,q2⟩:=getN aa;have ac:=zC hx;have al:=zA (fun d=>IH.out x ac d wr ((H4.out x ac).below (jaa ab.out)));obtain⟨xa,xc,af⟩:=(H4.out x ac).parts.1.slice;obtain⟨xn,ai⟩:=eX x.kids.length;rw[<- ai]at af;obtain⟨xk,xw,xv,xl⟩:=x;dsimp only at q0 q1 q2 af;subst af;clear ai hx aa ac;go_wp2_with fail;refine(al.out _).mono ?_;rintro e w2 ⟨⟨zz,rfl⟩,ag⟩;have ak:=zA (ab.out.trans (ag.mono ab.out.size));clear ag;go_wp2;go_roundw
        case rel=>exact⟨i+1,_,by omega,by go_num,rfl,ak.out⟩
        case measure=>simp[intOf];omega
      . go_wp2;go_ret;exact⟨⟨_,rfl⟩,jaa ab.out⟩
    . have ad:¬(i:Int)<(n:Int):=by omega
      go_wp2;go_ret;exact⟨⟨_,rfl⟩,jaa ab.out⟩
theorem jfT(l:List Wd){t:Tm}(h:t.1=true):t.2∈addN l t:=by
 unfold addN;by_cases hm:t.2∈l
 . rw[if_neg (fun x=>x.2 hm)];exact hm
 . rw[if_pos ⟨h,hm⟩];simp
theorem jdP{l:List Wd}{t:Tm}{s:Wd}:s∈addN l t↔s∈l\/(t.1=true/\s=t.2):=by
 constructor
 . intro h;unfold addN at h;split at h
   . rename_i hc;rcases zL.1 h with h|h
     . exact .inl h
     . exact .inr ⟨hc.1,by simpa using h⟩
   . exact .inl h
 . rintro (h|⟨h,rfl⟩)
   . exact jkD h
   . exact jfT l h
theorem jaL{l:List Pa}{s:Wd}:s∈jai l↔∃a∈l,(a.1.1=true/\s=a.1.2)\/(a.2.2.1=true/\s=a.2.2.2):=by
 have aa:∀(l:List Pa) (n:List Wd),s∈l.foldl (fun n a=>addN (addN n a.1) a.2.2) n↔s∈n\/∃a∈l,(a.1.1=true/\s=a.1.2)\/(a.2.2.1=true/\s=a.2.2.2):=by
  intro l;induction l with
  |nil=>intro n;simp
  |cons a l ih=>
   intro n;rw[yN,ih,jdP,jdP];constructor
   . rintro (((h|h)|h)|⟨b,hb,h⟩)
     . exact .inl h
     . exact .inr ⟨a,zN ..,.inl h⟩
     . exact .inr ⟨a,zN ..,.inr h⟩
     . exact .inr ⟨b,zR _ hb,h⟩
   . rintro (h|⟨b,hb,h⟩)
     . exact .inl (.inl (.inl h))
     . rcases yB.1 hb with rfl|hb
       . rcases h with h|h
         . exact .inl (.inl (.inr h))
         . exact .inl (.inr h)
       . exact .inr ⟨b,hb,h⟩
 have:=aa l [];simpa[jai]using this
def tv(g:Wd->Wd)(t:Tm):Wd:=if t.1=true then g t.2 else t.2
def RowP(fs:List Fa)(vars:List Wd)(l:List Pa)(r:Rw):Prop:=
 ∃g:Wd->Wd,(∀a∈l,jbJ fs a.2.1 (tv g a.1) (tv g a.2.2))/\r=vars.map g
theorem RowP.vert{fs:List Fa}{l:List Pa}{g:Wd->Wd}(h:∀a∈l,jbJ fs a.2.1 (tv g a.1) (tv g a.2.2)){v:Wd}(hv:v∈jai l):g v∈jac fs:=by
 obtain⟨a,ha,⟨h1,e⟩|⟨h1,e⟩⟩:=jaL.1 hv
 . have:=(h a ha).1;rw[tv,if_pos h1,<- e]at this;exact this
 . have:=jbX (h a ha);rw[tv,if_pos h1,<- e]at this;exact this
theorem RowP.len{fs:List Fa}{vars:List Wd}{l:List Pa}{r:Rw}(h:RowP fs vars l r):r.length=vars.length:=by
 obtain⟨g,_,rfl⟩:=h;simp
theorem RowP.more{fs gs:List Fa}(h:∀f∈fs,f∈gs){vars:List Wd}{l:List Pa}{r:Rw}(hr:RowP fs vars l r):RowP gs vars l r:=by
 obtain⟨g,hg,e⟩:=hr;exact⟨g,fun a ha=>jjU h (hg a ha),e⟩
theorem lawQ:Maps.Keyed Tryz.prog 9:=Maps.string_keyed Tryz.underlying9
theorem keyQ(s:List UInt8)(hs:s.length<=140737488351232):keyOf Tryz.prog 9 (.string ⟨s.toArray⟩)=some (.string s):=by
 have:=WideMaps.keyOf_string_mk (P:=Tryz.prog) (k:=9) Tryz.underlying9 (s:=⟨s.toArray⟩) (by rw[jbG];unfold maxLen;omega);simpa using this
theorem jfk(w:World):(zeroValue 205).run Tryz.prog w=.ok (.agg #[]) w:=by kernel_rfl
theorem jmg:(Tryz.prog.info? 9).map (fun i=>(i.zero,i.size,i.bytes))=some (some (.string ⟨#[]⟩),1,16):=by kernel_rfl
theorem idx0(a b c d:Value)(w:World):(Instr.index 204 (.agg #[a,b,c,d]) (.int .i64 0)).run Tryz.prog w=.ok (.agg #[a,b]) w:=by kernel_rfl
theorem idx1(a b c d:Value)(w:World):(Instr.index 204 (.agg #[a,b,c,d]) (.int .i64 1)).run Tryz.prog w=.ok (.agg #[c,d]) w:=by kernel_rfl
def Says(D:DataW Unit)(ns:List (List UInt8)):Prop:=∀s,Maps.has D (.string s)=decide (s∈ns)
theorem jkq:Says (.map []) []:=fun s=>by simp[Maps.has]
theorem Says.put{D:DataW Unit}{ns:List (List UInt8)}{t:List UInt8}(h:Says D ns)(hm:Maps.IsMap D):Says (D.put (.string t) (.agg [])) (ns++[t]):=fun s=>by
 by_cases e:s=t
 . subst e;rw[Maps.has_put_same hm (show WideAt.IsKeyLit (.string s)from trivial)];simp
 . rw[Maps.has_put_other (by simpa using e),h s];simp[e]
theorem jcg{w:World}{B n b m:Nat}{e k:TypeId}{size:Nat}{v:Value}{xs:List Value}{R:Value->Option (DataW Unit×List MemPlace)}{D:DataW Unit}(h:w.ownsRow B e size v n xs)(hb:w.ownsMap Tryz.prog k R b m D):v.ownBlock≠some b:=by
 obtain⟨es,clock,hb,_⟩:=hb;intro hv;rcases h.2 with⟨rfl,_⟩|⟨g,cap,cur,rfl,_,e3,_⟩
 . simp[Value.ownBlock]at hv
 . have:g=b:=by simpa[Value.ownBlock]using hv
   subst this;rw[hb]at e3;cases e3
theorem jch{w w':World}{k:TypeId}{R:Value->Option (DataW Unit×List MemPlace)}{b n:Nat}{D:DataW Unit}(h:w.ownsMap Tryz.prog k R b n D)(key:∀o,w.heap[b]?=some o->w'.heap[b]?=some o):w'.ownsMap Tryz.prog k R b n D:=by
 obtain⟨es,aa,h1,h2⟩:=h;exact⟨es,aa,key _ h1,h2⟩
structure NmI (w wr:World) (mb:Nat) (v:Value) (D:DataW Unit) (ns:List (List UInt8)):Prop where
 row:wr.ownsRow w.heap.size 9 1 v ns.length (ns.flatMap csT)
 map:wr.ownsMap Tryz.prog 9 (unitElem (H:=Unit)) mb ns.length D
 says:Says D ns
 bel:Below w.heap.size w wr
theorem NmI.step{w wr wx:World}{mb:Nat}{v:Value}{D:DataW Unit}{ns:List (List UInt8)}(h:NmI w wr mb v D ns)(hb:Below wr.heap.size wr wx):NmI w wx mb v D ns:=
 ⟨jao h.row hb,jch h.map (fun _ ho=>(hb.block _ (lt_of_block ho)).trans ho),h.says,h.bel.trans (hb.mono h.bel.size)⟩
def nmJ(b:List (List UInt8))(a:Am)(j:Nat):List (List UInt8):=if j=0 then b else if j=1 then addN b a.1 else addN (addN b a.1) a.2.2
def NmT(w wr:World)(mb:Nat)(v:Value)(ns:List (List UInt8)):Prop:=∃D,NmI w wr mb v D ns
theorem jl1{l:List Am}{i:Nat}{a:Am}(h:l[i]?=some a):(l.take (i+1)).map Am.pa=(l.take i).map Am.pa++[a.pa]:=by
 rw[zS,h];simp
theorem jgV(l:List Pa):(jai l).length<=2*l.length:=by
 have aa:∀(l:List Pa) (n:List (List UInt8)),(l.foldl (fun n a=>addN (addN n a.1) a.2.2) n).length<=n.length+2*l.length:=by
  intro l;induction l with
  |nil=>intro n;simp
  |cons a l ih=>
   intro n;have h1:=ih (addN (addN n a.1) a.2.2);have h2:=jcM n a.1;have h3:=jcM (addN n a.1) a.2.2;rw[yN,yI];omega
 simpa[jai]using aa l []
theorem jjb{S:Nat->Prop}{w:World}{q:Qm}(h:QOk S w q)(hal:q.atoms.length<=1000000000):
 Calls Tryz.prog 144 #[encQ q] w fun e w'=>∃v,e=.returned v/\w'.ownsRow w.heap.size 9 1 v (jai (q.atoms.map Am.pa)).length ((jai (q.atoms.map Am.pa)).flatMap csT)/\Below w.heap.size w w':=by
 obtain⟨va,vc,a1⟩:=h.vs.slice;obtain⟨ao,bf,hv⟩:=h.ats.slice;obtain⟨i0,a3,a2,a6,a4⟩:=info_parts jmg;obtain⟨vv,aB,av,atoms⟩:=q;dsimp only at a1 hv hal ⊢;subst a1 hv;have H:=zA h;obtain⟨n,hn⟩:=eX atoms.length;rw[<- hn]at hal H ⊢;have HN:=zA hn;obtain⟨o,ho⟩:=eX (Obj.cells #[.slice va aB.length vc,.slice ao n bf] 38);have HO:=zA ho;have bc:Hid (NmT w ((w.alloc o).alloc (.map #[] 0)) (w.heap.size+1) (.slice none 0 0) []):=zA ⟨.map [],by
  refine⟨World.ownsRow_nil _ _ _ _,?_,jkq,((zF _ _).alloc (zD _) _).alloc (by simp) _⟩;have:=World.ownsMap_made (H:=Unit) (w.alloc o) Tryz.prog 9 unitElem;simpa using this⟩
 obtain⟨nv,aX⟩:=eX aB.length;rw[<- aX]at HO ⊢;clear h hn ho aX;have hmm:=@run_makeMap Tryz.prog;have hx0:=idx0;have hx1:=idx1;go_enter Tryz.func144,Tryz.ntmps144;go_wp2_with fail;go_loopw [3,15] (fun vl c wr=>∃(i:Nat) (v:Value),v=vl/\i<=n/\c=.int .i64 i/\NmT w wr (w.heap.size+1) v (jai ((atoms.take i).map Am.pa))) (fun _ c _=>n-(intOf c).toNat)
 case atStart=>exact⟨0,_,rfl,zO _,rfl,by have:=bc.out;rw[HO.out]at this;exact this⟩
 case round=>
  obtain⟨i,v,rfl,hi,rfl,aG⟩:=hrel;have HT:=zA aG;clear aG;by_cases hlt:i<n
  . have aK:(i:Int)<(n:Int):=by omega
    obtain⟨a,ha⟩:∃a,atoms[i]?=some a:=⟨_,zB (by rw[<- HN.out];exact hlt)⟩
    obtain⟨D0,aR⟩:=HT.out;obtain⟨g,off,rfl,_,_,an⟩:=(H.out.ats.below aR.bel).get ha;obtain⟨q0,q1,q2,q3,q4,q5,q6⟩:=getA an;have af:=H.out.fine a (zC ha);obtain⟨xa,xc,aM⟩:=(H.out.ok a (zC ha)).parts.1.slice;have HA:=zA ha;obtain⟨wx,a8⟩:=eX wr;subst a8;have HBx:=zA aR.bel;obtain⟨B0,aH⟩:=eX (jai ((atoms.take i).map Am.pa));rw[<- aH]at HT;have a5:Hid (B0.length<=2000000000):=zA (by
     have:=jgV ((atoms.take i).map Am.pa);rw[<- aH,zH,zX]at this;omega)
    have bb:Hid (nmJ B0 a 2=jai ((atoms.take (i+1)).map Am.pa)):=zA (by rw[jl1 HA.out,jeO,aH];rfl);obtain⟨nx,aZ⟩:=eX a.2.1.kids.length;rw[<- aZ]at aM;obtain⟨⟨b1,n1⟩,⟨xk,xw,xv,xl⟩,⟨b2,n2⟩⟩:=a;dsimp only at q0 q1 q2 q3 q4 q5 q6 aM af;subst aM;have a0:Hid (n1.length<=140737488351232):=zA af.1;have aY:Hid (n2.length<=140737488351232):=zA af.2;have a9:Hid (∀o,NmT w (wx.alloc o) (w.heap.size+1) v B0):=zA (fun o=>by
     obtain⟨D,hD⟩:=HT.out;exact⟨D,hD.step ((zF _ _).alloc (zD _) _)⟩)
    clear ha an af aZ aR aH D0;go_wp2_with fail;go_loopw [3,24] (fun vl c wr=>∃(j:Nat) (v:Value),v=vl/\j<=2/\c=.int .i64 j/\NmT w wr (w.heap.size+1) v (nmJ B0 ((b1,n1),⟨xk,xw,.slice xa nx xc,xl⟩,(b2,n2)) j)) (fun _ c _=>2-(intOf c).toNat)
    case atStart=>exact⟨0,_,rfl,zO _,rfl,a9.out _⟩
    case round=>
     obtain⟨j,v2,rfl,hj,rfl,aG⟩:=hrel;have aO:=zA aG;clear aG;obtain⟨wy,a7⟩:=eX wr;subst a7;obtain rfl|rfl|rfl:j=0\/j=1\/j=2:=by omega
     . obtain⟨D,hD⟩:=aO.out;obtain⟨ns,aj⟩:=eX (nmJ B0 ((b1,n1),⟨xk,xw,.slice xa nx xc,xl⟩,(b2,n2)) 0);rw[<- aj]at hD;obtain⟨av,cv,aC⟩:=jab hD.row;obtain⟨nl,ak⟩:=eX ns.length;rw[<- ak]at aC;subst aC;have ax:=zA ak;have HD:=zA hD;have ae:Hid (nmJ B0 ((b1,n1),⟨xk,xw,.slice xa nx xc,xl⟩,(b2,n2)) (0+1)=addN ns (b1,n1)):=zA (by rw[aj];rfl);have bd:nl<=2000000001:=by
        have h1:=a5.out;have h2:=jcM B0 (b1,n1);rw[ak,aj];simp only[nmJ,if_true];omega
       have HK:=zA (keyQ n1 a0.out);have aS:w.heap.size<=wy.heap.size:=hD.bel.size;clear hD aj ak;have ag:Hid (∀o,NmI w (wy.alloc o) (w.heap.size+1) (.slice av nl cv) D ns):=zA (fun o=>HD.out.step ((zF _ _).alloc (zD _) _));obtain⟨m,hm⟩:=eX (decide (n1∈ns));have HS:Hid (Maps.has D (.string n1)=m):=zA (by rw[HD.out.says,hm]);have HM:=zA hm;clear hm;cases m with
       |true=>
        have HE:Hid (∀wz,NmI w wz (w.heap.size+1) (.slice av nl cv) D ns->NmT w wz (w.heap.size+1) (.slice av nl cv) (nmJ B0 ((b1,n1),⟨xk,xw,.slice xa nx xc,xl⟩,(b2,n2)) (0+1))):=zA (fun wz h=>by
         rw[ae.out];refine⟨D,?_⟩;rw[addN,if_neg (fun hh=>hh.2 (of_decide_eq_true HM.out.symm))];exact h)
        go_wp2_with (at_lookup;refine wpList_lookup_own_unit _ rfl _ _ 203 rfl 9 205 lawQ Tryz.underlying203 (jfk _) (w.heap.size+1) _ D rfl (ag.out _).map _ _ rfl HK.out ?_;rw[HS.out]);go_roundw
        case rel=>exact⟨0+1,_,rfl,by omega,by go_num,HE.out _ ((ag.out _).step ((zF _ _).alloc (zD _) _))⟩
        case measure=>simp[intOf]
       |false=>
        cases b1 with
        |false=>
         have HE:Hid (∀wz,NmI w wz (w.heap.size+1) (.slice av nl cv) D ns->NmT w wz (w.heap.size+1) (.slice av nl cv) (nmJ B0 ((false,n1),⟨xk,xw,.slice xa nx xc,xl⟩,(b2,n2)) (0+1))):=zA (fun wz h=>by
          rw[ae.out];refine⟨D,?_⟩;rw[addN,if_neg (fun hh=>by cases hh.1)];exact h)
         go_wp2_with (at_lookup;refine wpList_lookup_own_unit _ rfl _ _ 203 rfl 9 205 lawQ Tryz.underlying203 (jfk _) (w.heap.size+1) _ D rfl (ag.out _).map _ _ rfl HK.out ?_;rw[HS.out]);go_roundw
         case rel=>exact⟨0+1,_,rfl,by omega,by go_num,HE.out _ ((ag.out _).step ((zF _ _).alloc (zD _) _))⟩
         case measure=>simp[intOf]
        |true=>
         have HE:Hid (addN ns (true,n1)=ns++[n1]):=zA (by rw[addN,if_pos ⟨rfl,of_decide_eq_false HM.out.symm⟩]);obtain⟨WZ,ai⟩:=eX ((wy.alloc (.cells #[.bool true,.string ⟨n1.toArray⟩] 53)).alloc (.cells #[] 205));have aA:Below wy.heap.size wy WZ:=by rw[ai];exact((zF _ _).alloc (zD _) _).alloc (by simp) _
         have ah:Hid (NmI w WZ (w.heap.size+1) (.slice av nl cv) D ns):=zA (HD.out.step aA);have aF:Hid (WZ.heap[wy.heap.size]?=some (.cells #[.bool true,.string ⟨n1.toArray⟩] 53 (0,0))):=zA (by
          rw[ai,((zF _ (wy.alloc _)).alloc (zD _) _).block wy.heap.size (by simp),heap_alloc_new])
         have aJ:Hid (w.heap.size+1<wy.heap.size):=zA HD.out.map.lt;have aL:=zA ai;have ar:w.heap.size<=WZ.heap.size:=ah.out.bel.size;have aW:Hid (n1.length<=140737488351232):=zA a0.out;clear aA ai;have aq:Hid (∀o1 o2,NmI w ((wy.alloc o1).alloc o2) (w.heap.size+1) (.slice av nl cv) D ns):=zA (fun o1 o2=>(ag.out o1).step ((zF _ _).alloc (zD _) _));go_wp2_with (first|(at_lookup;refine wpList_lookup_own_unit _ rfl _ _ 203 rfl 9 205 lawQ Tryz.underlying203 (jfk _) (w.heap.size+1) _ D rfl (ag.out _).map _ _ rfl HK.out ?_;rw[HS.out])|(at_mapUpdate;refine wpList_mapUpdate_own _ rfl _ _ _ 203 rfl 9 205 lawQ Tryz.underlying203 _ (w.heap.size+1) _ D rfl (aq.out _ _).map ?m1 _ _ _ rfl rfl HK.out _ [] unitElem_mk ?_))
         case m1=>have:=ax.out;unfold maxLen;omega
         intro w2 ac aa;rw[<- aL.out]at aa;have aE:=(aa.block wy.heap.size (lt_of_block aF.out) (fun e=>by have:=aJ.out;injection e with e;omega)).trans aF.out;have c1:w2.cell? ⟨wy.heap.size,1,none⟩=some (.string ⟨n1.toArray⟩):=by simp[World.cell?,aE]
         have aI:Hid (w2.ownsRow w.heap.size 9 1 (.slice av nl cv) ns.length (ns.flatMap csT)):=zA (jae ah.out.row (fun g _ hg ho=>(aa.block g (lt_of_block ho) (fun e=>jcg ah.out.row ah.out.map (by rw[hg,e]))).trans ho));have aV:=zA ac;have aD:Hid (Below w.heap.size w w2):=zA (ah.out.bel.grown aa ar (fun k e=>by injection e with e;omega));clear aa ac aE;go_wp2_with fail;refine(jc9 _ _ (by rw[jbG];have:=aW.out;omega)).mono ?_;rintro e w3 ⟨rfl,am⟩;have al:=zA (jao aI.out am);have aQ:=zA (jch aV.out (fun _ ho=>(am.block _ (lt_of_block ho)).trans ho));have au:=zA (aD.out.trans (am.mono aD.out.size));have bg:w.heap.size<=w3.heap.size:=au.out.size;rw[<- ax.out]at al;clear am;go_wp2_with (at_builtin;refine wpList_append_lies _ rfl _ _ _ rfl w.heap.size 9 i0 _ 1 16 Tryz.underlying34 a3 a2 a6 a4 rfl (by decide) (.slice av nl cv) _ _ (by rfl) (al.out.alloc _) ⟨w3.heap.size,0,none⟩ 1 1 (csT n1) (by rfl) (by rfl) ?d1 ?d2 (by decide) ?d3 ?d4 ?d5 (w3.heap.size+1) (by simp) ?_)
         case d1=>exact World.news_of_block (cs:=#[.string ⟨n1.toArray⟩]) (t:=9) (fr:=(0,0)) (heap_alloc_new w3 _)
         case d2=>simp[Value.oneCell']
         case d3=>unfold maxLen;omega
         case d4=>omega
         case d5=>simp;omega
         intro gg ay w9 ad ab az aw;have ba:Below w3.heap.size w3 (w3.alloc (.cells #[.string ⟨n1.toArray⟩] 9)):=(zF _ _).alloc (zD _) _;have aP:Hid (Below w.heap.size w w9):=zA ((au.out.trans (ba.mono au.out.size)).grown ab (by simp;omega) (fun k e=>(al.out.lt k e).1));have ap:=jch aQ.out (fun _ ho=>(ba.block _ (lt_of_block ho)).trans ho);have aU:Hid (w9.ownsMap Tryz.prog 9 (unitElem (H:=Unit)) (w.heap.size+1) (ns++[n1]).length (D.put (.string n1) (.agg []))):=zA (by
          rw[zG];exact jch ap (fun _ ho=>(ab.block _ (lt_of_block ho) (fun e=>jcg (al.out.alloc _) ap e.symm)).trans ho))
         have aN:Hid (w9.ownsRow w.heap.size 9 1 (.slice (some ⟨gg,0,none⟩) (nl+1) ay) (ns++[n1]).length ((ns++[n1]).flatMap csT)):=zA (by
          rw[zG,<- ax.out,zP];have h2:=ad;simpa[csT]using h2)
         have aT:Hid (Says (D.put (.string n1) (.agg [])) (ns++[n1])):=zA (HD.out.says.put HD.out.map.isMap);clear ad ab az aw ba ap;go_wp2;go_roundw
         case rel=>exact⟨0+1,_,rfl,by omega,by go_num,by rw[ae.out,HE.out];exact⟨_,aN.out,aU.out,aT.out,aP.out⟩⟩
         case measure=>simp[intOf]
     . obtain⟨D,hD⟩:=aO.out;obtain⟨ns,aj⟩:=eX (nmJ B0 ((b1,n1),⟨xk,xw,.slice xa nx xc,xl⟩,(b2,n2)) 1);rw[<- aj]at hD;obtain⟨av,cv,aC⟩:=jab hD.row;obtain⟨nl,ak⟩:=eX ns.length;rw[<- ak]at aC;subst aC;have ax:=zA ak;have HD:=zA hD;have ae:Hid (nmJ B0 ((b1,n1),⟨xk,xw,.slice xa nx xc,xl⟩,(b2,n2)) (1+1)=addN ns (b2,n2)):=zA (by rw[aj];rfl);have bd:nl<=2000000001:=by
        have h1:=a5.out;have h2:=jcM B0 (b1,n1);rw[ak,aj];simp only[nmJ,Nat.one_ne_zero,if_true,if_false];omega
       have HK:=zA (keyQ n2 aY.out);have aS:w.heap.size<=wy.heap.size:=hD.bel.size;clear hD aj ak;have ag:Hid (∀o,NmI w (wy.alloc o) (w.heap.size+1) (.slice av nl cv) D ns):=zA (fun o=>HD.out.step ((zF _ _).alloc (zD _) _));obtain⟨m,hm⟩:=eX (decide (n2∈ns));have HS:Hid (Maps.has D (.string n2)=m):=zA (by rw[HD.out.says,hm]);have HM:=zA hm;clear hm;cases m with
       |true=>
        have HE:Hid (∀wz,NmI w wz (w.heap.size+1) (.slice av nl cv) D ns->NmT w wz (w.heap.size+1) (.slice av nl cv) (nmJ B0 ((b1,n1),⟨xk,xw,.slice xa nx xc,xl⟩,(b2,n2)) (1+1))):=zA (fun wz h=>by
         rw[ae.out];refine⟨D,?_⟩;rw[addN,if_neg (fun hh=>hh.2 (of_decide_eq_true HM.out.symm))];exact h)
        go_wp2_with (at_lookup;refine wpList_lookup_own_unit _ rfl _ _ 203 rfl 9 205 lawQ Tryz.underlying203 (jfk _) (w.heap.size+1) _ D rfl (ag.out _).map _ _ rfl HK.out ?_;rw[HS.out]);go_roundw
        case rel=>exact⟨1+1,_,rfl,by omega,by go_num,HE.out _ ((ag.out _).step ((zF _ _).alloc (zD _) _))⟩
        case measure=>simp[intOf]
       |false=>
        cases b2 with
        |false=>
         have HE:Hid (∀wz,NmI w wz (w.heap.size+1) (.slice av nl cv) D ns->NmT w wz (w.heap.size+1) (.slice av nl cv) (nmJ B0 ((b1,n1),⟨xk,xw,.slice xa nx xc,xl⟩,(false,n2)) (1+1))):=zA (fun wz h=>by
          rw[ae.out];refine⟨D,?_⟩;rw[addN,if_neg (fun hh=>by cases hh.1)];exact h)
         go_wp2_with (at_lookup;refine wpList_lookup_own_unit _ rfl _ _ 203 rfl 9 205 lawQ Tryz.underlying203 (jfk _) (w.heap.size+1) _ D rfl (ag.out _).map _ _ rfl HK.out ?_;rw[HS.out]);go_roundw
         case rel=>exact⟨1+1,_,rfl,by omega,by go_num,HE.out _ ((ag.out _).step ((zF _ _).alloc (zD _) _))⟩
         case measure=>simp[intOf]
        |true=>
         have HE:Hid (addN ns (true,n2)=ns++[n2]):=zA (by rw[addN,if_pos ⟨rfl,of_decide_eq_false HM.out.symm⟩]);obtain⟨WZ,ai⟩:=eX ((wy.alloc (.cells #[.bool true,.string ⟨n2.toArray⟩] 53)).alloc (.cells #[] 205));have aA:Below wy.heap.size wy WZ:=by rw[ai];exact((zF _ _).alloc (zD _) _).alloc (by simp) _
         have ah:Hid (NmI w WZ (w.heap.size+1) (.slice av nl cv) D ns):=zA (HD.out.step aA);have aF:Hid (WZ.heap[wy.heap.size]?=some (.cells #[.bool true,.string ⟨n2.toArray⟩] 53 (0,0))):=zA (by
          rw[ai,((zF _ (wy.alloc _)).alloc (zD _) _).block wy.heap.size (by simp),heap_alloc_new])
         have aJ:Hid (w.heap.size+1<wy.heap.size):=zA HD.out.map.lt;have aL:=zA ai;have ar:w.heap.size<=WZ.heap.size:=ah.out.bel.size;have aW:Hid (n2.length<=140737488351232):=zA aY.out;clear aA ai;have aq:Hid (∀o1 o2,NmI w ((wy.alloc o1).alloc o2) (w.heap.size+1) (.slice av nl cv) D ns):=zA (fun o1 o2=>(ag.out o1).step ((zF _ _).alloc (zD _) _));go_wp2_with (first|(at_lookup;refine wpList_lookup_own_unit _ rfl _ _ 203 rfl 9 205 lawQ Tryz.underlying203 (jfk _) (w.heap.size+1) _ D rfl (ag.out _).map _ _ rfl HK.out ?_;rw[HS.out])|(at_mapUpdate;refine wpList_mapUpdate_own _ rfl _ _ _ 203 rfl 9 205 lawQ Tryz.underlying203 _ (w.heap.size+1) _ D rfl (aq.out _ _).map ?m1 _ _ _ rfl rfl HK.out _ [] unitElem_mk ?_))
         case m1=>have:=ax.out;unfold maxLen;omega
         intro w2 ac aa;rw[<- aL.out]at aa;have aE:=(aa.block wy.heap.size (lt_of_block aF.out) (fun e=>by have:=aJ.out;injection e with e;omega)).trans aF.out;have c1:w2.cell? ⟨wy.heap.size,1,none⟩=some (.string ⟨n2.toArray⟩):=by simp[World.cell?,aE]
         have aI:Hid (w2.ownsRow w.heap.size 9 1 (.slice av nl cv) ns.length (ns.flatMap csT)):=zA (jae ah.out.row (fun g _ hg ho=>(aa.block g (lt_of_block ho) (fun e=>jcg ah.out.row ah.out.map (by rw[hg,e]))).trans ho));have aV:=zA ac;have aD:Hid (Below w.heap.size w w2):=zA (ah.out.bel.grown aa ar (fun k e=>by injection e with e;omega));clear aa ac aE;go_wp2_with fail;refine(jc9 _ _ (by rw[jbG];have:=aW.out;omega)).mono ?_;rintro e w3 ⟨rfl,am⟩;have al:=zA (jao aI.out am);have aQ:=zA (jch aV.out (fun _ ho=>(am.block _ (lt_of_block ho)).trans ho));have au:=zA (aD.out.trans (am.mono aD.out.size));have bg:w.heap.size<=w3.heap.size:=au.out.size;rw[<- ax.out]at al;clear am;go_wp2_with (at_builtin;refine wpList_append_lies _ rfl _ _ _ rfl w.heap.size 9 i0 _ 1 16 Tryz.underlying34 a3 a2 a6 a4 rfl (by decide) (.slice av nl cv) _ _ (by rfl) (al.out.alloc _) ⟨w3.heap.size,0,none⟩ 1 1 (csT n2) (by rfl) (by rfl) ?d1 ?d2 (by decide) ?d3 ?d4 ?d5 (w3.heap.size+1) (by simp) ?_)
         case d1=>exact World.news_of_block (cs:=#[.string ⟨n2.toArray⟩]) (t:=9) (fr:=(0,0)) (heap_alloc_new w3 _)
         case d2=>simp[Value.oneCell']
         case d3=>unfold maxLen;omega
         case d4=>omega
         case d5=>simp;omega
         intro gg ay w9 ad ab az aw;have ba:Below w3.heap.size w3 (w3.alloc (.cells #[.string ⟨n2.toArray⟩] 9)):=(zF _ _).alloc (zD _) _;have aP:Hid (Below w.heap.size w w9):=zA ((au.out.trans (ba.mono au.out.size)).grown ab (by simp;omega) (fun k e=>(al.out.lt k e).1));have ap:=jch aQ.out (fun _ ho=>(ba.block _ (lt_of_block ho)).trans ho);have aU:Hid (w9.ownsMap Tryz.prog 9 (unitElem (H:=Unit)) (w.heap.size+1) (ns++[n2]).length (D.put (.string n2) (.agg []))):=zA (by
          rw[zG];exact jch ap (fun _ ho=>(ab.block _ (lt_of_block ho) (fun e=>jcg (al.out.alloc _) ap e.symm)).trans ho))
         have aN:Hid (w9.ownsRow w.heap.size 9 1 (.slice (some ⟨gg,0,none⟩) (nl+1) ay) (ns++[n2]).length ((ns++[n2]).flatMap csT)):=zA (by
          rw[zG,<- ax.out,zP];have h2:=ad;simpa[csT]using h2)
         have aT:Hid (Says (D.put (.string n2) (.agg [])) (ns++[n2])):=zA (HD.out.says.put HD.out.map.isMap);clear ad ab az aw ba ap;go_wp2;go_roundw
         case rel=>exact⟨1+1,_,rfl,by omega,by go_num,by rw[ae.out,HE.out];exact⟨_,aN.out,aU.out,aT.out,aP.out⟩⟩
         case measure=>simp[intOf]
     . go_wp2;go_roundw
       case rel=>exact⟨i+1,_,rfl,by omega,by go_num,by rw[<- bb.out];exact aO.out⟩
       case measure=>simp[intOf];omega
  . have aK:¬(i:Int)<(n:Int):=by omega
    have HE:Hid (jai ((atoms.take i).map Am.pa)=jai (atoms.map Am.pa)):=zA (by rw[zJ (by rw[<- HN.out];omega)]);go_wp2;go_ret;obtain⟨D,hD⟩:=HT.out;rw[HE.out]at hD;exact⟨_,rfl,hD.row,hD.bel⟩
def jmk(na nv:Nat)(e:Ending):Prop:=∃b:Bool,e=.returned (.bool b)/\(b=true->na<=21/\nv<=40)
theorem jiV{w:World}{q:Qm}(h:QOk (fun _=>True) w q):
 Calls Tryz.prog 18 #[.agg #[.int .i64 0,q.vv,q.av,.slice none 0 0]] w fun e w'=>jmk q.atoms.length q.vars.length e/\Below w.heap.size w w':=by
 have CC:Hid (∀a∈q.atoms,∀u,Below w.heap.size w u->Calls Tryz.prog 39 #[encN a.2.1,.int .i64 40] u fun e w'=>(∃z:Int,e=.returned (.int .i64 z))/\Below u.heap.size u w'):=zA (fun a ha u hu=>jiy a.2.1 40 u ((h.ok a ha).below hu));have HA:=zA h.ats;have az:=zA h.ok;have aw:=h.al;have aA:=h.vl;obtain⟨va,vc,ai⟩:=h.vs.slice;obtain⟨aa,ac,ag⟩:=h.ats.slice;obtain⟨na,af⟩:=eX q.atoms.length;obtain⟨nv,ah⟩:=eX q.vars.length;rw[<- af]at ag aw;rw[<- ah]at ai aA;rw[ag]at HA;rw[ai,ag,<- af,<- ah];have ax:=zA af;clear h ai ag af ah;obtain⟨o,ho⟩:=eX (Obj.cells #[.int .i64 0,.slice va nv vc,.slice aa na ac,.slice none 0 0] 43);have HO:=zA ho;have HC:Hid (∀wr,Below (w.alloc o).heap.size (w.alloc o) wr->wr.cell? ⟨w.heap.size,1,none⟩=some (.slice va nv vc)/\wr.cell? ⟨w.heap.size,2,none⟩=some (.slice aa na ac)/\wr.cell? ⟨w.heap.size,3,none⟩=some (.slice none 0 0)):=zA (fun wr hb=>by
  have h:=jav hb;rw[HO.out]at h;simp[World.cell?,h])
 have aB:Hid (Below (w.alloc o).heap.size (w.alloc o) (w.alloc (.cells #[.int .i64 0,.slice va nv vc,.slice aa na ac,.slice none 0 0] 43))):=zA (by rw[HO.out];exact zF _ _);clear ho;go_enter Tryz.func18,Tryz.ntmps18;go_wp2_with fail;go_loopw [3] (fun c wr=>∃i:Nat,i<=na/\i<=21/\c=.int .i64 i/\Below (w.alloc o).heap.size (w.alloc o) wr) (fun c _=>na-(intOf c).toNat)
 case atStart=>exact⟨0,zO _,by omega,rfl,aB.out⟩
 case round=>
  obtain⟨i,hi,hi21,rfl,au⟩:=hrel;obtain⟨wx,ay⟩:=eX wr;subst ay;have ad:=zA au;clear au;obtain⟨c1,c2,c3⟩:=HC.out _ ad.out;by_cases hlt:i<na
  . have ak:(i:Int)<(na:Int):=by omega
    by_cases h20:(20:Int)<(i:Int)
    . have am:decide ((20:Int)<(i:Int))=true:=zU h20;go_wp2;go_ret;exact⟨⟨false,rfl,by simp⟩,jaa ad.out⟩
    . have am:decide ((20:Int)<(i:Int))=false:=decide_eq_false h20;obtain⟨a,ha⟩:∃x,q.atoms[i]?=some x:=⟨_,zB (by rw[<- ax.out];exact hlt)⟩
      have aj:=zC ha;obtain⟨g,off,aC,_,hgl,ab⟩:=(HA.out.below (jaa ad.out)).get ha;subst aC;obtain⟨q0,q1,q2,q3,q4,q5,q6⟩:=getA ab;have C3:=zA (CC.out a aj);have ae:=zA (az.out a aj);obtain⟨⟨b1,t1⟩,⟨k,wd,v,l⟩,⟨b2,t2⟩⟩:=a;obtain⟨ka,kc,ap⟩:=ae.out.parts.1.slice;dsimp only at ap q0 q1 q2 q3 q4 q5 q6;subst ap;obtain⟨kn,ao⟩:=eX l.length;rw[<- ao]at C3 q4;clear ab ha aj ao ae;go_wp2_with fail;refine(C3.out _ (jaa ad.out)).mono ?_;rintro e w2 ⟨⟨z,rfl⟩,aq⟩;have ar:=zA (ad.out.trans (aq.mono ad.out.size));clear aq c1 c2 c3 q0 q1 q2 q3 q4 q5 q6;by_cases hz:(400:Int)<z
      . have hd:decide ((400:Int)<z)=true:=zU hz;go_wp2;go_ret;exact⟨⟨false,rfl,by simp⟩,jaa ar.out⟩
      . have hd:decide ((400:Int)<z)=false:=decide_eq_false hz;go_wp2;go_roundw
        case rel=>exact⟨i+1,by omega,by omega,by go_num,ar.out⟩
        case measure=>simp[intOf];omega
  . have ak:¬(i:Int)<(na:Int):=by omega
    by_cases h40:(nv:Int)<=40
    . have an:decide ((nv:Int)<=40)=true:=zU h40;have HY:Hid (na<=21/\nv<=40):=zA (by omega);go_wp2;go_ret;exact⟨⟨true,rfl,fun _=>HY.out⟩,jaa ad.out⟩
    . have an:decide ((nv:Int)<=40)=false:=decide_eq_false h40;go_wp2;go_ret;exact⟨⟨false,rfl,by simp⟩,jaa ad.out⟩
end Go.Proofs.YtkbgmcmcpbegjaaGreatDoor
