/- XStrk, XPool, XNi, XQueue. -/
import Derived.Test.YtdalcipmpelifaaGreatDoorMG30
import Derived.ArgAppend
set_option maxRecDepth 100000
namespace Go.Proofs.YtdalcipmpelifaaGreatDoor
open Go.RowKit Go.Shelf
def StrE(S Z:Nat->Prop)(w:World)(sb:Nat)(d:Sd)(v:Value)(rows:List (Value×List Nat))(b:Nat)(bl M:List Nat)(e:Ending)(w':World):Prop:=
 e=.returned (.bool (decide (M.length≠bl.length)))/\∃(T:Nat->Prop) (s':Ss) (m':Sp) (rows':List (Value×List Nat)),(∀k,S k->T k)/\Low T w'/\SrS T w' sb d s' m'/\Rest d s'/\ChO (fun k=>(Z k\/w.heap.size<=k)/\T k) w' v rows'/\rows'.map (·.2)=(rows.map (·.2)).set b M/\Fr (fun k=>S k/\v.ownBlock≠some k) w w'
theorem flat_set{rows:List (Value×List Nat)}{b:Nat}(x:Value×List Nat):(rows.set b x).flatMap csRow=(rows.flatMap csRow).set b x.1:=by
 rw[flat_row,flat_row,List.map_set]
set_option maxHeartbeats 16000000 in
theorem strike_any{S Z:Nat->Prop}{w:World}{sb:Nat}{d:Sd}{s:Ss}{m:Sp}{v:Value}{rows:List (Value×List Nat)}{a b:Nat}{ra rb:Value×List Nat}{P:Nat->Bool}
 (h:SrS S w sb d s m) (hS:Low S w) (hr:Rest d s) (hn:d.n<=10000) (hol:∀u,(d.out u).length<=1000000) (hT:TabG w) (h0:S 0) (h0v:v.ownBlock≠some 0) (hZ:∀k,Z k->S k) (hc:ChO Z w v rows) (hra:rows[a]?=some ra) (hrb:rows[b]?=some rb) (hl:∀r∈rows,(∀u∈r.2,u<d.n)/\r.2.length<=10000) (hP:∀x,x<d.n->(P x=true↔d.leads ra.2 x)) (hkv:∀k,d.kp k->v.ownBlock≠some k):
 Calls Tryz.prog 73 #[v,.pointer (some ⟨sb,0,none⟩),.int .i64 (a:Int),.int .i64 (b:Int)] w (StrE S Z w sb d v rows b rb.2 (rb.2.filter P)):=by
 obtain⟨hb,cap,hv,cb,fb⟩:=hc.at_ hrb;obtain⟨hb2,cap2,hv2,ca,_⟩:=hc.at_ hra;rw[hv]at hv2;injection hv2 with hv2 _ hv3;injection hv2 with hv2;injection hv2 with hv2;subst hv2 hv3;subst hv;have hbo:(Value.slice (some ⟨hb,0,none⟩) rows.length cap).ownBlock=some hb:=rfl;have hbZ:=hc.own hb hbo;have hbS:=hZ hb hbZ;have hbl:=hS hb hbS;obtain⟨nr,hnr⟩:∃n,n=rows.length:=⟨_,rfl⟩
 have hal:=(zE.1 hra).1;have hbl2:=(zE.1 hrb).1;rw[<- hnr]at hal hbl2 hc ⊢;have hna:=hc.ats ra (zC hra);have hnb:=hc.ats rb (zC hrb);have hla:=hl ra (zC hra);have hlb:=hl rb (zC hrb);obtain⟨av,al⟩:=ra;obtain⟨bv,bl⟩:=rb;dsimp only at ca cb hna hnb hla hlb hP ⊢;obtain⟨aa,ac,hav⟩:=hna.1.slice;obtain⟨ba,bc,hbv⟩:=hnb.1.slice;obtain⟨na,hnae⟩:∃n,n=al.length:=⟨_,rfl⟩
 obtain⟨nb,hnbe⟩:∃n,n=bl.length:=⟨_,rfl⟩
 rw[<- hnae]at hav;rw[<- hnbe]at hbv;subst hav hbv;obtain⟨o1,ho1⟩:∃o,o=Obj.cells #[.slice (some ⟨hb,0,none⟩) nr cap] 112 (0,0):=⟨_,rfl⟩
 obtain⟨o2,ho2⟩:∃o,o=Obj.cells #[.pointer (some ⟨sb,0,none⟩)] 64 (0,0):=⟨_,rfl⟩
 obtain⟨o3,ho3⟩:∃o,o=Obj.cells #[.int .i64 (b:Int)] 3 (0,0):=⟨_,rfl⟩
 obtain⟨o4,ho4⟩:∃o,o=Obj.cells #[.slice none 0 0] 56 (0,0):=⟨_,rfl⟩
 obtain⟨o5,ho5⟩:∃o,o=Obj.cells #[.slice aa na ac] 56 (0,0):=⟨_,rfl⟩
 obtain⟨w4,hw4⟩:∃W,W=(((w.alloc o1).alloc o2).alloc o3).alloc o4:=⟨_,rfl⟩
 have hs4:w4.heap.size=w.heap.size+4:=by rw[hw4];simp
 have hb4:Below w.heap.size w w4:=by rw[hw4];exact((((zF _ _).alloc (zD _) _).alloc (by simp) _).alloc (by simp;omega) _).alloc (by simp;omega) _
 obtain⟨w5,hw5⟩:∃W,W=w4.drew.alloc o5:=⟨_,rfl⟩
 have hs5:w5.heap.size=w.heap.size+5:=by rw[hw5];simp;omega
 have hb45:Below w4.heap.size w4 w5:=by rw[hw5];exact(zF _ _).drew.alloc (zD _) _
 have hb5:Below w.heap.size w w5:=hb4.trans (hb45.mono hb4.size);have g1:w4.heap[w.heap.size]?=some o1:=by rw[hw4];exact get_atG [o1,o2,o3,o4] w 0 (by simp)
 have g2:w4.heap[w.heap.size+1]?=some o2:=by rw[hw4];exact get_atG [o1,o2,o3,o4] w 1 (by simp)
 have g3:w4.heap[w.heap.size+2]?=some o3:=by rw[hw4];exact get_atG [o1,o2,o3,o4] w 2 (by simp)
 have g4:w4.heap[w.heap.size+3]?=some o4:=by rw[hw4];exact get_atG [o1,o2,o3,o4] w 3 (by simp)
 have g5:w5.heap[w.heap.size+4]?=some o5:=by
  rw[hw5,<- hs4];exact heap_alloc_new w4.drew o5
 obtain⟨T0,hT0⟩:∃T:Nat->Prop,T=Plus S w.heap.size w5.heap.size:=⟨_,rfl⟩
 obtain⟨S0,hS0⟩:∃T:Nat->Prop,T=fun k=>Plus S w.heap.size w5.heap.size k/\k≠w.heap.size+3:=⟨_,rfl⟩
 have HT0:Hid (∀k,T0 k↔(S k\/(w.heap.size<=k/\k<w5.heap.size))):=zA (fun k=>by rw[hT0];exact Iff.rfl);have HS0:Hid (∀k,S0 k↔((S k\/(w.heap.size<=k/\k<w5.heap.size))/\k≠w.heap.size+3)):=zA (fun k=>by rw[hS0];exact Iff.rfl);have hSS0:∀k,S k->S0 k:=fun k hk=>(HS0.out k).2 ⟨.inl hk,by have:=hS k hk;omega⟩
 have hLow0:Low S0 w5:=fun k hk=>by
  rcases ((HS0.out k).1 hk).1 with h1|h1
  . have:=hS k h1;omega
  . exact h1.2
 have hSR5:SrS T0 w5 sb d s m:=by rw[hT0];exact h.plus hb5
 have hbv5:NatC S0 w5 (.slice ba nb bc) bl:=hnb.keep hb5.size (fun k hk hlk=>⟨hSS0 k (hZ k hk.1),hb5.block k hlk⟩);have hav5:NatC S0 w5 (.slice aa na ac) al:=hna.keep hb5.size (fun k hk hlk=>⟨hSS0 k (hZ k hk.1),hb5.block k hlk⟩);have hLS:LstS S0 w5 (.slice (some ⟨w.heap.size+4,0,none⟩) 1 1) [(.slice aa na ac,al)]:=by
  refine⟨?_,fun r hr2=>by rw[zJ.1 hr2];exact hav5.1⟩;have hvr:VRow w5 (w.heap.size+4) 56 ([((.slice aa na ac:Value),al)].flatMap csRow):=by
   rw[ho5]at g5;exact g5
  exact(hvr.sl csRow_len rfl).sub (fun k hk _=>by subst hk;exact(HS0.out _).2 ⟨.inr ⟨by omega,by omega⟩,by omega⟩)
 have g1':=(hb45.block _ (lt_of_block g1)).trans g1;have g2':=(hb45.block _ (lt_of_block g2)).trans g2;have g3':=(hb45.block _ (lt_of_block g3)).trans g3;have g4':=(hb45.block _ (lt_of_block g4)).trans g4;rw[ho1]at g1';rw[ho2]at g2';rw[ho3]at g3';rw[ho4]at g4';have hfound:=strike1_any (av:=.slice aa na ac) (al:=al) (P:=P) (d:=d) hLow0 (fun hk=>((HS0.out _).1 hk).2 rfl) ⟨g1',(HS0.out _).2 ⟨.inr ⟨zD _,by omega⟩,by omega⟩⟩ ⟨g3',(HS0.out _).2 ⟨.inr ⟨by omega,by omega⟩,by omega⟩⟩ ⟨g2',(HS0.out _).2 ⟨.inr ⟨by omega,by omega⟩,by omega⟩⟩ ⟨(hb5.cell (p:=⟨hb,b,none⟩) hbl).trans cb,hSS0 hb hbS⟩ hbl2 hbv5 hlb.1 hlb.2 hP (fun k hk=>hSS0 k (h.kS k hk));have hT5:TabG w5:=hT.below (B:=w.heap.size) (hS 0 h0) hb5;have CE:=zA (each_any (fn:=104) (Inv:=SInv w5 S0 (w.heap.size+3) (bl.filter P)) (v:=.slice (some ⟨w.heap.size+4,0,none⟩) 1 1) (enters_of Tryz.func104 (by kernel_rfl) rfl) hSR5 (fun k hk=>by
  rcases (HT0.out k).1 hk with h1|h1
  . have:=hS k h1;omega
  . exact h1.2) hr hn hol (by simp) (fun r hr2=>by rw[zJ.1 hr2];exact hla) (fun i T x y hi hf=>hi.keep hf) (fun i T x hi=>⟨(hLS.fr hi.fr).sub (fun k hk _=>hi.sub k hk),hT5.fr (hSS0 0 h0) hi.fr,hi.sub 0 (hSS0 0 h0)⟩) hfound ⟨fun k hk=>(HT0.out k).2 ((HS0.out k).1 hk).1,Fr.refl _ _,(HT0.out _).2 (.inr ⟨by omega,by omega⟩),.slice none 0 0,g4',by intro g hg;simp[Value.ownBlock]at hg,.inl ⟨rfl,rfl⟩⟩)
 have KC:Hid (∀u:World,Fr S0 w5 u->u.cell? ⟨w.heap.size,0,none⟩=some (.slice (some ⟨hb,0,none⟩) nr cap)/\u.cell? ⟨w.heap.size+1,0,none⟩=some (.pointer (some ⟨sb,0,none⟩))/\u.cell? ⟨w.heap.size+2,0,none⟩=some (.int .i64 (b:Int))/\u.cell? ⟨hb,a,none⟩=some (.slice aa na ac)/\u.cell? ⟨hb,b,none⟩=some (.slice ba nb bc)/\u.frozen? ⟨hb,b,none⟩=false):=zA (fun u hu=>by
  have x1:=(hu.block _ ((HS0.out (w.heap.size)).2 ⟨.inr ⟨zD _,by omega⟩,by omega⟩)).trans g1';have x2:=(hu.block _ ((HS0.out (w.heap.size+1)).2 ⟨.inr ⟨by omega,by omega⟩,by omega⟩)).trans g2';have x3:=(hu.block _ ((HS0.out (w.heap.size+2)).2 ⟨.inr ⟨by omega,by omega⟩,by omega⟩)).trans g3';have x4:=(hu.block hb (hSS0 hb hbS)).trans (hb5.block hb hbl);exact⟨by simp[World.cell?,x1],by simp[World.cell?,x2],by simp[World.cell?,x3],by simpa only[World.cell?,x4]using ca,by simpa only[World.cell?,x4]using cb,by simpa only[World.frozen?,x4]using fb⟩)
 have KS:Hid (∀u,Below w4.heap.size w4 u->u.cell? ⟨w.heap.size,0,none⟩=some (.slice (some ⟨hb,0,none⟩) nr cap)/\u.cell? ⟨w.heap.size+1,0,none⟩=some (.pointer (some ⟨sb,0,none⟩))/\u.cell? ⟨hb,a,none⟩=some (.slice aa na ac)):=zA (fun u hu=>by
  have x1:=(hu.block _ (lt_of_block g1)).trans g1;have x2:=(hu.block _ (lt_of_block g2)).trans g2;rw[ho1]at x1;rw[ho2]at x2;have x4:=(hu.block hb (by omega)).trans (hb4.block hb hbl);exact⟨by simp[World.cell?,x1],by simp[World.cell?,x2],by simpa only[World.cell?,x4]using ca⟩)
 have HA0:Hid (Below w4.heap.size w4 w4.drew):=zA (zF _ _).drew;have HA1:Hid (Below w4.heap.size w4 (w4.drew.alloc (.cells #[.slice aa na ac] 56))):=zA ((zF _ _).drew.alloc (zD _) _);have HW5:Hid ((w4.alloc (.cells #[.slice aa na ac] 56)).drew=w5):=zA (by rw[hw5,ho5];rfl);have HS4:=zA hs4;have HFINF:Hid (∀(wE:World) (T:Nat->Prop) (sE:Ss) (mE:Sp),(∀k,T0 k->T k)->Low T wE->SrS T wE sb d sE mE->Rest d sE->SInv w5 S0 (w.heap.size+3) (bl.filter P) 1 T wE->∀lv,wE.heap[w.heap.size+3]?=some (.cells #[lv] 56 (0,0))->
  ((bl.filter P).length=nb->StrE S Z w sb d (.slice (some ⟨hb,0,none⟩) nr cap) rows b bl (bl.filter P) (.returned (.bool false)) wE.drew)/\(¬(bl.filter P).length=nb->StrE S Z w sb d (.slice (some ⟨hb,0,none⟩) nr cap) rows b bl (bl.filter P) (.returned (.bool true)) (wE.drew.setCell ⟨hb,b,none⟩ lv))):=zA (fun wE T sE mE t1 t2 t3 t4 t5 lv hlv=>by
  obtain⟨lv2,u1,u2,u3⟩:=t5.ex;rw[hlv]at u1;injection u1 with u1;injection u1 with u1;have u1:lv=lv2:=by simpa using u1
  subst u1;have hown:wE.ownsRow 0 3 1 lv (bl.filter P).length ((bl.filter P).flatMap csI):=by
   rcases u3 with⟨x,_⟩|⟨_,x⟩
   . omega
   . exact x
  have hST:∀k,S k->T k:=fun k hk=>t1 k ((HT0.out k).2 (.inl hk))
  have hfrw:Fr S w wE:=⟨t5.fr.os.trans hb5.os,t5.fr.tape.trans hb5.tape,t5.fr.output.trans hb5.output,zQ hb5.size t5.fr.size,fun k hk=>(t5.fr.block k (hSS0 k hk)).trans (hb5.block k (hS k hk))⟩
  have hch:ChO (fun k=>(Z k\/w.heap.size<=k)/\T k) wE (.slice (some ⟨hb,0,none⟩) nr cap) rows:=by
   refine⟨?_,fun g hg=>⟨.inl (hc.own g hg),hST g (hZ g (hc.own g hg))⟩,fun r hr2=>(hc.ats r hr2).keep hfrw.size (fun k hk _=>⟨⟨⟨.inl hk.1,hST k (hZ k hk.1)⟩,hk.2⟩,hfrw.block k (hZ k hk.1)⟩)⟩;exact owns_key hc.row (fun g o hg ho=>(hfrw.block g (hZ g (hc.own g hg))).trans ho)
  constructor
  . intro heq;refine⟨?_,T,sE,mE,rows,hST,t2,t3.below (zF _ _).drew,t4,⟨hch.row.drew,hch.own,fun r hr2=>(hch.ats r hr2).below (zF _ _).drew⟩,?_,?_⟩
    . rw[decide_eq_false];rw[heq,hnbe];simp
    . have hM:bl.filter P=bl:=List.filter_eq_self.2 (List.length_filter_eq_length_iff.1 (by rw[heq,hnbe]));rw[hM];apply List.ext_getElem?;intro j;rw[List.getElem?_set];by_cases ej:b=j
      . subst ej;rw[if_pos rfl,if_pos (by rw[zH];omega),zI,hrb];rfl
      . rw[if_neg ej]
    . exact⟨hfrw.os,hfrw.tape,hfrw.output,hfrw.size,fun k hk=>hfrw.block k hk.1⟩
  . intro hneq;have hset:∀k,k≠hb->(wE.drew.setCell ⟨hb,b,none⟩ lv).heap[k]?=wE.heap[k]?:=fun k hk=>zM wE.drew ⟨hb,b,none⟩ lv k hk
    have hszE:w5.heap.size<=wE.heap.size:=t5.fr.size;have hTb:T hb:=hST hb hbS;refine⟨?_,T,sE,mE,rows.set b (lv,bl.filter P),hST,by intro k hk;have:=t2 k hk;simpa using this,?_,t4,⟨?_,fun g hg=>hch.own g hg,fun r hr2=>?_⟩,?_,?_⟩
    . rw[yC];rw[hnbe]at hneq;exact hneq
    . exact t3.keep (by simp) (fun k hk ho=>⟨t3.own_no ho,hset k (fun e=>t3.own_no ho (e▸hTb))⟩) (fun k hk hkk=>hset k (fun e=>hkv k hkk (by rw[e];rfl))) t3.kS
    . have h1:wE.drew.ownsRow 0 56 1 (.slice (some ⟨hb,0,none⟩) nr cap) nr (rows.flatMap csRow):=by
       have:=hch.row.drew;rw[<- hnr]at this;exact this
      rw[List.length_set,flat_set,<- hnr];exact(h1.stored b lv).1
    . obtain⟨j,hj⟩:=List.getElem?_of_mem hr2;rw[List.getElem?_set]at hj;have hlift:∀ {q:Value} {L:List Nat},NatC (fun k=>((Z k\/w.heap.size<=k)/\T k)/\(Value.slice (some ⟨hb,0,none⟩) nr cap).ownBlock≠some k) wE q L->NatC (fun k=>((Z k\/w.heap.size<=k)/\T k)/\(Value.slice (some ⟨hb,0,none⟩) nr cap).ownBlock≠some k) (wE.drew.setCell ⟨hb,b,none⟩ lv) q L:=fun hq=>hq.keep (by simp) (fun k hk _=>⟨hk,hset k (fun e=>hk.2 (by rw[e];rfl))⟩)
      split at hj
      . split at hj
        . injection hj with hj;subst hj;exact hlift ((own_natC hown).sub (fun k hk _=>⟨⟨.inr (by have:=(u2 k hk).2;omega),(u2 k hk).1⟩,fun e=>by
           have h2:=(u2 k hk).2;have h3:hb=k:=by simpa[Value.ownBlock]using e
           omega⟩))
        . cases hj
      . exact hlift (hch.ats r (zC hj))
    . rw[List.map_set]
    . exact⟨hfrw.os,hfrw.tape,hfrw.output,by simpa using hfrw.size,fun k hk=>(hset k (fun e=>hk.2 (by rw[e];rfl))).trans (hfrw.block k hk.1)⟩)
 have HS5:=zA hs5;have haI:(a:Int)<(nr:Int):=by omega
 have hbI:(b:Int)<(nr:Int):=by omega
 obtain⟨M,hM⟩:∃M,M=bl.filter P:=⟨_,rfl⟩
 rw[<- hM]at CE HFINF ⊢;obtain⟨Q,hQ⟩:∃Q,Q=StrE S Z w sb d (.slice (some ⟨hb,0,none⟩) nr cap) rows b bl M:=⟨_,rfl⟩
 rw[<- hQ]at HFINF ⊢;have hMl:M.length<=10000:=by rw[hM];exact zQ (yD _ _) hlb.2
 clear h hS hr hn hol hT h0 hc hZ hbZ hra hrb hl hP hkv hbo hbS hnr hna hnb hla hlb ca cb fb hb4 hb45 hb5 g1 g2 g3 g4 g5 hT0 hS0 hSS0 hLow0 hSR5 hbv5 hav5 hLS g1' g2' g3' g4' hfound hT5 hs4 hs5 hnae hnbe hM hQ h0v;go_enter Tryz.func73,Tryz.ntmps73;go_wp2_with fail;rw[<- ho1,<- ho2,<- ho3,<- ho4,<- hw4];clear ho1 ho2 ho3 ho4 hw4 hw5 ho5;refine wp_region_held_drew (S:=fun u=>u.cell? ⟨w.heap.size,0,none⟩=some (.slice (some ⟨hb,0,none⟩) nr cap)/\u.cell? ⟨w.heap.size+1,0,none⟩=some (.pointer (some ⟨sb,0,none⟩))/\u.cell? ⟨hb,a,none⟩=some (.slice aa na ac)) (by kernel_rfl) ?_ (fun hHeld=>?_)
 . exact KS.out _ HA0.out
 refine tkH (i:=0) (oi:=⟨some 10,.load 64 (.tmp 5),64, "join.go:160",#[],none⟩) (v:=?_) rfl ?_ hHeld ?_;rotate_left 1
 . rintro W ⟨l1,l2,l3⟩;go_simp;try with_reducible rfl
 simp only[Act.put,zIB,zSZ,zSS];refine tkH (i:=1) (oi:=⟨some 11,.load 112 (.tmp 4),112, "join.go:160",#[],none⟩) (v:=?_) rfl ?_ hHeld ?_;rotate_left 1
 . rintro W ⟨l1,l2,l3⟩;go_simp;try with_reducible rfl
 simp only[Act.put,zIB,zSZ,zSS];refine tkH (i:=2) (oi:=⟨some 12,.move (.tmp 2),3, "join.go:160",#[],none⟩) (v:=?_) rfl ?_ hHeld ?_;rotate_left 1
 . rintro W ⟨l1,l2,l3⟩;go_simp;try with_reducible rfl
 simp only[Act.put,zIB,zSZ,zSS];refine tkH (i:=3) (oi:=⟨some 13,.indexAddr 112 (.tmp 11) (.tmp 12),0, "join.go:160",#[⟨1,.data⟩,⟨2,.data⟩],none⟩) (v:=?_) rfl ?_ hHeld ?_;rotate_left 1
 . rintro W ⟨l1,l2,l3⟩;go_simp;try with_reducible rfl
 simp only[Act.put,zIB,zSZ,zSS];refine tkH (i:=4) (oi:=⟨some 14,.load 56 (.tmp 13),56, "join.go:160",#[⟨3,.data⟩],none⟩) (v:=?_) rfl ?_ hHeld ?_;rotate_left 1
 . rintro W ⟨l1,l2,l3⟩;go_simp;try with_reducible rfl
 simp only[Act.put,zIB,zSZ,zSS];refine tkH (i:=6) (oi:=⟨some 16,.makeFunc (.func 104) #[] #[.tmp 4,.tmp 7,.tmp 5,.tmp 9],73, "join.go:160",#[],none⟩) (v:=?_) rfl ?_ hHeld ?_;rotate_left 1
 . rintro W ⟨l1,l2,l3⟩;go_simp;try with_reducible rfl
 simp only[Act.put,zIB,zSZ,zSS];refine wpAnyH_ready (rs:=[5]) (by kernel_rfl) (by simp) ?_;refine AllReadyH.cons (o:=⟨some 15,.buildSlice 57 1 #[(0,.tmp 14)],57, "join.go:160",#[⟨4,.data⟩],none⟩) rfl (fun K hK=>?_) AllReadyH.nil;go_simp;refine hK.out _ _ (KS.out _ HA1.out) (fun hHeld=>?_);clear hK K;refine wpAnyH_ready (rs:=[7]) (by kernel_rfl) (by simp) ?_;refine AllReadyH.cons (o:=⟨some 17,.call { callee:=.value (.func 21),args:=#[.tmp 10,.tmp 15,.tmp 16],argTypes:=#[64,57,73] },0, "join.go:160",#[⟨0,.data⟩,⟨5,.data⟩,⟨6,.data⟩],none⟩) rfl (fun K hK=>?_) AllReadyH.nil;go_simp;rw[HW5.out,HS4.out];refine CE.out.mono ?_;rintro e wE ⟨rfl,T,sE,mE,t1,t2,t3,t4,t5⟩;have HFE:=zA t5.fr;obtain⟨lv,u1,u2,u3⟩:=t5.ex;have hF:=HFINF.out wE T sE mE t1 t2 t3 t4 t5 lv u1;have HF:=zA hF;have hown:wE.ownsRow 0 3 1 lv M.length (M.flatMap csI):=by
  rcases u3 with⟨x,_⟩|⟨_,x⟩
  . simp at x
  . exact x
 obtain⟨la,lc,hlv⟩:=own_slice hown;obtain⟨nM,hnM⟩:∃n,n=M.length:=⟨_,rfl⟩
 rw[<- hnM]at hlv hMl;subst hlv;rw[<- hnM]at HF;obtain⟨k1,k2,k3,k4,k5,k6⟩:=KC.out wE HFE.out;have k7:wE.cell? ⟨w.heap.size+3,0,none⟩=some (.slice la nM lc):=by simp[World.cell?,u1]
 have hKE:wE.cell? ⟨w.heap.size,0,none⟩=some (.slice (some ⟨hb,0,none⟩) nr cap)/\wE.cell? ⟨w.heap.size+1,0,none⟩=some (.pointer (some ⟨sb,0,none⟩))/\wE.cell? ⟨hb,a,none⟩=some (.slice aa na ac):=⟨k1,k2,k4⟩
 refine hK.out _ _ hKE (fun hHeld=>?_);clear hK K t1 t2 t3 t4 t5 u1 u2 u3 hF hown hnM hKE;refine wpAnyH_done (by kernel_rfl) ?_ _;by_cases heq:nM=nb
 . have HX:=zA (HF.out.1 heq);subst heq;clear HF;go_wp2_with fail;go_region;go_wp2;exact HX.out
 . have HX:=zA (HF.out.2 heq);have hne1:¬(nM:Int)=(nb:Int):=by omega
   have hne2:((nM:Int)==(nb:Int))=false:=by simp;omega
   clear HF;go_wp2_with fail;go_region;go_wp2;exact HX.out
abbrev Sx:=Nat×Sd×Sp
abbrev OwnX(x:Sx)(k:Nat):Prop:=OwnB x.1 x.2.2 k
structure Pool (w:World) (l:List Sx):Prop where
 at_:∀x∈l,∃s,SrS (fun k=>k<w.heap.size/\¬OwnX x k) w x.1 x.2.1 s x.2.2/\Rest x.2.1 s
 apart:∀(i j:Nat) x y,l[i]?=some x->l[j]?=some y->i≠j->∀k,OwnX x k->¬OwnX y k
 kp:∀x∈l,∀y∈l,∀k,x.2.1.kp k->¬OwnX y k
theorem Pool.own_lt{w:World}{l:List Sx}(h:Pool w l){x:Sx}(hx:x∈l){k:Nat}(hk:OwnX x k):k<w.heap.size:=by
 obtain⟨s,hs,_⟩:=h.at_ x hx;exact hs.own_lt hk
theorem Pool.kp_lt{w:World}{l:List Sx}(h:Pool w l){x:Sx}(hx:x∈l){k:Nat}(hk:x.2.1.kp k):k<w.heap.size:=by
 obtain⟨s,hs,_⟩:=h.at_ x hx;exact(hs.kS k hk).1
theorem Pool.keep{w w':World}{l:List Sx}(h:Pool w l)(hz:w.heap.size<=w'.heap.size)(hk:∀x∈l,∀k,(OwnX x k\/x.2.1.kp k)->w'.heap[k]?=w.heap[k]?):Pool w' l:=
 ⟨fun x hx=>by
  obtain⟨s,hs,hr⟩:=h.at_ x hx;exact⟨s,hs.keep hz (fun k _ ho=>⟨fun h2=>h2.2 ho,hk x hx k (.inl ho)⟩) (fun k _ hkk=>hk x hx k (.inr hkk)) (fun k hkk=>⟨zO (h.kp_lt hx hkk) hz,h.kp x hx x hx k hkk⟩),hr⟩,h.apart,h.kp⟩
theorem Pool.below{w w':World}{l:List Sx}(h:Pool w l)(hb:Below w.heap.size w w'):Pool w' l:=
 h.keep hb.size (fun _ hx k hk=>hb.block k (hk.elim (h.own_lt hx) (h.kp_lt hx)))
theorem Pool.turn{w w':World}{l:List Sx}(h:Pool w l){i:Nat}{x:Sx}(hi:l[i]?=some x){T:Nat->Prop}{s':Ss}{m':Sp}(hT:∀k,(k<w.heap.size/\¬OwnX x k)->T k)(hTl:Low T w')(hs:SrS T w' x.1 x.2.1 s' m')(hr:Rest x.2.1 s')(hz:w.heap.size<=w'.heap.size)(hk:∀y∈l,∀k,(OwnX y k\/y.2.1.kp k)->¬OwnX x k->w'.heap[k]?=w.heap[k]?):Pool w' (l.set i (x.1,x.2.1,m')):=by
 have hil:=(zE.1 hi).1;have hset:∀j,(l.set i (x.1,x.2.1,m'))[j]?=if i=j then some (x.1,x.2.1,m')else l[j]?:=fun j=>by
  rw[List.getElem?_set];simp[hil]
 have hxm:=zC hi;have hcase:∀y∈l.set i (x.1,x.2.1,m'),y=(x.1,x.2.1,m')\/∃j,j≠i/\l[j]?=some y:=fun y hy=>by
  obtain⟨j,hj⟩:=List.getElem?_of_mem hy;rw[hset]at hj;split at hj
  . injection hj with hj;exact .inl hj.symm
  . rename_i hne;exact .inr ⟨j,fun e=>hne e.symm,hj⟩
 have hold:∀ {y:Sx} {j:Nat},j≠i->l[j]?=some y->∀k,OwnX y k->T k:=fun {y j} hne hj k hk2=>hT k ⟨h.own_lt (zC hj) hk2,fun h2=>h.apart j i y x hj hi hne k hk2 h2⟩
 have hkpT:∀y∈l,∀k,y.2.1.kp k->T k:=fun y hy k hk2=>hT k ⟨h.kp_lt hy hk2,h.kp y hy x hxm k hk2⟩
 have hnew:∀k,OwnX (x.1,x.2.1,m') k->¬T k:=fun k hk2=>hs.own_no hk2
 refine⟨fun y hy=>?_,fun a b y z hy hz2 hab k h1 h2=>?_,fun y hy z hz2 k h1 h2=>?_⟩
 . rcases hcase y hy with rfl|⟨j,hne,hj⟩
   . exact⟨s',hs.keep (zD _) (fun k _ ho=>⟨fun h2=>h2.2 ho,rfl⟩) (fun _ _ _=>rfl) (fun k hkk=>⟨hTl k (hs.kS k hkk),fun ho=>hnew k ho (hs.kS k hkk)⟩),hr⟩
   . have hym:=zC hj;obtain⟨s,hs2,hr2⟩:=h.at_ y hym;exact⟨s,hs2.keep hz (fun k _ ho=>⟨fun h2=>h2.2 ho,hk y hym k (.inl ho) (fun h2=>h.apart j i y x hj hi hne k ho h2)⟩) (fun k _ hkk=>hk y hym k (.inr hkk) (h.kp y hym x hxm k hkk)) (fun k hkk=>⟨zO (h.kp_lt hym hkk) hz,h.kp y hym y hym k hkk⟩),hr2⟩
 . rw[hset]at hy hz2;split at hy
   . rename_i ea;injection hy with hy;subst hy;rw[if_neg (fun e=>hab (ea.symm.trans e))]at hz2;exact hnew k h1 (hold (fun e=>hab (ea.symm.trans e.symm)) hz2 k h2)
   . rename_i ea;split at hz2
     . rename_i eb;injection hz2 with hz2;subst hz2;exact hnew k h2 (hold (fun e=>ea e.symm) hy k h1)
     . exact h.apart a b y z hy hz2 hab k h1 h2
 . rcases hcase z hz2 with rfl|⟨j,_,hj⟩
   . rcases hcase y hy with rfl|⟨j2,_,hj2⟩
     . exact hnew k h2 (hkpT x hxm k h1)
     . exact hnew k h2 (hkpT y (zC hj2) k h1)
   . rcases hcase y hy with rfl|⟨j2,_,hj2⟩
     . exact h.kp x hxm z (zC hj) k h1 h2
     . exact h.kp y (zC hj2) z (zC hj) k h1 h2
def QRow(B:Nat)(w:World)(v:Value)(L:List Nat):Prop:=
 (v=.slice none 0 0/\L=[])\/∃g off cap cur,v=.slice (some ⟨g,off,none⟩) L.length cap/\B<=g/\w.heap[g]?=some (.cells cur 3 (0,0))/\off+cap<=cur.size/\L.length<=cap/\∀(j:Nat) x,L[j]?=some x->cur[off+j]?=some (.int .i64 (x:Int))
theorem QRow.of_own{B:Nat}{w:World}{v:Value}{L:List Nat}(h:w.ownsRow B 3 1 v L.length (L.flatMap csI)):QRow B w v L:=by
 rcases h.2 with⟨e,h0⟩|⟨g,cap,cur,e1,e2,e3,e4,e5,e6,e7⟩
 . exact .inl ⟨e,yG.1 h0⟩
 . refine .inr ⟨g,0,cap,cur,e1,e2,e3,by omega,e4,fun j x hx=>?_⟩;have hj:=(zE.1 hx).1;have h8:(L.flatMap csI)[j]?=some (.int .i64 (x:Int)):=by
    rw[flat_mapI,zI,zI,hx];rfl
   rw[<- e7,List.getElem?_take]at h8;split at h8
   . rw[Nat.zero_add,<- Array.getElem?_toList];exact h8
   . cases h8
theorem QRow.keep{B:Nat}{w w':World}{v:Value}{L:List Nat}(h:QRow B w v L)(hk:∀g,B<=g->(∃off n c,v=.slice (some ⟨g,off,none⟩) n c)->w'.heap[g]?=w.heap[g]?):QRow B w' v L:=by
 rcases h with h|⟨g,off,cap,cur,e1,e2,e3,e4,e5,e6⟩
 . exact .inl h
 . exact .inr ⟨g,off,cap,cur,e1,e2,(hk g e2 ⟨off,_,cap,e1⟩).trans e3,e4,e5,e6⟩
abbrev Sy:=Nat×Sd
def syOf(x:Sx):Sy:=(x.1,x.2.1)
structure NI (w0:World) (O F G:Nat->Prop) (v:Value) (ds:List Sy) (n:Nat) (c:Ch) (w:World) (l:List Sx) (Z:Nat->Prop) (rows:List (Value×List Nat)):Prop where
 pool:Pool w l
 like:l.map syOf=ds
 ch:ChO Z w v rows
 rc:rows.map (·.2)=c
 zl:Low Z w
 zu:∀k,Z k->∀x∈l,¬OwnX x k
 kv:∀x∈l,∀k,x.2.1.kp k->v.ownBlock≠some k
 cb:∀r∈rows,(∀u∈r.2,u<n)/\r.2.length<=10000
 fr:Fr F w0 w
 fo:∀k,F k->k<w.heap.size/\(∀x∈l,¬OwnX x k)/\v.ownBlock≠some k
 go:∀k,G k->k<w.heap.size/\(∀x∈l,¬OwnX x k)/\v.ownBlock≠some k/\¬Z k
 gk:∀k,G k->∀x∈l,¬x.2.1.kp k
 gf:∀k,G k->¬F k
 zo:∀k,Z k->k<w0.heap.size->O k
theorem NI.grow{w0:World}{O F G G':Nat->Prop}{v:Value}{ds:List Sy}{n:Nat}{c:Ch}{w w':World}{l:List Sx}{Z:Nat->Prop}{rows:List (Value×List Nat)}(h:NI w0 O F G v ds n c w l Z rows)(hz:w.heap.size<=w'.heap.size)(ho:w'.os=w.os)(ht:w'.tape=w.tape)(hu:w'.output=w.output)(hk:∀k,k<w.heap.size->¬G k->w'.heap[k]?=w.heap[k]?)(hG:∀k,G' k->G k\/(w.heap.size<=k/\k<w'.heap.size))(hF:∀k,F k->k<w0.heap.size)(hw0:w0.heap.size<=w.heap.size):NI w0 O F G' v ds n c w' l Z rows:=by
 have hown:∀x∈l,∀k,(OwnX x k\/x.2.1.kp k)->w'.heap[k]?=w.heap[k]?:=fun x hx k hk2=>by
  rcases hk2 with h1|h1
  . exact hk k (h.pool.own_lt hx h1) (fun hg=>(h.go k hg).2.1 x hx h1)
  . exact hk k (h.pool.kp_lt hx h1) (fun hg=>h.gk k hg x hx h1)
 have hZ:∀k,Z k->w'.heap[k]?=w.heap[k]?:=fun k hz2=>hk k (h.zl k hz2) (fun hg=>(h.go k hg).2.2.2 hz2)
 refine⟨h.pool.keep hz hown,h.like,⟨owns_key h.ch.row (fun g o hg ho2=>(hZ g (h.ch.own g hg)).trans ho2),h.ch.own,fun r hr=>(h.ch.ats r hr).keep hz (fun k hk2 _=>⟨hk2,hZ k hk2.1⟩)⟩,h.rc,fun k hk2=>zO (h.zl k hk2) hz,h.zu,h.kv,h.cb,?_,fun k hk2=>⟨zO (h.fo k hk2).1 hz,(h.fo k hk2).2⟩,fun k hk2=>?_,fun k hk2 x hx hkp=>?_,fun k hk2 hf=>?_,h.zo⟩
 . exact h.fr.trans ⟨ho,ht,hu,hz,fun k hk2=>hk k (h.fo k hk2).1 (fun hg=>h.gf k hg hk2)⟩
 . rcases hG k hk2 with h1|h1
   . obtain⟨a1,a2⟩:=h.go k h1;exact⟨zO a1 hz,a2⟩
   . refine⟨h1.2,fun x hx ho2=>?_,fun e=>?_,fun hz2=>?_⟩
     . have:=h.pool.own_lt hx ho2;omega
     . have:=h.zl k (h.ch.own k e);omega
     . have:=h.zl k hz2;omega
 . rcases hG k hk2 with h1|h1
   . exact h.gk k h1 x hx hkp
   . have:=h.pool.kp_lt hx hkp;omega
 . rcases hG k hk2 with h1|h1
   . exact h.gf k h1 hf
   . have:=hF k hf;omega
theorem NI.strike{w0:World}{O F G:Nat->Prop}{v:Value}{ds:List Sy}{n:Nat}{c:Ch}{w:World}{l:List Sx}{Z:Nat->Prop}{rows:List (Value×List Nat)}(h:NI w0 O F G v ds n c w l Z rows)(hn:n<=10000)(hT:TabG w)(hF0:F 0){q:Nat}{sb:Nat}{d:Sd}(hq:ds[q]?=some (sb,d))(hdn:d.n=n)(hol:∀u,(d.out u).length<=1000000){a b:Nat}(ha:a<c.length)(hb:b<c.length){Q:Nat->Nat->Prop}(hQ:∀u x,u<n->x<n->(d.leads [u] x↔Q u x)):
 Calls Tryz.prog 73 #[v,.pointer (some ⟨sb,0,none⟩),.int .i64 (a:Int),.int .i64 (b:Int)] w fun e w'=>e=.returned (.bool (decide (((atC c b).filter (leadB1 c a Q)).length≠(atC c b).length)))/\(∃l' Z' rows',NI w0 O F G v ds n (strikeC c a b Q) w' l' Z' rows')/\Fr G w w':=by
 have hql:∃x,l[q]?=some x/\syOf x=(sb,d):=by
  have h1:=h.like;rw[<- h1,zI]at hq;cases hx:l[q]? with
  |none=>rw[hx]at hq;simp at hq
  |some x=>rw[hx]at hq;exact⟨x,rfl,by simpa using hq⟩
 obtain⟨x,hx,hxe⟩:=hql;obtain⟨xb,xd,xm⟩:=x;unfold syOf at hxe;simp only[Prod.mk.injEq]at hxe;obtain⟨rfl,rfl⟩:=hxe;have hxm:=zC hx;obtain⟨s,hs,hr⟩:=h.pool.at_ _ hxm;dsimp only at hs hr;have hrl:rows.length=c.length:=by rw[<- h.rc,zH]
 obtain⟨ra,hra⟩:∃r,rows[a]?=some r:=⟨_,zB (by omega)⟩
 obtain⟨rb,hrb⟩:∃r,rows[b]?=some r:=⟨_,zB (by omega)⟩
 have hca:atC c a=ra.2:=by unfold atC;rw[<- h.rc,List.getD,zI,hra];rfl
 have hcb:atC c b=rb.2:=by unfold atC;rw[<- h.rc,List.getD,zI,hrb];rfl
 have hZS:∀k,Z k->k<w.heap.size/\¬OwnX (xb,xd,xm) k:=fun k hk=>⟨h.zl k hk,h.zu k hk _ hxm⟩
 have hS0:(0:Nat)<w.heap.size/\¬OwnX (xb,xd,xm) 0:=⟨(h.fo 0 hF0).1,(h.fo 0 hF0).2.1 _ hxm⟩
 have hst:=strike_any (P:=leadB1 c a Q) (S:=fun k=>k<w.heap.size/\¬OwnX (xb,xd,xm) k) hs (fun k hk=>hk.1) hr (by omega) hol hT hS0 (h.fo 0 hF0).2.2 hZS h.ch hra hrb (fun r hr2=>by rw[hdn];exact h.cb r hr2) (fun x hx2=>by
  rw[leadB1_iff,hca,Sd.leads_any];rw[hdn]at hx2;constructor
  . rintro⟨u,hu,hq2⟩;exact⟨u,hu,(hQ u x ((h.cb ra (zC hra)).1 u hu) hx2).2 hq2⟩
  . rintro⟨u,hu,hq2⟩;exact⟨u,hu,(hQ u x ((h.cb ra (zC hra)).1 u hu) hx2).1 hq2⟩) (fun k hk=>h.kv _ hxm k hk)
 refine hst.mono ?_;rintro e w' ⟨he,T,s',m',rows',t1,t2,t3,t4,t5,t6,t7⟩;have hz:w.heap.size<=w'.heap.size:=t7.size;have hil:=(zE.1 hx).1;have hcase:∀y∈l.set q (xb,xd,m'),y=(xb,xd,m')\/∃j,j≠q/\l[j]?=some y:=fun y hy=>by
  obtain⟨j,hj⟩:=List.getElem?_of_mem hy;rw[List.getElem?_set]at hj;by_cases ej:q=j
  . rw[if_pos ej,if_pos (by omega)]at hj;injection hj with hj;exact .inl hj.symm
  . rw[if_neg ej]at hj;exact .inr ⟨j,fun e=>ej e.symm,hj⟩
 have hnot:∀k,k<w.heap.size->(∀x∈l,¬OwnX x k)->∀y∈l.set q (xb,xd,m'),¬OwnX y k:=fun k hk1 hk2 y hy=>by
  rcases hcase y hy with rfl|⟨j,_,hj⟩
  . exact fun ho=>t3.own_no ho (t1 k ⟨hk1,hk2 _ hxm⟩)
  . exact hk2 y (zC hj)
 have hrl':rows'.map (·.2)=strikeC c a b Q:=by
  rw[t6,h.rc,strikeC,hcb]
 refine⟨by rw[he,hcb],⟨l.set q (xb,xd,m'),fun k=>(Z k\/w.heap.size<=k)/\T k,rows',?_⟩,?_⟩
 . have hpool:=h.pool.turn hx (T:=T) (s':=s') (m':=m') (fun k hk=>t1 k hk) t2 t3 t4 hz (fun y hy k hk hnx=>t7.block k ⟨⟨hk.elim (h.pool.own_lt hy) (h.pool.kp_lt hy),hnx⟩,hk.elim (fun ho e=>h.zu k (h.ch.own k e) y hy ho) (fun hkp=>h.kv y hy k hkp)⟩);refine⟨hpool,?_,t5,hrl',fun k hk=>t2 k hk.2,fun k hk y hy=>?_,fun y hy k hk=>?_,fun r hr2=>?_,?_,fun k hk=>?_,fun k hk=>?_,fun k hk y hy hkp=>?_,h.gf,fun k hk hk0=>hk.1.elim (fun h1=>h.zo k h1 hk0) (fun h1=>absurd (zO hk0 h.fr.size) (by omega))⟩
   . rw[List.map_set,<- h.like];apply List.ext_getElem?;intro j;rw[List.getElem?_set];by_cases ej:q=j
     . subst ej;rw[if_pos rfl,if_pos (by rw[zH];exact hil),zI,hx];rfl
     . rw[if_neg ej]
   . rcases hcase y hy with rfl|⟨j,hj1,hj2⟩
     . exact fun ho=>t3.own_no ho hk.2
     . rcases hk.1 with h1|h1
       . exact h.zu k h1 y (zC hj2)
       . exact fun ho=>by have:=h.pool.own_lt (zC hj2) ho;omega
   . rcases hcase y hy with rfl|⟨j,hj1,hj2⟩
     . exact h.kv _ hxm k hk
     . exact h.kv y (zC hj2) k hk
   . have h1:r.2∈strikeC c a b Q:=by rw[<- hrl'];exact zU hr2
     rcases List.mem_or_eq_of_mem_set h1 with h2|h2
     . rw[<- h.rc]at h2;obtain⟨r0,hr0,e0⟩:=zR.1 h2;rw[<- e0];exact h.cb r0 hr0
     . rw[h2,hcb];have h3:=h.cb rb (zC hrb);exact⟨fun u hu=>h3.1 u (zV.1 hu).1,zQ (yD _ _) h3.2⟩
   . exact h.fr.trans ⟨t7.os,t7.tape,t7.output,t7.size,fun k hk=>t7.block k ⟨⟨(h.fo k hk).1,(h.fo k hk).2.1 _ hxm⟩,(h.fo k hk).2.2⟩⟩
   . obtain⟨a1,a2,a3⟩:=h.fo k hk;exact⟨zO a1 hz,hnot k a1 a2,a3⟩
   . obtain⟨a1,a2,a3,a4⟩:=h.go k hk;refine⟨zO a1 hz,hnot k a1 a2,a3,fun hz2=>?_⟩;rcases hz2.1 with h1|h1
     . exact a4 h1
     . omega
   . rcases hcase y hy with rfl|⟨j,hj1,hj2⟩
     . exact h.gk k hk _ hxm hkp
     . exact h.gk k hk y (zC hj2) hkp
 . exact⟨t7.os,t7.tape,t7.output,t7.size,fun k hk=>t7.block k ⟨⟨(h.go k hk).1,(h.go k hk).2.1 _ hxm⟩,(h.go k hk).2.2.1⟩⟩
def QB(u:Value)(k:Nat):Prop:=∃off n c,u=.slice (some ⟨k,off,none⟩) n c
theorem QRow.lt{B:Nat}{w:World}{u:Value}{L:List Nat}(h:QRow B w u L){k:Nat}(hk:QB u k):B<=k/\k<w.heap.size:=by
 obtain⟨off,n,c,e⟩:=hk;rcases h with⟨h1,_⟩|⟨g,off2,cap,cur,e1,e2,e3,_⟩
 . rw[h1]at e;cases e
 . rw[e1]at e;injection e with e;injection e with e;injection e with e;subst e;exact⟨e2,lt_of_block e3⟩
def QExt(u u':Value)(n:Nat):Prop:=∀k,QB u k->QB u' k->∃off c,u=.slice (some ⟨k,off,none⟩) n c/\u'=.slice (some ⟨k,off,none⟩) (n+1) c
theorem wpList_append_q2{ops:Array Oper}{rest:List Oper}{o:Oper}{a:Act}{Qx:Exit->Act->World->Prop}{w:World}(hgd:o.guard=none)(s x:Operand)(ho:o.op=.call { callee:=.builtin .append,args:=#[s,x],argTypes:=#[56,56] })
 {B:Nat} {u:Value} {L:List Nat} (hs:a.eval s=u) (hq:QRow B w u L) (hL:L.length<=1000000000) (ad:Addr) (c y:Nat) (hx:a.eval x=.slice (some ad) 1 c) (hy:w.cell? ad=some (.int .i64 (y:Int))) (hB:B<=w.heap.size)
 (h:∀u' w',QRow B w' u' (L++[y])->QRow B w' u L->w.heap.size<=w'.heap.size->w'.os=w.os->w'.tape=w.tape->w'.output=w.output->(∀k,k<w.heap.size->¬QB u k->w'.heap[k]?=w.heap[k]?)->(∀k,QB u' k->QB u k\/(w.heap.size<=k/\k<w'.heap.size))->QExt u u' L.length->wpList Tryz.prog ops Qx rest (a.put o.dst u') w'):wpList Tryz.prog ops Qx (o::rest) a w:=by
 obtain⟨i0,hi0,hz0,hz1,hz2⟩:=info_partsG infoZG;have hnews:∀(j:Nat) v,(csI y)[j]?=some v->w.cell? (ad.add j)=some v:=fun j v hj=>by
  have:j=0:=by have:=(zE.1 hj).1;simp at this;exact this
  subst this;simp at hj;subst hj;exact hy
 have hlen:(L++[y]).flatMap csI=L.flatMap csI++csI y:=by rw[zY];rfl
 have hgrown:∀v' w',w'.ownsRow w.heap.size 3 1 v' (L.length+1) (L.flatMap csI++csI y)->w.grownBy w' none->wpList Tryz.prog ops Qx rest (a.put o.dst v') w':=fun v' w' h1 h2=>by
  have h3:w'.ownsRow w.heap.size 3 1 v' (L++[y]).length ((L++[y]).flatMap csI):=by rw[hlen,zG];exact h1
  have hq':=QRow.of_own h3;refine h v' w' ?_ (hq.keep (fun g hg1 hg2=>h2.block g (hq.lt hg2).2 (by simp))) h2.size h2.os h2.tape h2.output (fun k hk _=>h2.block k hk (by simp)) (fun k hk=>.inr (hq'.lt hk)) (fun k h1 h2=>by have:=(hq.lt h1).2;have:=(hq'.lt h2).1;omega);rcases hq' with hq'|⟨g,off,cap,cur,e1,e2,e3⟩
  . exact .inl hq'
  . exact .inr ⟨g,off,cap,cur,e1,by omega,e3⟩
 have hq0:=hq;rcases hq0 with⟨e,hL0⟩|⟨g,off,cap,cur,e1,e2,e3,e4,e5,e6⟩
 . subst hL0;exact wpList_append_grows w hgd s x 56 ho 3 i0 _ 1 8 Tryz.underlying56 hi0 hz0 hz1 hz2 rfl (by decide) none 0 0 [] (by rw[hs,e]) (fun _=>⟨rfl,rfl⟩) (by simp) (by simp) ad 1 c (csI y) hx rfl hnews (by simp[Value.oneCell']) (by omega) (by unfold maxLen;omega) (by omega) (fun v' w' h1 h2=>hgrown v' w' (by simpa using h1) h2)
 . have hcell:∀j v,(L.flatMap csI)[j]?=some v->w.cell? ⟨g,off+j,none⟩=some v:=fun j v hj=>by
    rw[flat_mapI,zI,zI]at hj;cases hLj:L[j]? with
    |none=>rw[hLj]at hj;simp at hj
    |some z=>
     rw[hLj]at hj;simp at hj;subst hj;simp only[World.cell?,e3];exact e6 j z hLj
   refine wpList_append_arg w hgd s x 56 ho 3 i0 _ 1 8 Tryz.underlying56 hi0 hz0 hz1 hz2 rfl (by decide) g off L.length cap (L.flatMap csI) (by rw[hs,e1]) (by rw[flatI_len];omega) hcell ad 1 c (csI y) hx rfl hnews (by simp[Value.oneCell']) (fun hroom j hj=>?_) (by unfold maxLen;omega) (by omega) (fun hroom=>?_) (fun hfull v' w' h1 h2=>hgrown v' w' h1 h2)
   . have hj0:j=0:=by simp at hj;exact hj
     subst hj0;have hb:off+L.length*1+0<cur.size:=by omega
     constructor
     . simp only[World.cell?,e3];rw[Array.getElem?_eq_getElem hb];rfl
     . simp[World.frozen?,e3]
   . have hset:(w.setCells g (off+L.length*1) (csI y))=w.setCell ⟨g,off+L.length*1,none⟩ (.int .i64 (y:Int)):=rfl;rw[hset];have hhb:(w.setCell ⟨g,off+L.length*1,none⟩ (.int .i64 (y:Int))).heap[g]?=some (.cells (cur.setIfInBounds (off+L.length) (.int .i64 (y:Int))) 3 (0,0)):=by
      simp[World.setCell,Array.getElem?_modify,e3]
     refine h _ _ (.inr ⟨g,off,cap,_,by rw[zG];rfl,e2,hhb,by simpa using e4,by rw[zG];simpa using hroom,fun j z hz=>?_⟩) (.inr ⟨g,off,cap,_,e1,e2,hhb,by simpa using e4,e5,fun j z hz=>by rw[Array.getElem?_setIfInBounds,if_neg (by have:=(zE.1 hz).1;omega)];exact e6 j z hz⟩) (by simp) rfl rfl rfl (fun k hk hne=>zM _ _ _ _ (fun e=>hne ⟨off,L.length,cap,by rw[e1,show k=g from e]⟩)) (fun k hk=>.inl ?_) (fun k h1 _=>?_)
     . rw[Array.getElem?_setIfInBounds];by_cases ej:j=L.length
       . subst ej;rw[yM (zD _)]at hz;simp at hz;subst hz;rw[if_pos rfl,if_pos (by omega)]
       . have hjl:j<L.length:=by
          have:=(zE.1 hz).1;simp at this;omega
         rw[yH hjl]at hz;rw[if_neg (by omega)];exact e6 j z hz
     . obtain⟨off3,n3,c3,e7⟩:=hk;injection e7 with e7;injection e7 with e7;injection e7 with e7;subst e7;exact⟨off,L.length,cap,e1⟩
     . obtain⟨off3,n3,c3,e7⟩:=h1;rw[e1]at e7;injection e7 with e7 e8 e9;injection e7 with e7;injection e7 with e7 e10;subst e7;exact⟨off,cap,e1,rfl⟩
theorem wpList_append_q{ops:Array Oper}{rest:List Oper}{o:Oper}{a:Act}{Qx:Exit->Act->World->Prop}{w:World}(hgd:o.guard=none)(s x:Operand)(ho:o.op=.call { callee:=.builtin .append,args:=#[s,x],argTypes:=#[56,56] })
 {B:Nat} {u:Value} {L:List Nat} (hs:a.eval s=u) (hq:QRow B w u L) (hL:L.length<=1000000000) (ad:Addr) (c y:Nat) (hx:a.eval x=.slice (some ad) 1 c) (hy:w.cell? ad=some (.int .i64 (y:Int))) (hB:B<=w.heap.size)
 (h:∀u' w',QRow B w' u' (L++[y])->w.heap.size<=w'.heap.size->w'.os=w.os->w'.tape=w.tape->w'.output=w.output->(∀k,k<w.heap.size->¬QB u k->w'.heap[k]?=w.heap[k]?)->(∀k,QB u' k->QB u k\/(w.heap.size<=k/\k<w'.heap.size))->wpList Tryz.prog ops Qx rest (a.put o.dst u') w'):wpList Tryz.prog ops Qx (o::rest) a w:=
 wpList_append_q2 hgd s x ho hs hq hL ad c y hx hy hB (fun u' w' a1 _ a2 a3 a4 a5 a6 a7 _=>h u' w' a1 a2 a3 a4 a5 a6 a7)
theorem cloneI_any{S:Nat->Prop}{w:World}{v:Value}{L:List Nat}(h:NatS S w v L)(hne:L≠[])(hL:L.length<=1000000000):
 Calls Tryz.prog 72 #[v] w fun e w'=>∃v',e=.returned v'/\w'.ownsRow w.heap.size 3 1 v' L.length (L.flatMap csI)/\Below w.heap.size w w':=by
 obtain⟨i0,hi0,hz0,hz1,hz2⟩:=info_partsG infoZG;obtain⟨ao,cap,e,h⟩:=h;subst e;have hsz:∀w,(Go.sizeOf 3).run Tryz.prog w=.ok 1 w:=fun w=>by kernel_rfl
 cases ao with
 |none=>
  rcases h with h|⟨g,off,e,_⟩
  . exact absurd h hne
  . cases e
 |some ad=>
  have hcells:∃g off,ad=⟨g,off,none⟩/\∀j u,(L.flatMap csI)[j]?=some u->w.cell? ⟨g,off+j,none⟩=some u:=by
   rcases h with h|⟨g,off,e,_,_,hc⟩
   . exact absurd h hne
   . injection e with e;refine⟨g,off,e,fun j u hj=>?_⟩;rw[flat_mapI,zI,zI]at hj;cases hLj:L[j]? with
     |none=>rw[hLj]at hj;simp at hj
     |some z=>
      rw[hLj]at hj;simp at hj;subst hj;have:=hc j z hLj 0 _ rfl;rw[yK,yF]at this;exact this
  obtain⟨g,off,rfl,hc⟩:=hcells;refine(Tryz.slices_Clone_f72 i0 _ 1 8 hi0 hz0 hz1 hz2 rfl (by decide) hsz g off L.length cap (L.flatMap csI) w (by rw[flatI_len];omega) (by unfold maxLen;omega) (by omega) hc (fun u hu=>by
   rw[flat_mapI]at hu;obtain⟨z,_,rfl⟩:=zR.1 hu;rfl)).mono ?_
  rintro e w' ⟨v',rfl,h1,_,h2⟩;exact⟨v',rfl,h1,h2⟩
end Go.Proofs.YtdalcipmpelifaaGreatDoor
