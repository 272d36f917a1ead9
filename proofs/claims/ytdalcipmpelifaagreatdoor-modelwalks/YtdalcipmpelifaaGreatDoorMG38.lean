/- XFill1. -/
import Derived.Test.YtdalcipmpelifaaGreatDoorMG37
set_option maxRecDepth 100000
namespace Go.Proofs.YtdalcipmpelifaaGreatDoor
open Go.RowKit Go.Shelf
theorem QRow.slice{B:Nat}{w:World}{u:Value}{L:List Nat}(h:QRow B w u L):∃ao cap,u=.slice ao L.length cap:=by
 rcases h with⟨rfl,rfl⟩|⟨g,off,cap,cur,rfl,_⟩
 . exact⟨none,0,rfl⟩
 . exact⟨_,cap,rfl⟩
theorem LinksOk.lt{ds:List Sy}{n m:Nat}{lks:List Lm}{ls:List Lk}(h:LinksOk ds n m lks ls):∀l∈ls,l.fr<m/\l.to<m:=fun l hl=>by
 obtain⟨i,hi⟩:=List.getElem?_of_mem hl;have hil:=(zE.1 hi).1;obtain⟨L,hL⟩:∃L,lks[i]?=some L:=⟨_,zB (by rw[<- h.len];exact hil)⟩
 obtain⟨h1,h2,_,h3,h4,_⟩:=h.at_ i L l hL hi;rw[h1,h2];exact⟨h3,h4⟩
section
variable {F:Nat->Prop} {w w':World} {jb:Nat} {J J':Jv} {ds:List Sy} {n m:Nat} {lks:List Lm} {ls:List Lk} {us:List Nat} {l l':List Sx} {X C:Nat->Prop} {cv rv:Value} {c:Ch} {row:List Nat} {fl:List (List Nat)}
theorem FI.drew(h:FI F w jb J ds n m lks ls us l X C cv c rv row fl):FI F w.drew jb J ds n m lks ls us l X C cv c rv row fl:=
 h.call (T:=fun k=>k<w.heap.size/\UL l k) ⟨rfl,rfl,rfl,zD _,fun _ _=>rfl⟩ (h.jz.js.below (zF _ _).drew) (fun _ h1 h2=>⟨h1,h2⟩)
theorem FFr.drew{M:Nat->Prop}(h:FFr w w' l l' M):FFr w w'.drew l l' M:=⟨h.os,h.tape,h.output,h.size,h.keep,h.un⟩
theorem FI.ask(h:FI F w jb J ds n m lks ls us l X C cv c rv row fl):Calls Tryz.prog 75 #[.pointer (some ⟨jb,0,none⟩),cv,J.av] w (SomE w (fun k=>k<w.heap.size/\UL l k) jb ds n m lks ls (locB ls c (List.range m))):=by
 have hm:=h.jz.mm;have hcl:=h.cl;have hj:=h.jz.js;rw[<- hcl]at hj;have C0:=(some_any (jb:=jb) (ds:=ds) (n:=n) (lks:=lks) (ls:=ls) 1000 (by omega)).2 w (fun k=>k<w.heap.size/\UL l k) c l cv (List.range m) J.av hj (h.ch.keep (zD _) (fun b hb _=>⟨⟨(h.cm b hb).1,(h.cm b hb).2.1⟩,rfl⟩)) (by rw[hcl];exact h.m0) h.ac (h.jz.al.sub (fun b hb hl=>⟨hl,h.jz.un b hb⟩)) List.nodup_range (by simpa using hm) (fun x hx=>by rw[hcl];exact yA.1 hx) (fun l hl=>⟨fun _ hn=>absurd (yA.2 (h.jz.ok.lt l hl).2) hn,fun _ hn=>absurd (yA.2 (h.jz.ok.lt l hl).1) hn⟩);rw[hcl]at C0;exact C0
theorem FI.leaf{wz w9:World}{nv fv9:Value}{rows:List (Value×List Nat)}(h:FI F w jb J ds n m lks ls us l X C cv c rv row fl)(hrc:rows.map (·.2)=fl)(hfo:∀g,J.fv.ownBlock=some g->X g)(hats:∀r∈rows,NatC (fun k=>X k/\J.fv.ownBlock≠some k) w r.1 r.2)
 (hb:Below w.heap.size w wz) (hnv:NatC (fun k=>nv.ownBlock=some k) wz nv row) (hnb:∀k,nv.ownBlock=some k->w.heap.size<=k/\k<wz.heap.size)
 (ho:w9.os=wz.os) (ht:w9.tape=wz.tape) (hu:w9.output=wz.output) (hz:wz.heap.size<=w9.heap.size) (hk:∀k,k<wz.heap.size->J.fv.ownBlock≠some k->w9.heap[k]?=wz.heap[k]?)
 (hown:w9.ownsRow 0 56 1 fv9 (rows.length+1) (rows.flatMap csRow++[nv])) (hbk:∀g,fv9.ownBlock=some g->J.fv.ownBlock=some g\/wz.heap.size<=g):
 FO F w jb J ds n m lks ls us l X rv row (fl++[row]) (w9.setCell ⟨jb,6,none⟩ fv9):=by
 have hjl:=h.jz.lt;have hzs:=hb.size;have hjx:J.fv.ownBlock≠some jb:=fun e=>(h.xm jb (hfo jb e)).2.2.2.1 rfl
 have hj9:w9.heap[jb]?=some (.cells J.cells 114 (0,0)):=(hk jb (by omega) hjx).trans ((hb.block jb hjl).trans h.jz.blk);have hset:∀k,k≠jb->(w9.setCell ⟨jb,6,none⟩ fv9).heap[k]?=w9.heap[k]?:=fun k hk2=>zM _ _ _ _ hk2
 have hsz:(w9.setCell ⟨jb,6,none⟩ fv9).heap.size=w9.heap.size:=by simp
 have hold:∀k,k<w.heap.size->k≠jb->¬X k->(w9.setCell ⟨jb,6,none⟩ fv9).heap[k]?=w.heap[k]?:=fun k h1 h2 h3=>(hset k h2).trans ((hk k (by omega) (fun e=>h3 (hfo k e))).trans (hb.block k h1))
 have hjn:(w9.setCell ⟨jb,6,none⟩ fv9).heap[jb]?=some (.cells (J.with fv9).cells 114 (0,0)):=by
  simp[World.setCell,Array.getElem?_modify,hj9,Jv.cells,Jv.with]
 have hnew:∀k,(nv.ownBlock=some k\/fv9.ownBlock=some k)->X k\/w.heap.size<=k:=fun k hk2=>by
  rcases hk2 with h1|h1
  . exact .inr (hnb k h1).1
  . rcases hbk k h1 with h2|h2
    . exact .inl (hfo k h2)
    . exact .inr (by omega)
 have hlt9:∀k,fv9.ownBlock=some k->k<w9.heap.size:=fun k hk2=>(hown.lt k hk2).2
 refine⟨fv9,l,fun k=>X k\/nv.ownBlock=some k\/fv9.ownBlock=some k,?_,fun k hk2=>?_,?_,?_,fun k hk2=>?_,?_⟩
 . exact h.jz.write (M:=X) (by rw[hsz];omega) (ho.trans hb.os) (ht.trans hb.tape) (hu.trans hb.output) hold (fun k hk2=>⟨(h.xm k hk2).2.1,(h.xm k hk2).2.2.1,(h.xm k hk2).2.2.2.2⟩) hjn rfl rfl rfl
 . have hx:X k\/w.heap.size<=k:=hk2.elim .inl (fun h1=>hnew k h1);have hsl:k<(w9.setCell ⟨jb,6,none⟩ fv9).heap.size:=by
    rw[hsz];rcases hk2 with h1|h1|h1
    . have:=(h.xm k h1).1;omega
    . have:=(hnb k h1).2;omega
    . exact hlt9 k h1
   rcases hx with h1|h1
   . obtain⟨_,a2,a3⟩:=h.xm k h1;exact⟨hsl,a2,a3⟩
   . obtain⟨a1,a2,a3,a4⟩:=h.jz.fresh h1;exact⟨hsl,a1,a2,a3,a4⟩
 . refine⟨rows++[(nv,row)],by rw[yP,hrc];rfl,?_,fun g hg=>.inr (.inr hg),fun r hr=>?_⟩
   . rw[zG,zY];refine owns_key hown (fun g o hg ho2=>(hset g (fun e=>?_)).trans ho2);rcases hbk g hg with h1|h1
     . exact hjx (e▸h1)
     . omega
   . rcases zN.1 hr with hr|hr
     . refine(hats r hr).keep (by rw[hsz];omega) (fun k hk2 hkl=>?_);have hxk:=h.xm k hk2.1;refine⟨⟨.inl hk2.1,fun e=>?_⟩,(hset k hxk.2.2.2.1).trans ((hk k (by omega) hk2.2).trans (hb.block k hkl))⟩;rcases hbk k e with h1|h1
       . exact hk2.2 h1
       . omega
     . rw[zJ.1 hr];refine hnv.keep (by rw[hsz];omega) (fun k hk2 hkl=>?_);have hn:=hnb k hk2;refine⟨⟨.inr (.inl hk2),fun e=>?_⟩,(hset k (by omega)).trans (hk k hkl (fun e=>?_))⟩
       . rcases hbk k e with h1|h1
         . have:=(h.xm k (hfo k h1)).1;omega
         . omega
       . have:=(h.xm k (hfo k e)).1;omega
 . exact h.row.keep (fun g _ hg=>hold g (h.rm g hg).1 (h.rm g hg).2.2.2.1 (h.rx g hg))
 . exact hk2.elim .inl (fun h1=>hnew k h1)
 . exact⟨ho.trans hb.os,ht.trans hb.tape,hu.trans hb.output,by rw[hsz];omega,fun k h1 _ h3=>hold k h1 (fun e=>h3 (.inl e)) (fun e=>h3 (.inr (.inl e))),fun k _ hu2=>hu2⟩
theorem FI.down{v3:Value}{c':Ch}{w3:World}(h:FI F w jb J ds n m lks ls us l X C cv c rv row fl)(hc:ChoC w C (fun k=>k<w.heap.size/\UL l k) jb ds n m lks ls v3 c' w3):
 ∃l3 C',FI F w3 jb J ds n m lks ls us l3 X C cv c rv row fl/\ChR C' w3 v3 n c'/\(∀k,C' k->k<w3.heap.size/\UL l3 k/\k≠jb/\¬X k/\¬QB rv k)/\FFr w w3 l l3 (fun _=>False):=by
 obtain⟨F',C',l3,e1,e2,e3,e4,e5,e6⟩:=hc;refine⟨l3,C',h.call e2 e3 (fun k hk hu=>e1 k ⟨hk,hu⟩),e4,fun k hk=>?_,FFr.call e2 e3 (fun k hk hu=>e1 k ⟨hk,hu⟩)⟩;refine⟨e3.low k (e5 k hk),e3.un k (e5 k hk),?_⟩;rcases e6 k hk with h1|h1
 . exact(h.cm k h1).2.2
 . refine⟨(h.jz.fresh h1).2.2.1,fun hx=>?_,fun hq=>?_⟩
   . have:=(h.xm k hx).1;omega
   . have:=(h.rm k hq).1;omega
theorem FI.app{C':Nat->Prop}{v3 rv4:Value}{c':Ch}{w4:World}{x:Nat}(h:FI F w jb J ds n m lks ls us l X C cv c rv row fl)(hch:ChR C' w v3 n c')(hcm:∀k,C' k->k<w.heap.size/\UL l k/\k≠jb/\¬X k/\¬QB rv k)(hac:AC ls c')(hcl:c'.length=m)
 (q1:QRow 0 w4 rv4 (row++[x])) (q2:w.heap.size<=w4.heap.size) (q3:w4.os=w.os) (q4:w4.tape=w.tape) (q5:w4.output=w.output) (q6:∀k,k<w.heap.size->¬QB rv k->w4.heap[k]?=w.heap[k]?) (q7:∀k,QB rv4 k->QB rv k\/(w.heap.size<=k/\k<w4.heap.size)):
 FI F w4 jb J ds n m lks ls us l X C' v3 c' rv4 (row++[x]) fl/\FFr w w4 l l (QB rv):=by
 have hjq:¬QB rv jb:=fun hq=>(h.rm jb hq).2.2.2.1 rfl
 refine⟨⟨?_,fun k hk=>?_,h.fo.keep q2 (fun k hk=>q6 k (h.xm k hk).1 (fun hq=>h.rx k hq hk)),q1,fun k hk=>?_,fun k hk hx=>?_,hch.keep q2 (fun b hb hl=>⟨hb,q6 b hl (hcm b hb).2.2.2.2⟩),fun k hk=>?_,hac,hcl,h.m0,h.fle⟩,⟨q3,q4,q5,q2,fun k hk _ hq=>q6 k hk hq,fun _ _ hu=>hu⟩⟩
 . exact h.jz.write (M:=QB rv) q2 q3 q4 q5 (fun k hk _ hq=>q6 k hk hq) (fun k hk=>⟨(h.rm k hk).2.1,(h.rm k hk).2.2.1,(h.rm k hk).2.2.2.2⟩) ((q6 jb h.jz.lt hjq).trans h.jz.blk) rfl rfl rfl
 . obtain⟨a1,a2⟩:=h.xm k hk;exact⟨zO a1 q2,a2⟩
 . rcases q7 k hk with h1|h1
   . obtain⟨a1,a2⟩:=h.rm k h1;exact⟨zO a1 q2,a2⟩
   . obtain⟨a1,a2,a3,a4⟩:=h.jz.fresh h1.1;exact⟨h1.2,a1,a2,a3,a4⟩
 . rcases q7 k hk with h1|h1
   . exact h.rx k h1 hx
   . have:=(h.xm k hx).1;omega
 . obtain⟨a1,a2,a3,a4,a5⟩:=hcm k hk;refine⟨zO a1 q2,a2,a3,a4,fun hq=>?_⟩;rcases q7 k hq with h1|h1
   . exact a5 h1
   . omega
theorem FI.lift{rv4:Value}{w4 w5:World}{l4:List Sx}{x:Nat}{fl5:List (List Nat)}(h:FI F w jb J ds n m lks ls us l X C cv c rv row fl)(hf:FFr w w4 l l4 (QB rv))(q1:QRow 0 w4 rv row)(q7:∀k,QB rv4 k->QB rv k\/w.heap.size<=k)(q8:QExt rv rv4 row.length)
 (h5:FO F w4 jb J ds n m lks ls us l4 X rv4 (row++[x]) fl5 w5):FO F w jb J ds n m lks ls us l X rv row fl5 w5:=by
 obtain⟨fv5,l5,X5,a1,a2,a3,a4,a5,a6⟩:=h5.ex;refine⟨fv5,l5,X5,a1,a2,a3,?_,fun k hk=>?_,(hf.mono (fun k hk=>.inr (.inr hk))).trans a6 (fun k hk=>?_)⟩
 . rcases q1 with q1|⟨g,off,cap,cur,e1,e2,e3,e4,e5,e6⟩
   . exact .inl q1
   . have hg:QB rv g:=⟨off,_,cap,e1⟩
     have hgm:=h.rm g hg;by_cases h4:QB rv4 g
     . obtain⟨off2,c2,f1,f2⟩:=q8 g hg h4;rcases a4 with⟨b1,_⟩|⟨g5,off5,cap5,cur5,b1,b2,b3,b4,b5,b6⟩
       . rw[f2]at b1;cases b1
       . rw[f2]at b1;injection b1 with b1 b7 b8;injection b1 with b1;injection b1 with b1 b9;subst b1 b8 b9;refine .inr ⟨g,off2,c2,cur5,f1,zS _,b3,b4,?_,fun j z hz=>?_⟩
         . rw[zG]at b5;omega
         . have hj:=(zE.1 hz).1;exact b6 j z (by rw[yH hj];exact hz)
     . refine .inr ⟨g,off,cap,cur,e1,e2,?_,e4,e5,e6⟩;refine(a6.keep g (lt_of_block e3) (hf.un g hgm.1 hgm.2.1) (fun hm=>?_)).trans e3;rcases hm with hm|hm|hm
       . exact hgm.2.2.2.1 hm
       . exact h.rx g hg hm
       . exact h4 hm
 . rcases a5 k hk with h1|h1
   . exact .inl h1
   . have:=hf.size;exact .inr (by omega)
 . rcases hk with hk|hk|hk
   . exact .inl (.inl hk)
   . exact .inl (.inr (.inl hk))
   . exact(q7 k hk).imp (fun h1=>.inr (.inr h1)) id
theorem FI.next{fl5:List (List Nat)}{w5:World}(h:FI F w jb J ds n m lks ls us l X C cv c rv row fl)(h5:FO F w jb J ds n m lks ls us l X rv row fl5 w5)(hfl:fl5.length<=4096):
 ∃fv5 l5 X5,FI F w5 jb (J.with fv5) ds n m lks ls us l5 X5 C cv c rv row fl5/\(∀k,X5 k->X k\/w.heap.size<=k)/\FFr w w5 l l5 (FM jb X rv):=by
 obtain⟨fv5,l5,X5,a1,a2,a3,a4,a5,a6⟩:=h5.ex;refine⟨fv5,l5,X5,⟨a1,a2,a3,a4,fun k hk=>?_,fun k hk hx=>?_,h.ch.keep a6.size (fun b hb hl=>⟨hb,a6.keep b hl (h.cm b hb).2.1 (fun hm=>?_)⟩),fun k hk=>?_,h.ac,h.cl,h.m0,hfl⟩,a5,a6⟩
 . obtain⟨b1,b2,b3⟩:=h.rm k hk;exact⟨zO b1 a6.size,a6.un k b1 b2,b3⟩
 . rcases a5 k hx with h1|h1
   . exact h.rx k hk h1
   . have:=(h.rm k hk).1;omega
 . obtain⟨_,_,b3,b4,b5⟩:=h.cm b hb;rcases hm with hm|hm|hm
   . exact b3 hm
   . exact b4 hm
   . exact b5 hm
 . obtain⟨b1,b2,b3,b4,b5⟩:=h.cm k hk;refine⟨zO b1 a6.size,a6.un k b1 b2,b3,fun hx=>?_,b5⟩;rcases a5 k hx with h1|h1
   . exact b4 h1
   . omega
theorem FO.from_{w0 w5:World}{l0:List Sx}{X0:Nat->Prop}{fv:Value}{fl5:List (List Nat)}(hf:FFr w0 w l0 l (FM jb X0 rv))(hx:∀k,X k->X0 k\/w0.heap.size<=k)(h5:FO F w jb (J.with fv) ds n m lks ls us l X rv row fl5 w5):FO F w0 jb J ds n m lks ls us l0 X0 rv row fl5 w5:=by
 obtain⟨fv5,l5,X5,a1,a2,a3,a4,a5,a6⟩:=h5.ex;refine⟨fv5,l5,X5,a1,a2,a3,a4,fun k hk=>?_,hf.trans a6 (fun k hk=>?_)⟩
 . rcases a5 k hk with h1|h1
   . exact hx k h1
   . have:=hf.size;exact .inr (by omega)
 . rcases hk with hk|hk|hk
   . exact .inl (.inl hk)
   . exact(hx k hk).imp (fun h1=>.inr (.inl h1)) id
   . exact .inl (.inr (.inr hk))
end
end Go.Proofs.YtdalcipmpelifaaGreatDoor
