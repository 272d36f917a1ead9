/- AInts, AAuto, BSet, GMath, AMay, ANext. -/
import Derived.Test.YtdalcipmpelifaaGreatDoorMG5
import Derived.Laws.BitsAllLaws
set_option maxRecDepth 100000
namespace Go.Proofs.YtdalcipmpelifaaGreatDoor
open Go.RowKit
abbrev csZ(z:Int):List Value:=[.int .i64 z]
abbrev IntZ:=SlS csZ 1
theorem getZ{w:World}{g o:Nat}{z:Int}(h:∀(c:Nat) u,(csZ z)[c]?=some u->w.cell? ⟨g,o+c,none⟩=some u):w.cell? ⟨g,o,none⟩=some (.int .i64 z):=h 0 _ rfl
theorem infoZ:(Tryz.prog.info? 3).map (fun i=>(i.zero,i.size,i.bytes))=some (some (.int .i64 0),1,8):=by kernel_rfl
theorem below_drewN{B:Nat}{a w:World}(h:Below B a w)(n:Nat):Below B a (w.drewN n):=⟨h.os,h.tape,h.output,h.size,h.block⟩
structure Mu where
 wv:Value
 ws:List Wd
 fv:Value
 fs:List Int
 lv:Value
 ls:List Int
 ov:Value
 os:List (Value×List Int)
 em:Bool
def Mu.au(m:Mu):Au:=⟨m.ws,m.fs,m.ls,m.os.map (·.2),m.em⟩
abbrev encU(m:Mu):Value:=.agg #[m.wv,m.fv,m.lv,m.ov,.bool m.em]
abbrev csW(p:Value×List Int):List Value:=[p.1]
structure UOk (S:Nat->Prop) (w:World) (m:Mu):Prop where
 ws:TxtS S w m.wv m.ws
 wb:∀s∈m.ws,s.length<=9223372036854775807
 wl:m.ws.length<=9223372036854775806
 fs:IntZ S w m.fv m.fs
 fl:m.fs.length<=9223372036854775806
 ls:IntZ S w m.lv m.ls
 ll:m.ls.length<=9223372036854775806
 os:SlS csW 1 S w m.ov m.os
 ok:∀p∈m.os,IntZ S w p.1 p.2/\p.2.length<=9223372036854775806
 ol:m.os.length<=9223372036854775806
theorem UOk.keep{S T:Nat->Prop}{w w':World}{m:Mu}(h:UOk S w m)(hz:w.heap.size<=w'.heap.size)(hk:∀b,S b->b<w.heap.size->T b/\w'.heap[b]?=w.heap[b]?):UOk T w' m:=
 ⟨h.ws.keep hz hk,h.wb,h.wl,h.fs.keep hz hk,h.fl,h.ls.keep hz hk,h.ll,h.os.keep hz hk,fun p hp=>⟨(h.ok p hp).1.keep hz hk,(h.ok p hp).2⟩,h.ol⟩
theorem UOk.below{S:Nat->Prop}{w w':World}{m:Mu}(h:UOk S w m)(hb:Below w.heap.size w w'):UOk S w' m:=h.keep hb.size (fun b hs hl=>⟨hs,hb.block b hl⟩)
theorem UOk.slices{S:Nat->Prop}{w:World}{m:Mu}(h:UOk S w m):∃wa wc fa fc la lc oa oc,m.wv=.slice wa m.ws.length wc/\m.fv=.slice fa m.fs.length fc/\m.lv=.slice la m.ls.length lc/\m.ov=.slice oa m.os.length oc:=by
 obtain⟨wa,wc,h1⟩:=h.ws.slice;obtain⟨fa,fc,h2⟩:=h.fs.slice;obtain⟨la,lc,h3⟩:=h.ls.slice;obtain⟨oa,oc,h4⟩:=h.os.slice;exact⟨wa,wc,fa,fc,la,lc,oa,oc,h1,h2,h3,h4⟩
theorem cells5{w:World}{b:Nat}{c0 c1 c2 c3 c4:Value}{t:TypeId}(h:w.heap[b]?=some (.cells #[c0,c1,c2,c3,c4] t (0,0))):
 w.cell? ⟨b,0,none⟩=some c0/\w.cell? ⟨b,1,none⟩=some c1/\w.cell? ⟨b,2,none⟩=some c2/\w.cell? ⟨b,3,none⟩=some c3/\w.cell? ⟨b,4,none⟩=some c4:=by
 simp[World.cell?,h]
theorem pow_lt24{p:Nat}(h:p<24):2^p<16777216:=by
 have:2^p<2^24:=Nat.pow_lt_pow_right (by omega) h;simpa using this
theorem or_lt24{a b:Nat}(ha:a<16777216)(hb:b<16777216):a ||| b<16777216:=Nat.or_lt_two_pow (n:=24) ha hb
theorem bit_lt24{a k:Nat}(ha:a<16777216)(h:a.testBit k=true):k<24:=by
 apply Decidable.byContradiction;intro hk;rw[Nat.testBit_lt_two_pow (zO ha (by
  have:2^24<=2^k:=Nat.pow_le_pow_right (by omega) (by omega);simpa using this))]at h
 cases h
theorem and_pow(a k:Nat):a &&& 2^k=if a.testBit k=true then 2^k else 0:=by
 apply Nat.eq_of_testBit_eq;intro i;rw[Nat.testBit_and,Nat.testBit_two_pow];by_cases h:k=i
 . subst h;cases hb:a.testBit k<;>simp
 . split<;>simp[h]
theorem and_some{a b:Nat}(h:a &&& b≠0):∃k,a.testBit k=true/\b.testBit k=true:=by
 apply Classical.byContradiction;intro hn;apply h;apply Nat.eq_of_testBit_eq;intro i;rw[Nat.testBit_and,Nat.zero_testBit];cases ha:a.testBit i with
 |false=>rfl
 |true=>
  cases hb:b.testBit i with
  |false=>rfl
  |true=>exact absurd ⟨i,ha,hb⟩ hn
theorem and_none{a b:Nat}(h:a &&& b=0)(k:Nat)(ha:a.testBit k=true):b.testBit k=false:=by
 have:(a &&& b).testBit k=false:=by rw[h,Nat.zero_testBit]
 rw[Nat.testBit_and,ha]at this;simpa using this
def setN(L:List Int):Nat:=L.foldl (fun s z=>s ||| 2^z.toNat) 0
theorem setF_bit(k:Nat):∀(L:List Int) (s:Nat),(∀z∈L,0<=z)->((L.foldl (fun s z=>s ||| 2^z.toNat) s).testBit k=true↔s.testBit k=true\/(k:Int)∈L)
 |[],s,_=>by simp
 |z::L,s,h=>by
  rw[yN,setF_bit k L _ (fun y hy=>h y (zP _ hy)),Nat.testBit_or,Bool.or_eq_true,Nat.testBit_two_pow,decide_eq_true_eq,zX];have:=h z (zL ..);constructor
  . rintro ((h1|h1)|h1)
    . exact .inl h1
    . exact .inr (.inl (by omega))
    . exact .inr (.inr h1)
  . rintro (h1|h1|h1)
    . exact .inl (.inl h1)
    . exact .inl (.inr (by omega))
    . exact .inr h1
theorem setN_bit{L:List Int}(h:∀z∈L,0<=z)(k:Nat):(setN L).testBit k=true↔(k:Int)∈L:=by
 rw[setN,setF_bit k L 0 h];simp
theorem setF_lt:∀(L:List Int) (s:Nat),s<16777216->(∀z∈L,z<24)->L.foldl (fun s z=>s ||| 2^z.toNat) s<16777216
 |[],s,h,_=>h
 |z::L,s,h,hz=>setF_lt L _ (or_lt24 h (pow_lt24 (by have:=hz z (zL ..);omega))) (fun y hy=>hz y (zP _ hy))
theorem setN_lt{L:List Int}(h:∀z∈L,z<24):setN L<16777216:=setF_lt L 0 (by omega) h
def listN(k s:Nat):List Int:=((List.range k).filter (fun i=>s.testBit i)).map Int.ofNat
theorem listN_succ(k s:Nat):listN (k+1) s=listN k s++(if s.testBit k=true then [(k:Int)]else []):=by
 unfold listN;rw[List.range_succ,List.filter_append,yP];congr 1;by_cases h:s.testBit k=true
 . rw[if_pos h];simp[h]
 . rw[if_neg h];simp[h]
theorem listN_len(k s:Nat):(listN k s).length<=k:=by
 unfold listN;rw[zH];exact zQ (yD _ _) (by simp)
theorem listN_rise{n s:Nat}{l:List Nat}(h:∀i,s.testBit i=true↔i∈l)(hl:∀i∈l,i<n)(hn:n<=24):listN 24 s=rise n l:=by
 have key:∀m,n<=m->listN m s=rise n l:=by
  intro m;induction m with
  |zero=>
   intro hm;have:n=0:=by omega
   subst this;rfl
  |succ m ih=>
   intro hm;by_cases e:n=m+1
   . subst e;unfold listN rise;congr 1;apply List.filter_congr;intro i _;cases hb:s.testBit i with
     |true=>exact(yC ((h i).1 hb)).symm
     |false=>exact(decide_eq_false (fun hi=>by rw[(h i).2 hi]at hb;cases hb)).symm
   . rw[listN_succ,ih (by omega),if_neg (fun hb=>by have:=hl m ((h m).1 hb);omega),List.append_nil]
 exact key 24 hn
set_option maxHeartbeats 400000 in
theorem only_any(p:Nat)(w:World)(hp:p<24):
 Calls Tryz.prog 77 #[.int .i64 (p:Int)] w fun e w'=>e=.returned (.int .u32 ((2^p:Nat):Int))/\w'=w:=by
 have hq:(2:Int)^p%4294967296=(2:Int)^p:=by
  have:=pow_lt24 hp;have h2:((2:Int)^p)=((2^p:Nat):Int):=by rw[Int.natCast_pow];rfl
  rw[h2];generalize 2^p=q at this ⊢;omega
 have HQ:=zA hq;clear hq;go_enter Tryz.func77,Tryz.ntmps77;go_wp2;go_ret;exact⟨by simp[HQ.out],rfl⟩
set_option maxHeartbeats 400000 in
theorem has_any(s p:Nat)(w:World)(hs:s<16777216)(hp:p<24):
 Calls Tryz.prog 79 #[.int .u32 (s:Int),.int .i64 (p:Int)] w fun e w'=>e=.returned (.bool (s.testBit p))/\w'=w:=by
 have C:=zA (only_any p w hp);have hb:bits .and .u32 (s:Int) ((2^p:Nat):Int)=((if s.testBit p=true then 2^p else 0:Nat):Int):=by
  have:=pow_lt24 hp;rw[u32_and_nat s (2^p) (by omega) (by omega),and_pow]
 have hq:=Nat.two_pow_pos p;obtain⟨q,hqe⟩:∃q,q=2^p:=⟨_,rfl⟩
 rw[<- hqe]at C hb hq;clear hqe;cases h:s.testBit p with
 |true=>
  rw[h,if_pos rfl]at hb;have e2:((q:Int)!=0)=true:=by simp;omega
  go_enter Tryz.func79,Tryz.ntmps79;go_wp2_with fail;refine C.out.mono ?_;rintro e w1 ⟨rfl,rfl⟩;go_wp2;go_ret;exact⟨by simp_all,rfl⟩
 |false=>
  rw[h,if_neg (by decide)]at hb;go_enter Tryz.func79,Tryz.ntmps79;go_wp2_with fail;refine C.out.mono ?_;rintro e w1 ⟨rfl,rfl⟩;go_wp2;go_ret;exact⟨by simp,rfl⟩
set_option maxHeartbeats 1000000 in
theorem list_any(s:Nat)(w:World)(hs:s<16777216):
 Calls Tryz.prog 61 #[.int .u32 (s:Int)] w fun e w'=>∃v',e=.returned v'/\w'.ownsRow w.heap.size 3 1 v' (listN 24 s).length ((listN 24 s).flatMap csZ)/\Below w.heap.size w w':=by
 obtain⟨i0,hi0,hz0,hz1,hz2⟩:=info_parts infoZ;go_enter Tryz.func61,Tryz.ntmps61;go_wp2_with fail;go_loopw [3,5] (fun vl c wr=>∃(k:Nat) (u:Value),u=vl/\k<=24/\c=.int .i64 k/\wr.ownsRow w.heap.size 3 1 u (listN k s).length ((listN k s).flatMap csZ)/\Below w.heap.size w wr) (fun _ c _=>24-(intOf c).toNat)
 case atStart=>exact⟨0,_,rfl,zS _,rfl,World.ownsRow_nil _ _ _ _,zF _ _⟩
 case round=>
  obtain⟨k,u,rfl,hk,rfl,hrow,hbq⟩:=hrel;obtain⟨ua,uc,hu⟩:=own_slice hrow;obtain⟨nu,hnu⟩:∃n,n=(listN k s).length:=⟨_,rfl⟩
  rw[<- hnu]at hu;subst hu;have hnb:nu<=1000000:=by have:=listN_len k s;omega
  have HROW:=zA hrow;have HBQ:=zA hbq;have HNU:=zA hnu;have hsx:w.heap.size<=wr.heap.size:=hbq.size;clear hrow hbq hnu;by_cases hlt:k<24
  . have hltI:(k:Int)<24:=by omega
    have C:=zA (has_any s k wr hs hlt);cases hbit:s.testBit k with
    |true=>
     rw[hbit]at C;rw[HNU.out]at HROW;rw[<- HNU.out]at HROW;have HBIT:=zA hbit;clear hbit;go_wp2_with fail;refine C.out.mono ?_;rintro e w1 ⟨rfl,rfl⟩;go_wp2_with (at_builtin;refine wpList_append_lies _ rfl _ _ _ rfl w.heap.size 3 i0 _ 1 8 Tryz.underlying56 hi0 hz0 hz1 hz2 rfl (by decide) (.slice ua nu uc) _ _ (by rfl) (HROW.out.alloc _) ⟨w1.heap.size,0,none⟩ 1 1 (csZ (k:Int)) (by rfl) (by rfl) ?d1 ?d2 (by decide) ?d3 ?d4 ?d5 (w1.heap.size+1) (by simp) ?_)
     case d1=>exact World.news_of_block (cs:=#[.int .i64 (k:Int)]) (t:=3) (fr:=(0,0)) (heap_alloc_new w1 _)
     case d2=>simp[Value.oneCell']
     case d3=>unfold maxLen;have:=HNU.out;omega
     case d4=>have:=HNU.out;omega
     case d5=>simp;omega
     intro gg cap2 w9 hown9 hgrow9 hat9 hlt9;have ba:Below w1.heap.size w1 (w1.alloc (.cells #[.int .i64 (k:Int)] 3)):=(zF _ _).alloc (zD _) _;have HB9:Hid (Below w.heap.size w w9):=zA ((HBQ.out.trans (ba.mono HBQ.out.size)).grown hgrow9 (by simp;omega) (fun k e=>(HROW.out.lt k e).1));have HR9:Hid (w9.ownsRow w.heap.size 3 1 (.slice (some ⟨gg,0,none⟩) (nu+1) cap2) (listN (k+1) s).length ((listN (k+1) s).flatMap csZ)):=zA (by
      rw[listN_succ,if_pos HBIT.out,zG,<- HNU.out,zY];have h2:=hown9;simpa[csZ]using h2)
     clear hown9 hgrow9 hat9 hlt9 ba;go_wp2;go_roundw
     case rel=>exact⟨k+1,_,rfl,by omega,by go_num,HR9.out,HB9.out⟩
     case measure=>simp[intOf];omega
    |false=>
     rw[hbit]at C;have HR9:Hid (wr.ownsRow w.heap.size 3 1 (.slice ua nu uc) (listN (k+1) s).length ((listN (k+1) s).flatMap csZ)):=zA (by
      rw[listN_succ,if_neg (by rw[hbit];decide),List.append_nil];exact HROW.out)
     clear hbit;go_wp2_with fail;refine C.out.mono ?_;rintro e w1 ⟨rfl,rfl⟩;go_wp2;go_roundw
     case rel=>exact⟨k+1,_,rfl,by omega,by go_num,HR9.out,HBQ.out⟩
     case measure=>simp[intOf];omega
  . have hltI:¬(k:Int)<24:=by omega
    have hke:k=24:=by omega
    have HKE:=zA hke;clear hke;go_wp2;go_ret;refine⟨_,rfl,?_,HBQ.out⟩;rw[HKE.out]at HROW;exact HROW.out
structure Sd where
 n:Nat
 beh:Nat->Nat
 last:Nat
 steps:List (List (Nat×Nat))
 kp:Nat->Prop
structure Sd.Ok (d:Sd):Prop where
 len:d.steps.length=d.n
 beh:∀p,p<25->d.beh p<16777216
 last:d.last<33554432
 step:∀l∈d.steps,∀t∈l,t.1<d.n/\t.2<16777216
def Sd.out(d:Sd)(v:Nat):List (Nat×Nat):=d.steps.getD v []
def Sd.stp(d:Sd)(v p v' q:Nat):Prop:=(∃t∈d.out v,t.1=v'/\t.2.testBit q=true)/\(d.beh p).testBit q=true
inductive Sd.Rch (d:Sd) (st:List Nat):Nat->Nat->Prop
 |start {v:Nat}:v∈st->Sd.Rch d st v 24
 |step {v p v' q:Nat}:Sd.Rch d st v p->d.stp v p v' q->Sd.Rch d st v' q
def Sd.leads(d:Sd)(st:List Nat)(v:Nat):Prop:=∃p,d.Rch st v p/\d.last.testBit p=true
theorem Sd.Rch.mono{d:Sd}{a b:List Nat}(h:∀v∈a,v∈b){v p:Nat}(hr:d.Rch a v p):d.Rch b v p:=by
 induction hr with
 |start hv=>exact .start (h _ hv)
 |step _ hs ih=>exact .step ih hs
theorem Sd.rch_one{d:Sd}{st:List Nat}{v p:Nat}(h:d.Rch st v p):∃x∈st,d.Rch [x] v p:=by
 induction h with
 |start hv=>exact⟨_,hv,.start (zJ.2 rfl)⟩
 |step _ hs ih=>
  obtain⟨x,hx,hr⟩:=ih;exact⟨x,hx,.step hr hs⟩
theorem Sd.leads_any(d:Sd)(st:List Nat)(v:Nat):d.leads st v↔∃x∈st,d.leads [x] v:=by
 constructor
 . rintro⟨p,h,hl⟩;obtain⟨x,hx,hr⟩:=rch_one h;exact⟨x,hx,p,hr,hl⟩
 . rintro⟨x,hx,p,hr,hl⟩;exact⟨p,hr.mono (fun v hv=>by rw[zJ.1 hv];exact hx),hl⟩
structure Ss where
 came:List Nat
 fresh:List Nat
 seen:List Nat
 todo:List Nat
def sub32(a c:Nat):Nat:=a &&& (4294967295-c)
theorem bit_sub(a c p:Nat)(ha:a<33554432)(hc:c<33554432):(sub32 a c).testBit p=(a.testBit p&& !c.testBit p):=by
 unfold sub32;rw[Nat.testBit_and];by_cases hp:p<32
 . have h:(4294967295-c).testBit p= !c.testBit p:=by
    have h1:=Nat.testBit_two_pow_sub_succ (n:=32) (x:=c) (by omega) p;rw[show 2^32-(c+1)=4294967295-c by omega]at h1;rw[h1];simp[hp]
   rw[h]
 . have h:a.testBit p=false:=Nat.testBit_lt_two_pow (zO ha (by
    have:2^25<=2^p:=Nat.pow_le_pow_right (by omega) (by omega);simpa using this))
   rw[h];simp
theorem sub_lt(a c:Nat)(ha:a<33554432):sub32 a c<33554432:=Nat.lt_of_le_of_lt Nat.and_le_left ha
def Ss.come(s:Ss)(v a:Nat):Ss:=
 if sub32 a (s.came.getD v 0)=0 then s else
  ⟨s.came.set v (s.came.getD v 0 ||| sub32 a (s.came.getD v 0)),s.fresh.set v (s.fresh.getD v 0 ||| sub32 a (s.came.getD v 0)),
   if s.came.getD v 0=0 then s.seen++[v]else s.seen,if s.fresh.getD v 0=0 then s.todo++[v]else s.todo⟩
def behS(d:Sd):Nat->Nat->Nat
 |0,_=>0
 |k+1,s=>behS d k s ||| (if s.testBit k=true then d.beh k else 0)
theorem behS_bit(d:Sd)(s j:Nat):∀k,(behS d k s).testBit j=true↔∃i,i<k/\s.testBit i=true/\(d.beh i).testBit j=true
 |0=>by simp[behS]
 |k+1=>by
  rw[behS,Nat.testBit_or,Bool.or_eq_true,behS_bit d s j k];constructor
  . rintro (⟨i,hi,h⟩|h)
    . exact⟨i,by omega,h⟩
    . split at h
      . rename_i hb;exact⟨k,by omega,hb,h⟩
      . simp at h
  . rintro⟨i,hi,hb,h⟩;by_cases e:i=k
    . subst e;right;rw[if_pos hb];exact h
    . exact .inl ⟨i,by omega,hb,h⟩
def Ss.pop(s:Ss)(l:List Nat)(u:Nat):Ss:=⟨s.came,s.fresh.set u 0,s.seen,l⟩
def Ss.goOn(d:Sd)(s:Ss)(l:List Nat)(u:Nat):Ss:=(d.out u).foldl (fun s' t=>s'.come t.1 (behS d 25 (s.fresh.getD u 0) &&& t.2)) (s.pop l u)
theorem getD_set(l:List Nat)(v x u:Nat)(hv:v<l.length):(l.set v x).getD u 0=if u=v then x else l.getD u 0:=by
 simp only[List.getD,List.getElem?_set];by_cases e:v=u
 . subst e;simp[hv]
 . rw[if_neg e,if_neg (fun h=>e h.symm)]
theorem sum_set:∀(l:List Nat) (v x:Nat),v<l.length->(l.set v x).sum+l.getD v 0=l.sum+x
 |[],v,x,h=>by simp at h
 |a::l,0,x,_=>by simp[List.getD];omega
 |a::l,v+1,x,h=>by
  have:=sum_set l v x (by simpa using h);simp only[List.getD,List.set_cons_succ,List.sum_cons,List.getElem?_cons_succ]at this ⊢;omega
theorem sum_le:∀(l:List Nat),(∀x∈l,x<33554432)->l.sum<=l.length*33554432
 |[],_=>zS _
 |a::l,h=>by
  have h1:=sum_le l (fun x hx=>h x (zP _ hx));have h2:=h a (zL ..);simp only[List.sum_cons,yE];omega
theorem getD_lt{l:List Nat}(h:∀x∈l,x<33554432)(v:Nat):l.getD v 0<33554432:=by
 rw[List.getD];cases hg:l[v]? with
 |none=>exact(by decide:(0:Nat)<33554432)
 |some x=>exact h x (zC hg)
theorem or_lt25{a b:Nat}(ha:a<33554432)(hb:b<33554432):a ||| b<33554432:=Nat.or_lt_two_pow (n:=25) ha hb
theorem or_gt{a c:Nat}(ha:a<33554432)(hc:c<33554432)(h:sub32 a c≠0):c+1<=c ||| sub32 a c:=by
 have h1:c<=c ||| sub32 a c:=Nat.left_le_or;have h2:c≠c ||| sub32 a c:=by
  intro e;apply h;apply Nat.eq_of_testBit_eq;intro p;rw[Nat.zero_testBit];have h3:=congrArg (fun x=>x.testBit p) e;simp only[Nat.testBit_or,bit_sub a c p ha hc]at h3;rw[bit_sub a c p ha hc];cases hx:a.testBit p with
  |false=>rfl
  |true=>
   cases hy:c.testBit p with
   |true=>rfl
   |false=>
    rw[hx,hy]at h3;cases h3
 omega
structure Run (d:Sd) (st:List Nat) (s:Ss) (ex:Nat->Nat->Nat->Prop):Prop where
 cl:s.came.length=d.n
 fl:s.fresh.length=d.n
 cb:∀x∈s.came,x<33554432
 fb:∀x∈s.fresh,x<33554432
 sub:∀v p,(s.fresh.getD v 0).testBit p=true->(s.came.getD v 0).testBit p=true
 snd:∀v p,(s.came.getD v 0).testBit p=true->d.Rch st v p
 td:∀v,s.fresh.getD v 0≠0->v∈s.todo
 tlt:∀v∈s.todo,v<d.n
 sn:∀v,s.came.getD v 0≠0->v∈s.seen
 slt:∀v∈s.seen,v<d.n
 sn2:∀v∈s.seen,s.came.getD v 0≠0
 nd:s.seen.Nodup
 sz:s.seen.length+s.todo.length<=2*s.came.sum
 clo:∀v p,(s.came.getD v 0).testBit p=true->(s.fresh.getD v 0).testBit p=false->∀(j:Nat) t,(d.out v)[j]?=some t->¬ex v p j->∀q,t.2.testBit q=true->(d.beh p).testBit q=true->(s.came.getD t.1 0).testBit q=true
theorem come_bits(s:Ss){n:Nat}(hl:s.came.length=n)(hb:∀x∈s.came,x<33554432){v a:Nat}(hv:v<n)(ha:a<33554432)(u p:Nat):
 ((s.come v a).came.getD u 0).testBit p=true↔(s.came.getD u 0).testBit p=true\/(u=v/\a.testBit p=true):=by
 have hc:=getD_lt hb v;unfold Ss.come;split
 . rename_i h0;refine⟨.inl,?_⟩;rintro (h|⟨rfl,h⟩)
   . exact h
   . have:=bit_sub a _ p ha hc;rw[h0,Nat.zero_testBit,h]at this;simpa using this.symm
 . dsimp only;rw[getD_set _ _ _ _ (by omega)];by_cases e:u=v
   . subst e;rw[if_pos rfl,Nat.testBit_or,Bool.or_eq_true,bit_sub a _ p ha hc];constructor
     . rintro (h|h)
       . exact .inl h
       . rw[Bool.and_eq_true]at h;exact .inr ⟨rfl,h.1⟩
     . rintro (h|⟨_,h⟩)
       . exact .inl h
       . cases hq:(s.came.getD u 0).testBit p with
         |true=>exact .inl rfl
         |false=>right;rw[h];rfl
   . rw[if_neg e];simp[e]
theorem mem_set_lt{l:List Nat}{v x:Nat}(h:∀y∈l,y<33554432)(hx:x<33554432):∀y∈l.set v x,y<33554432:=fun y hy=>by
 rcases List.mem_or_eq_of_mem_set hy with hy|rfl
 . exact h y hy
 . exact hx
theorem Run.come{d:Sd}{st:List Nat}{s:Ss}{ex:Nat->Nat->Nat->Prop}(h:Run d st s ex){v a:Nat}(hv:v<d.n)(ha:a<33554432)(hs:∀q,a.testBit q=true->d.Rch st v q):Run d st (s.come v a) ex:=by
 have hbits:=fun u p=>come_bits s h.cl h.cb hv ha u p
 have hc:=getD_lt h.cb v;by_cases h0:sub32 a (s.came.getD v 0)=0
 . have e:s.come v a=s:=by unfold Ss.come;rw[if_pos h0]
   rw[e];exact h
 . have e:s.come v a=⟨s.came.set v (s.came.getD v 0 ||| sub32 a (s.came.getD v 0)),s.fresh.set v (s.fresh.getD v 0 ||| sub32 a (s.came.getD v 0)),
    if s.came.getD v 0=0 then s.seen++[v]else s.seen,if s.fresh.getD v 0=0 then s.todo++[v]else s.todo⟩:=by unfold Ss.come;rw[if_neg h0]
   have hf:∀u,(s.come v a).fresh.getD u 0=if u=v then s.fresh.getD v 0 ||| sub32 a (s.came.getD v 0)else s.fresh.getD u 0:=fun u=>by
    rw[e];exact getD_set _ _ _ _ (by rw[h.fl];exact hv)
   have hcg:∀u,(s.come v a).came.getD u 0=if u=v then s.came.getD v 0 ||| sub32 a (s.came.getD v 0)else s.came.getD u 0:=fun u=>by
    rw[e];exact getD_set _ _ _ _ (by rw[h.cl];exact hv)
   have htd:(s.come v a).todo=if s.fresh.getD v 0=0 then s.todo++[v]else s.todo:=by rw[e]
   have hsn:(s.come v a).seen=if s.came.getD v 0=0 then s.seen++[v]else s.seen:=by rw[e]
   refine⟨by rw[e];simp[h.cl],by rw[e];simp[h.fl],?_,?_,?_,?_,?_,?_,?_,?_,?_,?_,?_,?_⟩
   . rw[e];exact mem_set_lt h.cb (or_lt25 hc (sub_lt _ _ ha))
   . rw[e];exact mem_set_lt h.fb (or_lt25 (getD_lt h.fb v) (sub_lt _ _ ha))
   . intro u p hp;rw[hf]at hp;rw[hbits];split at hp
     . rename_i eu;subst eu;rw[Nat.testBit_or,Bool.or_eq_true,bit_sub a _ p ha hc]at hp;rcases hp with hp|hp
       . exact .inl (h.sub u p hp)
       . rw[Bool.and_eq_true]at hp;exact .inr ⟨rfl,hp.1⟩
     . exact .inl (h.sub u p hp)
   . intro u p hp;rcases (hbits u p).1 hp with h1|⟨h1,h2⟩
     . exact h.snd u p h1
     . rw[h1];exact hs p h2
   . intro u hu;rw[hf]at hu;rw[htd];by_cases eu:u=v
     . subst eu;split
       . simp
       . rename_i hne;exact h.td u hne
     . rw[if_neg eu]at hu;split
       . exact yI _ (h.td u hu)
       . exact h.td u hu
   . intro u hu;rw[htd]at hu;split at hu
     . rcases zN.1 hu with hu|hu
       . exact h.tlt u hu
       . rw[zJ.1 hu];exact hv
     . exact h.tlt u hu
   . intro u hu;rw[hcg]at hu;rw[hsn];by_cases eu:u=v
     . subst eu;split
       . simp
       . rename_i hne;exact h.sn u hne
     . rw[if_neg eu]at hu;split
       . exact yI _ (h.sn u hu)
       . exact h.sn u hu
   . intro u hu;rw[hsn]at hu;split at hu
     . rcases zN.1 hu with hu|hu
       . exact h.slt u hu
       . rw[zJ.1 hu];exact hv
     . exact h.slt u hu
   . intro u hu;have h2:=or_gt ha hc h0;rw[hcg];by_cases eu:u=v
     . rw[if_pos eu];omega
     . rw[if_neg eu];rw[hsn]at hu;split at hu
       . rcases zN.1 hu with hu|hu
         . exact h.sn2 u hu
         . exact absurd (zJ.1 hu) eu
       . exact h.sn2 u hu
   . rw[hsn];split
     . rename_i hc0;rw[List.nodup_append];refine⟨h.nd,by simp,fun x hx y hy exy=>?_⟩;rw[zJ.1 hy]at exy;subst exy;exact h.sn2 x hx hc0
     . exact h.nd
   . have h1:=sum_set s.came v (s.came.getD v 0 ||| sub32 a (s.came.getD v 0)) (by rw[h.cl];exact hv);have h2:=or_gt ha hc h0;have h3:=h.sz;have h4:(s.come v a).came.sum=(s.came.set v (s.came.getD v 0 ||| sub32 a (s.came.getD v 0))).sum:=by rw[e]
     have h5:(s.come v a).todo.length<=s.todo.length+1:=by rw[htd];split<;>simp
     have h6:(s.come v a).seen.length<=s.seen.length+1:=by rw[hsn];split<;>simp
     omega
   . intro u p hp hn j t ht hex q hq hb;rw[hbits];rw[hf]at hn;have hpo:(s.came.getD u 0).testBit p=true/\(s.fresh.getD u 0).testBit p=false:=by
      by_cases eu:u=v
      . subst eu;rw[if_pos rfl,Nat.testBit_or,bit_sub a _ p ha hc,Bool.or_eq_false_iff]at hn;refine⟨?_,hn.1⟩;rcases (hbits u p).1 hp with hp|⟨_,hp⟩
        . exact hp
        . have:=hn.2;rw[hp]at this;simpa using this
      . rw[if_neg eu]at hn;refine⟨?_,hn⟩;rcases (hbits u p).1 hp with hp|⟨h2,_⟩
        . exact hp
        . exact absurd h2 eu
     exact .inl (h.clo u p hpo.1 hpo.2 j t ht hex q hq hb)
def mu(s:Ss):Nat:=2*(s.came.length*33554432-s.came.sum)+s.todo.length
theorem mu_come{d:Sd}{st:List Nat}{s:Ss}{ex:Nat->Nat->Nat->Prop}(h:Run d st s ex){v a:Nat}(hv:v<d.n)(ha:a<33554432):mu (s.come v a)<=mu s:=by
 have hc:=getD_lt h.cb v;by_cases h0:sub32 a (s.came.getD v 0)=0
 . have e:s.come v a=s:=by unfold Ss.come;rw[if_pos h0]
   rw[e];exact zD _
 . have e:s.come v a=⟨s.came.set v (s.came.getD v 0 ||| sub32 a (s.came.getD v 0)),s.fresh.set v (s.fresh.getD v 0 ||| sub32 a (s.came.getD v 0)),
    if s.came.getD v 0=0 then s.seen++[v]else s.seen,if s.fresh.getD v 0=0 then s.todo++[v]else s.todo⟩:=by unfold Ss.come;rw[if_neg h0]
   have h1:=sum_set s.came v (s.came.getD v 0 ||| sub32 a (s.came.getD v 0)) (by rw[h.cl];exact hv);have h2:=or_gt ha hc h0;have h5:(s.come v a).todo.length<=s.todo.length+1:=by rw[e];dsimp only;split<;>simp
   have h4:(s.come v a).came.sum=(s.came.set v (s.came.getD v 0 ||| sub32 a (s.came.getD v 0))).sum:=by rw[e]
   have h7:(s.come v a).came.length=s.came.length:=by rw[e];simp
   have h8:=sum_le (s.come v a).came (by rw[e];exact mem_set_lt h.cb (or_lt25 hc (sub_lt _ _ ha)));unfold mu;rw[h7]at h8 ⊢;omega
theorem Run.ex{d:Sd}{st:List Nat}{s:Ss}{ex ex':Nat->Nat->Nat->Prop}(h:Run d st s ex)(he:∀v p j,j<(d.out v).length->ex v p j->ex' v p j):Run d st s ex':=
 { h with clo:=fun v p hp hn j t ht hx=>h.clo v p hp hn j t ht (fun h2=>hx (he v p j (zE.1 ht).1 h2)) }
def exN:Nat->Nat->Nat->Prop:=fun _ _ _=>False
def exU(u F i:Nat):Nat->Nat->Nat->Prop:=fun v p j=>v=u/\F.testBit p=true/\i<=j
theorem Run.pop{d:Sd}{st:List Nat}{s:Ss}{l:List Nat}{u:Nat}(h:Run d st s exN)(ht:s.todo=l++[u]):Run d st (s.pop l u) (exU u (s.fresh.getD u 0) 0):=by
 have hu:u<d.n:=h.tlt u (by rw[ht];simp);have hf:∀v,(s.pop l u).fresh.getD v 0=if v=u then 0 else s.fresh.getD v 0:=fun v=>getD_set _ _ _ _ (by rw[h.fl];exact hu)
 refine⟨h.cl,by simp[Ss.pop,h.fl],h.cb,mem_set_lt h.fb (by omega),?_,h.snd,?_,fun v hv=>h.tlt v (by rw[ht];exact yI _ hv),h.sn,h.slt,h.sn2,h.nd,?_,?_⟩
 . intro v p hp;rw[hf]at hp;split at hp
   . simp at hp
   . exact h.sub v p hp
 . intro v hv;rw[hf]at hv;split at hv
   . exact absurd rfl hv
   . rename_i hne;have:=h.td v hv;rw[ht]at this;rcases zN.1 this with h1|h1
     . exact h1
     . exact absurd (zJ.1 h1) hne
 . have:=h.sz;rw[ht,zG]at this;show s.seen.length+l.length<=2*s.came.sum;omega
 . intro v p hp hn j t htt hex q hq hb;refine h.clo v p hp ?_ j t htt (fun x=>x) q hq hb;rw[hf]at hn;by_cases e:v=u
   . subst e;cases hx:(s.fresh.getD v 0).testBit p with
     |false=>rfl
     |true=>exact absurd ⟨rfl,hx,zS _⟩ hex
   . rw[if_neg e]at hn;exact hn
theorem mu_pop{s:Ss}{l:List Nat}{u:Nat}(ht:s.todo=l++[u]):mu (s.pop l u)<mu s:=by
 unfold mu;show 2*(s.came.length*33554432-s.came.sum)+l.length<_;rw[ht,zG];simp
theorem Run.step{d:Sd}(hd:d.Ok){st:List Nat}{s:Ss}{u F i:Nat}{t:Nat×Nat}(h:Run d st s (exU u F i))(hF:∀p,F.testBit p=true->d.Rch st u p)(hFl:F<33554432)(ht:(d.out u)[i]?=some t):
 Run d st (s.come t.1 (behS d 25 F &&& t.2)) (exU u F (i+1))/\mu (s.come t.1 (behS d 25 F &&& t.2))<=mu s:=by
 have hmem:∃l∈d.steps,t∈l:=by
  unfold Sd.out at ht;rw[List.getD]at ht;cases hg:d.steps[u]? with
  |none=>rw[hg]at ht;simp at ht
  |some l=>rw[hg]at ht;exact⟨l,zC hg,zC ht⟩
 obtain⟨l,hl,hm⟩:=hmem;obtain⟨h1,h2⟩:=hd.step l hl t hm;have ha:behS d 25 F &&& t.2<33554432:=Nat.lt_of_le_of_lt Nat.and_le_right (by omega);have hs:∀q,(behS d 25 F &&& t.2).testBit q=true->d.Rch st t.1 q:=fun q hq=>by
  rw[Nat.testBit_and,Bool.and_eq_true,behS_bit]at hq;obtain⟨⟨p,_,hp,hb⟩,hq⟩:=hq;exact .step (hF p hp) ⟨⟨t,zC ht,rfl,hq⟩,hb⟩
 refine⟨?_,mu_come h h1 ha⟩;have hr:=h.come h1 ha hs;refine { hr with clo:=fun v p hp hn j t' ht' hex q hq hb=>?_ };by_cases e:v=u/\F.testBit p=true/\j=i
 . obtain⟨rfl,hFp,rfl⟩:=e;rw[ht]at ht';injection ht' with ht';subst ht';rw[come_bits s h.cl h.cb h1 ha];refine .inr ⟨rfl,?_⟩;rw[Nat.testBit_and,Bool.and_eq_true,behS_bit];refine⟨⟨p,?_,hFp,hb⟩,hq⟩;apply Decidable.byContradiction;intro hge;rw[Nat.testBit_lt_two_pow (zO hFl (by
    have:2^25<=2^p:=Nat.pow_le_pow_right (by omega) (by omega);simpa using this))]at hFp
   cases hFp
 . exact hr.clo v p hp hn j t' ht' (fun hx=>hex ⟨hx.1,hx.2.1,by
    have:=hx.2.2;rcases Nat.lt_or_ge i j with h3|h3
    . exact h3
    . exact absurd ⟨hx.1,hx.2.1,by omega⟩ e⟩) q hq hb
theorem Run.done{d:Sd}{st:List Nat}{s:Ss}(h:Run d st s exN)(hb:∀v∈st,(s.came.getD v 0).testBit 24=true)(ht:s.todo=[])(v p:Nat):(s.came.getD v 0).testBit p=true↔d.Rch st v p:=by
 refine⟨h.snd v p,fun hr=>?_⟩;have hf:∀v,s.fresh.getD v 0=0:=fun v=>by
  apply Decidable.byContradiction;intro hne;have:=h.td v hne;rw[ht]at this;simp at this
 induction hr with
 |start hv=>exact hb _ hv
 |step _ hs ih=>
  obtain⟨⟨t,htm,rfl,hq⟩,hbe⟩:=hs;obtain⟨j,hj⟩:=List.getElem?_of_mem htm;exact h.clo _ _ ih (by rw[hf];simp) j t hj (fun x=>x) _ hq hbe
structure Rest (d:Sd) (s:Ss):Prop where
 cl:s.came.length=d.n
 fl:s.fresh.length=d.n
 cb:∀x∈s.came,x<33554432
 fz:∀v,s.fresh.getD v 0=0
 td:s.todo=[]
 sn:∀v,s.came.getD v 0≠0->v∈s.seen
 slt:∀v∈s.seen,v<d.n
 sn2:∀v∈s.seen,s.came.getD v 0≠0
 nd:s.seen.Nodup
 sz:s.seen.length<=d.n*67108864
theorem Run.rest{d:Sd}{st:List Nat}{s:Ss}(h:Run d st s exN)(ht:s.todo=[]):Rest d s:=
 ⟨h.cl,h.fl,h.cb,fun v=>by
  apply Decidable.byContradiction;intro hne;have:=h.td v hne;rw[ht]at this;simp at this,ht,h.sn,h.slt,h.sn2,h.nd,by
  have h1:=h.sz;have h2:=sum_le s.came h.cb;rw[h.cl]at h2;omega⟩
def clearL(c:List Nat)(l:List Nat):List Nat:=l.foldl (fun c v=>c.set v 0) c
theorem clearL_len:∀(l c:List Nat),(clearL c l).length=c.length
 |[],c=>rfl
 |v::l,c=>by
  show (clearL (c.set v 0) l).length=_;rw[clearL_len l];simp
theorem clearL_get:∀(l c:List Nat) (u:Nat),(∀v∈l,v<c.length)->(clearL c l).getD u 0=if u∈l then 0 else c.getD u 0
 |[],c,u,_=>by simp[clearL]
 |v::l,c,u,h=>by
  show (clearL (c.set v 0) l).getD u 0=_;rw[clearL_get l _ u (fun x hx=>by rw[List.length_set];exact h x (zP _ hx)),getD_set _ _ _ _ (h v (zL ..))];by_cases e1:u∈l
  . rw[if_pos e1,if_pos (zP _ e1)]
  . rw[if_neg e1];by_cases e2:u=v
    . rw[if_pos e2,if_pos (by rw[e2];exact zL ..)]
    . rw[if_neg e2,if_neg (fun h=>by rcases zX.1 h with h|h<;>contradiction)]
theorem zero_of_getD{l:List Nat}(h:∀v,l.getD v 0=0):∀x∈l,x=0:=fun x hx=>by
 obtain⟨i,hi⟩:=List.getElem?_of_mem hx;have:=h i;rw[List.getD,hi]at this;exact this
theorem Rest.clear{d:Sd}{s:Ss}(h:Rest d s)(st:List Nat):Run d st ⟨clearL s.came s.seen,s.fresh,[],[]⟩ exN:=by
 have hz:∀v,(clearL s.came s.seen).getD v 0=0:=fun v=>by
  rw[clearL_get _ _ _ (fun x hx=>by rw[h.cl];exact h.slt x hx)];by_cases e:v∈s.seen
  . rw[if_pos e]
  . rw[if_neg e];apply Decidable.byContradiction;intro hne;exact e (h.sn v hne)
 refine⟨by rw[clearL_len];exact h.cl,h.fl,fun x hx=>by rw[zero_of_getD hz x hx];omega,fun x hx=>by rw[zero_of_getD h.fz x hx];omega,fun v p hp=>?_,fun v p hp=>?_,fun v hv=>absurd (h.fz v) hv,by simp,fun v hv=>absurd (hz v) hv,by simp,by simp,by simp,by simp,fun v p hp=>?_⟩
 . rw[h.fz v]at hp;simp at hp
 . rw[hz v]at hp;simp at hp
 . rw[hz v]at hp;simp at hp
theorem Run.start{d:Sd}{st:List Nat}{s:Ss}(h:Run d st s exN){v:Nat}(hv:v∈st)(hn:v<d.n):Run d st (s.come v 16777216) exN:=
 h.come hn (by omega) (fun q hq=>by
  have:q=24:=by
   have h2:=Nat.testBit_two_pow (n:=24) (m:=q);rw[show 2^24=16777216 by rfl,hq]at h2;have:=of_decide_eq_true h2.symm;omega
  subst this;exact .start hv)
theorem bit24:(16777216:Nat).testBit 24=true:=by decide
theorem getTx{w:World}{g o:Nat}{s:List UInt8}(h:∀(c:Nat) u,(csT s)[c]?=some u->w.cell? ⟨g,o+c,none⟩=some u):w.cell? ⟨g,o,none⟩=some (.string ⟨s.toArray⟩):=h 0 _ rfl
theorem goodF_len{n:Nat}:∀(l:List Int) (b:Int),b+1<=n->goodF n b l=true->b+1+l.length<=n
 |[],b,hb,_=>by simpa using hb
 |x::l,b,hb,h=>by
  simp only[goodF,Bool.and_eq_true,decide_eq_true_eq]at h;have:=goodF_len l x (by omega) h.2;simp only[yE];omega
theorem goodL_len{n:Nat}{l:List Int}(h:goodL n l=true):l.length<=n:=by
 have:=goodF_len l (-1) (by omega) h;omega
theorem may_first{a:Au}(h:mayA a=true):goodL a.words.length a.first=true:=by
 simp only[mayA,Bool.and_eq_true,decide_eq_true_eq]at h;exact h.1.1.1.2
theorem may_last{a:Au}(h:mayA a=true):goodL a.words.length a.last=true:=by
 simp only[mayA,Bool.and_eq_true,decide_eq_true_eq]at h;exact h.1.1.2
theorem may_len{a:Au}(h:mayA a=true):a.words.length<=24/\a.follow.length=a.words.length:=by
 simp only[mayA,Bool.and_eq_true,decide_eq_true_eq]at h;exact h.1.1.1.1
theorem may_follow{a:Au}(h:mayA a=true){l:List Int}(hl:l∈a.follow):goodL a.words.length l=true:=by
 simp only[mayA,Bool.and_eq_true,decide_eq_true_eq,yJ]at h;exact h.2 l hl
end Go.Proofs.YtdalcipmpelifaaGreatDoor
