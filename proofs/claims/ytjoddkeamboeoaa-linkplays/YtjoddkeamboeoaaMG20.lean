/- WRRead, WRReadI, WSameA. -/
import Derived.Test.YtjoddkeamboeoaaMG19
set_option maxRecDepth 100000
namespace Go.Proofs.Ytjoddkeamboeoaa
open Go.RowKit
theorem many_none_mono{α:Type}{p:List UInt8->Option (α×List UInt8)}{l:List UInt8}{i:Nat}(h:many p i l=none):∀j,i<=j->many p j l=none
 |0,hj=>by
  have:i=0:=by omega
  rw[this]at h;exact h
 |j+1,hj=>by
  rcases Nat.lt_or_ge i (j+1)with h2|h2
  . rw[many,many_none_mono h j (by omega)];rfl
  . have:i=j+1:=by omega
    rw[<- this];exact h
def readT(k:Int)(ns:List Int)(l:List UInt8):Option NoteD:=
 (listQ l).bind fun ts=>(numQ ts.2).bind fun m=>if 4096<m.1 then none else (many listQ m.1 m.2).bind fun rs=>
  if rs.2=[]/\(NoteD.mk k ns ts.1 rs.1).numsOk/\(NoteD.mk k ns ts.1 rs.1).textsOk then some ⟨k,ns,ts.1,rs.1⟩else none
def Phase(l:List UInt8)(xs:List Nat)(at_:Nat)(want:Nat):Prop:=
 (xs=[]/\at_=0/\want=2)\/
 (∃k,xs=[k]/\numQ l=some (k,l.drop at_)/\want=2)\/
 (∃k c l1 l2 ns,xs=k::c::ns/\numQ l=some (k,l1)/\numQ l1=some (c,l2)/\c<=64/\ns.length<=c/\want=2+c/\many numQ ns.length l2=some (ns,l.drop at_))
theorem readP_none1{l:List UInt8}(h:numQ l=none):readP l=none:=by unfold readP;rw[h];rfl
theorem readP_none2{l l1:List UInt8}{k:Nat}(h:numQ l=some (k,l1))(h2:numQ l1=none):readP l=none:=by
 unfold readP;rw[h];simp only[Option.bind_some];rw[h2];rfl
theorem readP_many{l l1 l2:List UInt8}{k c:Nat}(h:numQ l=some (k,l1))(h2:numQ l1=some (c,l2))(hc:64<c):readP l=none:=by
 unfold readP;rw[h];simp only[Option.bind_some];rw[h2];simp only[Option.bind_some];rw[if_pos hc]
theorem readP_none3{l l1 l2:List UInt8}{k c i:Nat}(h:numQ l=some (k,l1))(h2:numQ l1=some (c,l2))(hi:i<=c)(h3:many numQ i l2=none):readP l=none:=by
 unfold readP;rw[h];simp only[Option.bind_some];rw[h2];simp only[Option.bind_some];split
 . rfl
 . rw[many_none_mono h3 c hi];rfl
theorem readP_T{l l1 l2 l3:List UInt8}{k c:Nat}{ns:List Nat}(h:numQ l=some (k,l1))(h2:numQ l1=some (c,l2))(hc:c<=64)(h3:many numQ c l2=some (ns,l3)):readP l=readT k (ns.map Int.ofNat) l3:=by
 unfold readP readT;rw[h];simp only[Option.bind_some];rw[h2];simp only[Option.bind_some];rw[if_neg (by omega),h3];rfl
theorem phase_none{l:List UInt8}{xs:List Nat}{at_ want:Nat}(h:Phase l xs at_ want)(hlt:xs.length<want)(hn:numQ (l.drop at_)=none):readP l=none:=by
 rcases h with⟨rfl,rfl,rfl⟩|⟨k,rfl,h1,rfl⟩|⟨k,c,l1,l2,ns,rfl,h1,h2,hc,hns,rfl,h3⟩
 . exact readP_none1 (by simpa using hn)
 . exact readP_none2 h1 hn
 . simp only[zR]at hlt;refine readP_none3 (i:=ns.length+1) h1 h2 (by omega) ?_;rw[many,h3];simp only[Option.bind_some];rw[hn];rfl
theorem phase_step{l:List UInt8}{xs:List Nat}{at_ want x k:Nat}(h:Phase l xs at_ want)(hlt:xs.length<want)(hn:numQ (l.drop at_)=some (x,(l.drop at_).drop k)):
 (xs.length+1≠2/\Phase l (xs++[x]) (at_+k) want)\/(xs.length+1=2/\64<x/\readP l=none)\/(xs.length+1=2/\x<=64/\Phase l (xs++[x]) (at_+k) (2+x)):=by
 rw[List.drop_drop]at hn;rcases h with⟨rfl,rfl,rfl⟩|⟨k0,rfl,h1,rfl⟩|⟨k0,c,l1,l2,ns,rfl,h1,h2,hc,hns,rfl,h3⟩
 . left;refine⟨by simp,.inr (.inl ⟨x,rfl,?_,rfl⟩)⟩;rw[List.drop_zero]at hn;exact hn
 . right;by_cases hx:64<x
   . exact .inl ⟨rfl,hx,readP_many h1 hn hx⟩
   . exact .inr ⟨rfl,by omega,.inr (.inr ⟨k0,x,_,_,[],rfl,h1,hn,by omega,zO _,rfl,rfl⟩)⟩
 . left;simp only[zR]at hlt;refine⟨by simp,.inr (.inr ⟨k0,c,l1,l2,ns++[x],rfl,h1,h2,hc,by rw[zE,List.length_singleton];omega,rfl,?_⟩)⟩;rw[zE,List.length_singleton,many,h3];simp only[Option.bind_some];rw[hn];rfl
theorem phase_end{l:List UInt8}{xs:List Nat}{at_ want:Nat}(h:Phase l xs at_ want)(hge:¬xs.length<want):∃k ns,∃c:Nat,xs=k::c::ns/\ns.length<=64/\readP l=readT k (ns.map Int.ofNat) (l.drop at_):=by
 rcases h with⟨rfl,rfl,rfl⟩|⟨k,rfl,h1,rfl⟩|⟨k,c,l1,l2,ns,rfl,h1,h2,hc,hns,rfl,h3⟩
 . simp at hge
 . simp at hge
 . simp only[zR]at hge;have e:ns.length=c:=by omega
   rw[e]at h3;exact⟨k,ns,c,rfl,by omega,readP_T h1 h2 hc h3⟩
theorem phase_le{l:List UInt8}{xs:List Nat}{at_ want:Nat}(h:Phase l xs at_ want):xs.length<=66/\want<=66:=by
 rcases h with⟨rfl,rfl,rfl⟩|⟨k,rfl,h1,rfl⟩|⟨k,c,l1,l2,ns,rfl,h1,h2,hc,hns,rfl,h3⟩
 . simp
 . simp
 . simp only[zR];omega
theorem numQ_of{l:List UInt8}{x k:Nat}(h:numP l=(x,k,0)):numQ l=some (x,l.drop k):=by unfold numQ;rw[h];simp
theorem numQ_bad{l:List UInt8}{x k e:Nat}(h:numP l=(x,k,e))(he:e≠0):numQ l=none:=by unfold numQ;rw[h];exact if_neg he
theorem listQ_of{l:List UInt8}{x:List (List UInt8)}{k:Nat}(h:listP l=(x,k,0)):listQ l=some (x,l.drop k):=by unfold listQ;rw[h];simp
theorem listQ_bad{l:List UInt8}{x:List (List UInt8)}{k e:Nat}(h:listP l=(x,k,e))(he:e≠0):listQ l=none:=by unfold listQ;rw[h];exact if_neg he
theorem readT_none1{k:Int}{ns:List Int}{l:List UInt8}(h:listQ l=none):readT k ns l=none:=by unfold readT;rw[h];rfl
theorem readT_none2{k:Int}{ns:List Int}{l l4:List UInt8}{ts:List (List UInt8)}(h:listQ l=some (ts,l4))(h2:numQ l4=none):readT k ns l=none:=by
 unfold readT;rw[h];simp only[Option.bind_some];rw[h2];rfl
theorem readT_many{k:Int}{ns:List Int}{l l4 l5:List UInt8}{ts:List (List UInt8)}{m:Nat}(h:listQ l=some (ts,l4))(h2:numQ l4=some (m,l5))(hm:4096<m):readT k ns l=none:=by
 unfold readT;rw[h];simp only[Option.bind_some];rw[h2];simp only[Option.bind_some];rw[if_pos hm]
theorem readT_none3{k:Int}{ns:List Int}{l l4 l5:List UInt8}{ts:List (List UInt8)}{m i:Nat}(h:listQ l=some (ts,l4))(h2:numQ l4=some (m,l5))(hi:i<=m)(h3:many listQ i l5=none):readT k ns l=none:=by
 unfold readT;rw[h];simp only[Option.bind_some];rw[h2];simp only[Option.bind_some];split
 . rfl
 . rw[many_none_mono h3 m hi];rfl
theorem readT_end{k:Int}{ns:List Int}{l l4 l5 l6:List UInt8}{ts:List (List UInt8)}{m:Nat}{rs:List (List (List UInt8))}(h:listQ l=some (ts,l4))(h2:numQ l4=some (m,l5))(hm:m<=4096)(h3:many listQ m l5=some (rs,l6)):
 readT k ns l=if l6=[]/\(NoteD.mk k ns ts rs).shaped then some ⟨k,ns,ts,rs⟩else none:=by
 unfold readT;rw[h];simp only[Option.bind_some];rw[h2];simp only[Option.bind_some];rw[if_neg (by omega),h3];rfl
structure QInv (b:Nat) (w0 w:World) (kind:Int) (vn vt vr:Value) (nums:List Int) (texts:List (List UInt8)) (rows:List (List (List UInt8))):Prop where
 res:w.heap[b]?=some (.cells #[.int .i64 0,.slice none 0 0,.slice none 0 0,.slice none 0 0] 36 (0,0))
 nb:w.heap[b+1]?=some (.cells #[.int .i64 kind,vn,vt,vr] 36 (0,0))
 on:RowIn w (b+2) 3 vn (intCs nums)
 ot:w.ownsRow (b+2) 9 1 vt texts.length (strCs texts)
 orr:RowsOwn w (b+2) vr rows
 bel:Below b w0 w
section
variable {b:Nat} {w0 w w':World} {kind:Int} {vn vt vr:Value} {nums:List Int} {texts:List (List UInt8)} {rows:List (List (List UInt8))}
theorem QInv.below(h:QInv b w0 w kind vn vt vr nums texts rows)(hb:Below w.heap.size w w'):QInv b w0 w' kind vn vt vr nums texts rows:=by
 obtain⟨h1,h2,h3,h4,h5,h6⟩:=h;exact⟨(hb.block _ (lt_of_block h1)).trans h1,(hb.block _ (lt_of_block h2)).trans h2,h3.kept (fun g cur fz _ hg=>(hb.block g (lt_of_block hg)).trans hg),ownsRow_below h4 hb,rowsOwn_below h5 hb,h6.trans (hb.mono (by have:=lt_of_block h2;omega))⟩
theorem QInv.setTexts(h:QInv b w0 w kind vn vt vr nums texts rows){v:Value}{ts:List (List UInt8)}(hv:w.ownsRow (b+2) 9 1 v ts.length (strCs ts)):QInv b w0 (w.setCell ⟨b+1,2,none⟩ v) kind vn v vr nums ts rows:=by
 obtain⟨h1,h2,h3,h4,h5,h6⟩:=h;exact⟨(zK w ⟨b+1,2,none⟩ _ _ (by simp only;omega)).trans h1,four_set2 h2,h3.kept (fun g cur fz hB hg=>(zK w ⟨b+1,2,none⟩ v g (by simp only;omega)).trans hg),owns_set hv (by omega),rowsOwn_set h5 (by omega),h6.setCell (by simp only;omega) _⟩
theorem RowIn.grown{B B' m:Nat}{e e':TypeId}{u v:Value}{size:Nat}{xs ys:List Value}(h:RowIn w B e v xs)(hu:w.ownsRow B' e' size u m ys)(hg:w.grownBy w' u.ownBlock)(hne:e≠e'):RowIn w' B e v xs:=
 h.kept (fun g cur fz _ hg2=>(hg.block g (lt_of_block hg2) (by
  rcases hu.2 with⟨rfl,_⟩|⟨g',cap',cur',rfl,f2,f3,f4⟩
  . simp[Value.ownBlock]
  . simp only[Value.ownBlock,ne_eq,Option.some.injEq];intro hgg;subst hgg;rw[hg2]at f3;simp only[Option.some.injEq,Obj.cells.injEq]at f3;exact hne f3.2.1)).trans hg2)
theorem QInv.addRow(h:QInv b w0 w kind vn vt vr nums texts rows){vs:List Value}(h6:w.ownsRow (b+2) 27 1 vr rows.length vs)(hl:vs.length=rows.length)
 (h8:∀(j:Nat) x r,vs[j]?=some x->rows[j]?=some r->w.ownsRow (b+2) 9 1 x r.length (strCs r)) {v x:Value} {l:List (List UInt8)} (hx:w.ownsRow (b+2) 9 1 x l.length (strCs l))
 (hg:w.grownBy w' vr.ownBlock) (hv:w'.ownsRow (b+2) 27 1 v (rows.length+1) (vs++[x])):
 QInv b w0 (w'.setCell ⟨b+1,3,none⟩ v) kind vn vt v nums texts (rows++[l]):=by
 obtain⟨h1,h2,h3,h4,_,h9⟩:=h;have low:∀ {k o},k<b+2->w.heap[k]?=some o->w'.heap[k]?=some o:=fun hk ho=>grown_low h6 hg hk ho
 have hrows:RowsOwn w' (b+2) v (rows++[l]):=by
  refine⟨vs++[x],by simpa using hv,by simp[hl],?_⟩;intro j y r hy hr;rcases Nat.lt_or_ge j vs.length with hj|hj
  . rw[zV hj]at hy;rw[zV (by omega)]at hr;exact owns_other (h8 j y r hy hr) h6 hg (by decide)
  . have hj2:j=vs.length:=by
     have:=(zG.1 hy).1;simp at this;omega
    subst hj2;rw[zT (zC _)]at hy;rw[zT (by omega)]at hr;simp only[Nat.sub_self,hl]at hy hr;simp at hy hr;subst hy hr;exact owns_other hx h6 hg (by decide)
 have h3':=h3.grown h6 hg (by decide);refine⟨(zK w' ⟨b+1,3,none⟩ _ _ (by simp only;omega)).trans (low (by omega) h1),four_set3 (low (by omega) h2),h3'.kept (fun g cur fz hB hg=>(zK w' ⟨b+1,3,none⟩ v g (by simp only;omega)).trans hg),
  owns_set (owns_other h4 h6 hg (by decide)) (by omega),rowsOwn_set hrows (by omega),(h9.grown hg (by have:=lt_of_block h2;omega) (fun k hk=>by have:=own_ge h6 hk;omega)).setCell (by simp only;omega) _⟩
theorem QInv.done(h:QInv b w0 w kind vn vt vr nums texts rows)(u0 u1 u2 u3:Value)(h1:nums.length<=64)(h2:texts.length<=4096)(h3:rows.length<=4096)(h4:∀r∈rows,r.length<=4096):
 NoteOwn (set4 w b u0 u1 u2 u3) b (.agg #[.int .i64 kind,vn,vt,vr]) ⟨kind,nums,texts,rows⟩/\Below b w0 (set4 w b u0 u1 u2 u3):=by
 have hno:NoteOwn w (b+2) (.agg #[.int .i64 kind,vn,vt,vr]) ⟨kind,nums,texts,rows⟩:=⟨vn,vt,vr,rfl,h.on,h.ot,h.orr,h1,h2,h3,h4⟩
 exact⟨(set4_own hno (b:=b) (by omega) u0 u1 u2 u3).base (by omega),set4_below h.bel (zC _) _ _ _ _⟩
theorem QInv.note(h:QInv b w0 w kind vn vt vr nums texts rows)(h1:nums.length<=64)(h2:texts.length<=4096)(h3:rows.length<=4096)(h4:∀r∈rows,r.length<=4096):
 NoteAt w (.agg #[.int .i64 kind,vn,vt,vr]) ⟨kind,nums,texts,rows⟩:=NoteOwn.at_ (B:=b+2) ⟨vn,vt,vr,rfl,h.on,h.ot,h.orr,h1,h2,h3,h4⟩
end
theorem rowIn_tail{w:World}{B g cap:Nat}{k c:Int}{ns:List Int}(h:w.ownsRow B 3 1 (.slice (some ⟨g,0,none⟩) (k::c::ns).length cap) (k::c::ns).length (intCs (k::c::ns)))(ad:Option Addr)(hc:cap≠2->ad=some ⟨g,2,none⟩)(cp:Nat):
 RowIn w B 3 (.slice ad ns.length cp) (intCs ns):=by
 rcases h.2 with⟨h0,_⟩|⟨g',cap',cur,e1,e2,e3,e4,e5,e6,e7⟩
 . simp at h0
 . simp only[Value.slice.injEq,Option.some.injEq,Addr.mk.injEq,and_true,true_and]at e1;obtain⟨rfl,rfl⟩:=e1;by_cases hn:ns=[]
   . subst hn;exact .inl ⟨ad,cp,rfl,rfl⟩
   . have hp:0<ns.length:=List.length_pos_iff.2 hn;have hcap:cap≠2:=by simp only[zR]at e4;omega
     rw[hc hcap];refine .inr ⟨g,2,cp,cur,(0,0),by rw[intCs_len],e2,e3,fun j x hx=>?_⟩;have hx2:(intCs (k::c::ns))[2+j]?=some x:=by
      rw[show 2+j=j+2 by omega];exact hx
     rw[<- e7,List.getElem?_take]at hx2;split at hx2
     . simpa using hx2
     . simp at hx2
set_option maxHeartbeats 1000000 in
theorem sameAll_any(va vb:Value)(xs ys:List NoteD)(w:World)(ha:NotesAt w va xs)(hb:NotesAt w vb ys):
 Calls Try.prog 21 #[va,vb] w fun e w'=>e=.returned (.bool (decide (xs=ys)))/\Below w.heap.size w w':=by
 obtain⟨la,aa,ca,rfl,ha⟩:=ha;obtain⟨lb,ab,cb,rfl,hb⟩:=hb;by_cases hl:xs.length=ys.length
 . have HA:=zA ha;have HB:=zA hb;have HL:=zA hl;rw[<- hl];clear ha hb hl;go_enter Try.func21,Try.ntmps21;go_wp2;go_loopw [5] (fun c wr=>∃i:Nat,i<=xs.length/\c=.int .i64 i/\xs.take i=ys.take i/\Below w.heap.size w wr) (fun c _=>xs.length-(intOf c).toNat)
   case atStart=>exact⟨0,zO _,rfl,rfl,zB _ _⟩
   case round=>
    obtain⟨i,hi,rfl,htk,hbw⟩:=hrel;have HT:=zA htk;clear htk;by_cases hlt:i<xs.length
    . obtain⟨x,hx⟩:∃x,xs[i]?=some x:=⟨_,zD hlt⟩
      obtain⟨y,hy⟩:∃y,ys[i]?=some y:=⟨_,zD (by rw[<- HL.out];exact hlt)⟩
      rcases HA.out with hnil|⟨ba,oa,rfl,ha1,ha2⟩
      . rw[hnil]at hx;simp at hx
      . rcases HB.out with hnil|⟨bb,ob,rfl,hb1,hb2⟩
        . rw[hnil]at hy;simp at hy
        . obtain⟨c1,c2,c3,p0,p1,p2,p3,pn⟩:=ha2 i x hx;obtain⟨d1,d2,d3,q0,q1,q2,q3,qn⟩:=hb2 i y hy;have keyA:∀j u,w.cell? ⟨ba,j,none⟩=some u->wr.cell? ⟨ba,j,none⟩=some u:=fun j u h=>(hbw.cell (p:=⟨ba,j,none⟩) ha1).trans h
          have keyB:∀j u,w.cell? ⟨bb,j,none⟩=some u->wr.cell? ⟨bb,j,none⟩=some u:=fun j u h=>(hbw.cell (p:=⟨bb,j,none⟩) hb1).trans h
          have r0:=keyA _ _ p0;have r1:=keyA _ _ p1;have r2:=keyA _ _ p2;have r3:=keyA _ _ p3;have t0:=keyB _ _ q0;have t1:=keyB _ _ q1;have t2:=keyB _ _ q2;have t3:=keyB _ _ q3;have hla1:ba<wr.heap.size:=zF ha1 hbw.size;have hlb1:bb<wr.heap.size:=zF hb1 hbw.size;have C:=zA (sameN_any _ _ x y wr.drew ((pn.below hbw).below (zB _ _).drew) ((qn.below hbw).below (zB _ _).drew));have HX:=zA hx;have HY:=zA hy;have HBW:=zA hbw.drew;have hltI:(i:Int)<(xs.length:Int):=by omega
          have h0I:(0:Int)<=(i:Int):=by omega
          have KEEP:Hid (∀w1,Below wr.drew.heap.size wr.drew w1->(w1.cell? ⟨ba,oa+i*4,none⟩=some (.int .i64 x.kind)/\w1.cell? ⟨ba,oa+i*4+1,none⟩=some c1/\w1.cell? ⟨ba,oa+i*4+2,none⟩=some c2/\w1.cell? ⟨ba,oa+i*4+3,none⟩=some c3/\
           w1.cell? ⟨bb,ob+i*4,none⟩=some (.int .i64 y.kind)/\w1.cell? ⟨bb,ob+i*4+1,none⟩=some d1/\w1.cell? ⟨bb,ob+i*4+2,none⟩=some d2/\w1.cell? ⟨bb,ob+i*4+3,none⟩=some d3)):=zA (fun w1 h=>by
           have kA:∀j u,wr.cell? ⟨ba,j,none⟩=some u->w1.cell? ⟨ba,j,none⟩=some u:=fun j u h2=>(h.cell (p:=⟨ba,j,none⟩) hla1).trans h2
           have kB:∀j u,wr.cell? ⟨bb,j,none⟩=some u->w1.cell? ⟨bb,j,none⟩=some u:=fun j u h2=>(h.cell (p:=⟨bb,j,none⟩) hlb1).trans h2
           exact⟨kA _ _ r0,kA _ _ r1,kA _ _ r2,kA _ _ r3,kB _ _ t0,kB _ _ t1,kB _ _ t2,kB _ _ t3⟩)
          clear keyA keyB p0 p1 p2 p3 q0 q1 q2 q3 pn qn hx hy ha2 hb2 hbw ha1 hb1;by_cases hxy:x=y
          . have hnx:xs.take (i+1)=ys.take (i+1):=by
             rw[zW,zW,HT.out,HX.out,HY.out,hxy]
            have HN:=zA hnx;rw[zM hxy]at C;clear hnx hxy;go_wp2;go_region_held (fun w1=>w1.cell? ⟨ba,oa+i*4,none⟩=some (.int .i64 x.kind)/\w1.cell? ⟨ba,oa+i*4+1,none⟩=some c1/\w1.cell? ⟨ba,oa+i*4+2,none⟩=some c2/\w1.cell? ⟨ba,oa+i*4+3,none⟩=some c3/\
             w1.cell? ⟨bb,ob+i*4,none⟩=some (.int .i64 y.kind)/\w1.cell? ⟨bb,ob+i*4+1,none⟩=some d1/\w1.cell? ⟨bb,ob+i*4+2,none⟩=some d2/\w1.cell? ⟨bb,ob+i*4+3,none⟩=some d3)
             (first|exact KEEP.out _ (zB _ _)|exact KEEP.out _ hbc)
             (first|(go_at_call 45;refine C.out.mono ?_;rintro e w1 ⟨rfl,hbc⟩))
            have hbq:=HBW.out.trans (hbc.mono HBW.out.size);clear hbc;go_wp2;go_roundw
            case rel=>exact⟨i+1,by omega,by go_num,HN.out,hbq⟩
            case measure=>simp[intOf];omega
          . have hne:decide (xs=ys)=false:=by
             rw[decide_eq_false_iff_not];intro h;have a:=HX.out;rw[h,HY.out]at a;exact hxy (Option.some.inj a).symm
            have HN:=zA hne;rw[decide_eq_false hxy]at C;clear hne hxy;go_wp2;go_region_held (fun w1=>w1.cell? ⟨ba,oa+i*4,none⟩=some (.int .i64 x.kind)/\w1.cell? ⟨ba,oa+i*4+1,none⟩=some c1/\w1.cell? ⟨ba,oa+i*4+2,none⟩=some c2/\w1.cell? ⟨ba,oa+i*4+3,none⟩=some c3/\
             w1.cell? ⟨bb,ob+i*4,none⟩=some (.int .i64 y.kind)/\w1.cell? ⟨bb,ob+i*4+1,none⟩=some d1/\w1.cell? ⟨bb,ob+i*4+2,none⟩=some d2/\w1.cell? ⟨bb,ob+i*4+3,none⟩=some d3)
             (first|exact KEEP.out _ (zB _ _)|exact KEEP.out _ hbc)
             (first|(go_at_call 45;refine C.out.mono ?_;rintro e w1 ⟨rfl,hbc⟩))
            have hbq:=HBW.out.trans (hbc.mono HBW.out.size);clear hbc;go_wp2;go_ret;exact⟨by rw[HN.out];rfl,hbq⟩
    . have heq:decide (xs=ys)=true:=by
       rw[decide_eq_true_iff];have:=HT.out;rw[zI (by omega),zI (by rw[<- HL.out];omega)]at this;exact this
      have HN:=zA heq;clear heq;go_wp2;go_ret;exact⟨by rw[HN.out];rfl,hbw⟩
 . have hne:decide (xs=ys)=false:=by
    rw[decide_eq_false_iff_not];intro h;exact hl (by rw[h])
   have HN:=zA hne;have hl2:((xs.length:Int)!=(ys.length:Int))=true:=by rw[bne_iff_ne];omega
   clear hne;go_enter Try.func21,Try.ntmps21;go_wp2;go_ret;exact⟨by rw[HN.out];rfl,zB _ _⟩
end Go.Proofs.Ytjoddkeamboeoaa
