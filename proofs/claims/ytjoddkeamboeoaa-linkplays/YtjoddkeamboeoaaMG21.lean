/- WRReadW. -/
import Derived.Test.YtjoddkeamboeoaaMG20
set_option maxRecDepth 100000
namespace Go.Proofs.Ytjoddkeamboeoaa
open Go.RowKit
def sliceLen:Value->Nat
 | .slice _ n _=>n
 |_=>0
def REnd(l:List UInt8)(w:World)(e:Ending)(w':World):Prop:=
 Below w.heap.size w w'/\((∃n v,readP l=some n/\e=.returned (.tuple #[v,.bool true])/\NoteOwn w' w.heap.size v n)\/
  (readP l=none/\∃(k:Int) (a0:Option Addr) (l0 c0:Nat) (a1:Option Addr) (l1 c1:Nat) (a2:Option Addr) (l2 c2:Nat),e=.returned (.tuple #[.agg #[.int .i64 k,.slice a0 l0 c0,.slice a1 l1 c1,.slice a2 l2 c2],.bool false])))
theorem rEnd_none{l:List UInt8}{w w':World}(h:readP l=none)(hb:Below w.heap.size w w')(k:Int)(a0:Option Addr)(l0 c0:Nat)(a1:Option Addr)(l1 c1:Nat)(a2:Option Addr)(l2 c2:Nat):
 REnd l w (.returned (.tuple #[.agg #[.int .i64 k,.slice a0 l0 c0,.slice a1 l1 c1,.slice a2 l2 c2],.bool false])) w':=⟨hb,.inr ⟨h,k,a0,l0,c0,a1,l1,c1,a2,l2,c2,rfl⟩⟩
theorem rEnd_some{l:List UInt8}{w w':World}{n:NoteD}{v:Value}(h:readP l=some n)(hb:Below w.heap.size w w')(ho:NoteOwn w' w.heap.size v n):REnd l w (.returned (.tuple #[v,.bool true])) w':=⟨hb,.inl ⟨n,v,h,rfl,ho⟩⟩
structure Zs (b:Nat) (w0 w:World):Prop where
 res:w.heap[b]?=some (.cells #[.int .i64 0,.slice none 0 0,.slice none 0 0,.slice none 0 0] 36 (0,0))
 nb:w.heap[b+1]?=some (.cells #[.int .i64 0,.slice none 0 0,.slice none 0 0,.slice none 0 0] 36 (0,0))
 bel:Below b w0 w
theorem Zs.below{b:Nat}{w0 w w':World}(h:Zs b w0 w)(hb:Below w.heap.size w w'):Zs b w0 w':=
 ⟨(hb.block _ (lt_of_block h.res)).trans h.res,(hb.block _ (lt_of_block h.nb)).trans h.nb,h.bel.trans (hb.mono (by have:=lt_of_block h.nb;omega))⟩
theorem Zs.grown{b m:Nat}{w0 w w':World}{e:TypeId}{size:Nat}{u:Value}{ys:List Value}(h:Zs b w0 w)(hu:w.ownsRow (b+2) e size u m ys)(hg:w.grownBy w' u.ownBlock):Zs b w0 w':=
 ⟨grown_low hu hg (by omega) h.res,grown_low hu hg (by omega) h.nb,h.bel.grown hg (by have:=lt_of_block h.nb;omega) (fun k hk=>by have:=own_ge hu hk;omega)⟩
theorem qInv_start{b g cx:Nat}{w0 w:World}{k c:Int}{ns:List Int}(hz:Zs b w0 w)(h:w.ownsRow (b+2) 3 1 (.slice (some ⟨g,0,none⟩) (k::c::ns).length cx) (k::c::ns).length (intCs (k::c::ns)))(ad:Option Addr)(hc:cx≠2->ad=some ⟨g,2,none⟩)(nl cp:Nat)(hnl:nl=ns.length):
 QInv b w0 ((w.setCell ⟨b+1,0,none⟩ (.int .i64 k)).setCell ⟨b+1,1,none⟩ (.slice ad nl cp)) k (.slice ad nl cp) (.slice none 0 0) (.slice none 0 0) ns [] []:=by
 subst hnl;have hk:∀ {v1 v2:Value} {j:Nat} {o:Obj},j≠b+1->w.heap[j]?=some o->((w.setCell ⟨b+1,0,none⟩ v1).setCell ⟨b+1,1,none⟩ v2).heap[j]?=some o:=fun hj ho=>
  (zK _ ⟨b+1,1,none⟩ _ _ hj).trans ((zK _ ⟨b+1,0,none⟩ _ _ hj).trans ho)
 exact⟨hk (by omega) hz.res,four_set1 (four_set0 hz.nb),(rowIn_tail h ad hc cp).kept (fun g cur fz hB hg=>hk (by omega) hg),⟨rfl,.inl ⟨rfl,rfl⟩⟩,⟨[],⟨rfl,.inl ⟨rfl,rfl⟩⟩,rfl,by simp⟩,(hz.bel.setCell (by simp only;omega) _).setCell (by simp only;omega) _⟩
def RowsSo(q:List UInt8)(m:Nat)(rs:List (List (List UInt8)))(at_:Nat)(l:List UInt8):Prop:=many listQ rs.length q=some (rs,l.drop at_)/\rs.length<=m/\∀r∈rs,r.length<=4096
set_option maxHeartbeats 4000000 in
theorem rRead_any(l:List UInt8)(w:World)(hl:l.length<=1048576):
 Calls Try.prog 74 #[.string ⟨l.toArray⟩] w (REnd l w):=by
 have hsz:=size_list l;obtain⟨i0,hi0,hz0,hz1,hz2⟩:=info_parts infoInt;obtain⟨j0,hj0,hy0,hy1,hy2⟩:=info_parts infoRow;obtain⟨t0,t1,t2⟩:=two_blocks w (.cells #[.int .i64 0,.slice none 0 0,.slice none 0 0,.slice none 0 0] 36) (.cells #[.int .i64 0,.slice none 0 0,.slice none 0 0,.slice none 0 0] 36);have Z0:Hid (Zs w.heap.size w ((w.alloc (.cells #[.int .i64 0,.slice none 0 0,.slice none 0 0,.slice none 0 0] 36)).alloc (.cells #[.int .i64 0,.slice none 0 0,.slice none 0 0,.slice none 0 0] 36))):=zA ⟨t0,t1,t2⟩;clear t0 t1 t2;go_enter Try.func74,Try.ntmps74;go_wp2;go_loopw [5,6,7] (fun a x q wr=>∃(at_:Nat) (xs:List Nat) (want:Nat) (vx:Value),vx=x/\a=.int .i64 at_/\q=.int .i64 want/\at_<=l.length/\Phase l xs at_ want/\wr.ownsRow (w.heap.size+2) 3 1 vx xs.length (intCs (xs.map Int.ofNat))/\Zs w.heap.size w wr) (fun _ x _ _=>67-sliceLen x)
 case atStart=>exact⟨0,[],2,_,rfl,rfl,rfl,zO _,.inl ⟨rfl,rfl,rfl⟩,⟨rfl,.inl ⟨rfl,rfl⟩⟩,Z0.out⟩
 case round=>
  obtain⟨k,xs,want,vx,rfl,rfl,rfl,hk,hph,hown,hzs⟩:=hrel;have HPH:=zA hph;have HOW:=zA hown;have HZS:=zA hzs;obtain⟨hx66,hw66⟩:=phase_le hph;obtain⟨ax,cx,rfl⟩:=own_slice hown;clear hph hown hzs Z0;have hkI:(k:Int)<=(l.length:Int):=by omega
  have hx:=extract_from l k;rw[hsz]at hx;obtain⟨q,hq⟩:∃q,q=l.drop k:=⟨_,rfl⟩
  rw[<- hq]at hx;have hql:q.length=l.length-k:=by rw[hq,zN]
  have HQ:=zA hq;clear hq;obtain⟨⟨r0,r1,r2,r3⟩,⟨f0,f1,f2,f3⟩⟩:=four_cells HZS.out.res;obtain⟨⟨d0,d1,d2,d3⟩,⟨e0,e1,e2,e3⟩⟩:=four_cells HZS.out.nb;by_cases hlt:xs.length<want
  . have hltI:(xs.length:Int)<(want:Int):=by omega
    have HN:Hid (∀w,Calls Try.prog 84 #[.string ⟨q.toArray⟩] w fun e w'=>e=.returned (numV q)/\w'=w):=zA (fun w=>by
     have:=rNum_any ⟨q.toArray⟩ w (by rw[size_list];unfold maxLen;omega);rw[data_list]at this;exact this)
    obtain⟨u1,_,u3,_⟩:=numP_used q;obtain⟨x,m,e,hv⟩:∃v k e,numP q=(v,k,e):=⟨_,_,_,rfl⟩
    rw[numV_of hv]at HN;rw[hv]at u1 u3;simp only at u1 u3;by_cases he:e=0
    . subst he;have hst:=phase_step (x:=x) (k:=m) HPH.out hlt (by rw[<- HQ.out];exact numQ_of hv);have HST:=zA hst;clear hst hv;have hc6:x<=9223372036854775807:=u3;go_wp2_with fail;refine(HN.out _).mono ?_;rintro e w2 ⟨rfl,hw2⟩;subst hw2;go_wp2_with (at_builtin;refine wpList_append_lies _ rfl _ _ _ rfl (w.heap.size+2) 3 i0 _ 1 8 Try.underlying33 hi0 hz0 hz1 hz2 rfl (by decide) _ xs.length (intCs (xs.map Int.ofNat)) (by rfl) (HOW.out.alloc _) ⟨w2.heap.size,0,none⟩ 1 1 [.int .i64 x] (by rfl) (by rfl) ?c1 ?c2 (by decide) ?c3 ?c4 ?c5 (w2.heap.size+1) (by simp) ?_)
      case c1=>exact World.news_of_block (cs:=#[.int .i64 x]) (t:=3) (fr:=(0,0)) (heap_alloc_new w2 _)
      case c2=>intro u hu;rw[zX]at hu;subst hu;rfl
      case c3=>unfold maxLen;omega
      case c4=>omega
      case c5=>have:=lt_of_block HZS.out.nb;simp;omega
      intro g cap w3 hown3 hgrow hat hlt3;have al:Below w2.heap.size w2 (w2.alloc (.cells #[.int .i64 x] 3)):=(zB _ _).alloc (zC _) _;have Z3:=zA ((HZS.out.below al).grown (HOW.out.alloc _) hgrow);have O3:Hid (w3.ownsRow (w.heap.size+2) 3 1 (.slice (some ⟨g,0,none⟩) (xs.length+1) cap) (xs++[x]).length (intCs ((xs++[x]).map Int.ofNat))):=zA (by
       rw[List.map_append,zE,List.map_singleton,intCs_snoc];exact hown3)
      clear hown3 hgrow hat hlt3 al r0 r1 r2 r3 f0 f1 f2 f3 d0 d1 d2 d3 e0 e1 e2 e3 HZS HOW;obtain⟨⟨r0,r1,r2,r3⟩,⟨f0,f1,f2,f3⟩⟩:=four_cells Z3.out.res;obtain⟨⟨d0,d1,d2,d3⟩,⟨e0,e1,e2,e3⟩⟩:=four_cells Z3.out.nb;rcases HST.out with⟨hne,hp2⟩|⟨heq,hbig,hrn⟩|⟨heq,hsm,hp2⟩
      . have HP2:=zA hp2;have hneI:((xs.length:Int)+1==2)=false:=by simp;omega
        clear hp2 HST;go_wp2;go_roundw
        case rel=>exact⟨k+m,xs++[x],want,_,rfl,by go_num,rfl,by omega,HP2.out,O3.out,Z3.out⟩
        case measure=>simp[sliceLen];omega
      . have HRN:=zA hrn;have heqI:(xs.length:Int)+1=2:=by omega
        have hbI:(64:Int)<(x:Int):=by omega
        obtain⟨⟨z0,z1,z2,z3⟩,_⟩:=four_cells (set4_block Z3.out.res (.int .i64 0) (.slice none 0 0) (.slice none 0 0) (.slice none 0 0));have Y0:=zA z0;have Y1:=zA z1;have Y2:=zA z2;have Y3:=zA z3;have BE:=zA (set4_below Z3.out.bel (zC _) (.int .i64 0) (.slice none 0 0) (.slice none 0 0) (.slice none 0 0));clear z0 z1 z2 z3 hrn HST;go_wp2;refine bodyPost_ret (v:=.tuple #[zeroN,.bool false]) ?_ rfl (rEnd_none HRN.out BE.out _ _ _ _ _ _ _ _ _ _);simp[results,Try.results74,go_sem,Y0.out,Y1.out,Y2.out,Y3.out]
      . have HP2:=zA hp2;have heqI:(xs.length:Int)+1=2:=by omega
        have hbI:¬(64:Int)<(x:Int):=by omega
        clear hp2 HST;go_wp2;go_roundw
        case rel=>exact⟨k+m,xs++[x],2+x,_,rfl,by go_num,by go_num,by omega,HP2.out,O3.out,Z3.out⟩
        case measure=>simp[sliceLen];omega
    . have heI:((e:Int)!=0)=true:=by simp;omega
      have HRN:Hid (readP l=none):=zA (phase_none HPH.out hlt (by rw[<- HQ.out];exact numQ_bad hv he));obtain⟨⟨z0,z1,z2,z3⟩,_⟩:=four_cells (set4_block HZS.out.res (.int .i64 0) (.slice none 0 0) (.slice none 0 0) (.slice none 0 0));have Y0:=zA z0;have Y1:=zA z1;have Y2:=zA z2;have Y3:=zA z3;have BE:=zA (set4_below HZS.out.bel (zC _) (.int .i64 0) (.slice none 0 0) (.slice none 0 0) (.slice none 0 0));clear z0 z1 z2 z3 hv he;go_wp2_with fail;refine(HN.out _).mono ?_;rintro e2 w2 ⟨rfl,hw2⟩;subst hw2;go_wp2;refine bodyPost_ret (v:=.tuple #[zeroN,.bool false]) ?_ rfl (rEnd_none HRN.out BE.out _ _ _ _ _ _ _ _ _ _);simp[results,Try.results74,go_sem,Y0.out,Y1.out,Y2.out,Y3.out]
  . have hltI:¬(xs.length:Int)<(want:Int):=by omega
    obtain⟨k0,ns,c0,hxs,hns,hrd⟩:=phase_end HPH.out hlt;subst hxs;have HRD:=zA hrd;have HNS:=zA hns;have hown2:=HOW.out;rcases hown2.form (by simp)with⟨g,cap2,hvx,hBg,hltg⟩
    simp only[Value.slice.injEq,true_and]at hvx;obtain⟨rfl,rfl⟩:=hvx;have hcap:(k0::c0::ns).length<=cx:=by
     rcases hown2.2 with⟨h0,_⟩|⟨g',cap',cur,e1,_,_,e4,_⟩
     . simp at h0
     . simp only[Value.slice.injEq]at e1;omega
    have hc0:wr.cell? ⟨g,0,none⟩=some (.int .i64 k0):=by
     have:=hown2.cellAt 0 (by simp);rw[this];rfl
    have HQL:Hid (∀w,Calls Try.prog 85 #[.string ⟨q.toArray⟩] w (ListEnd q w)):=zA (fun w=>by
     have:=rList_any ⟨q.toArray⟩ w (by rw[size_list];omega);rw[data_list]at this;exact this)
    unfold ListEnd at HQL;obtain⟨ts,m1,er1,hlp⟩:∃v k e,listP q=(v,k,e):=⟨_,_,_,rfl⟩
    have hlu:=listP_used q;have hll:=listP_len q;rw[hlp]at HQL hlu hll;simp only at HQL hlu hll;have hcx2:2<=cx:=by simp at hcap;omega
    have hcxI:(2:Int)<=(cx:Int):=by omega
    have hlenI:(2:Int)<=((k0::c0::ns).length:Int):=by simp;omega
    clear hrd hns hown2;by_cases hc2:cx=2
    all_goals (
     go_wp2_with fail;refine(HQL.out _).mono ?_;rintro e w5 ⟨vt,rfl,hot,hb5⟩;obtain⟨at1,ct1,hvt⟩:=own_slice hot;subst hvt;have hot2:=owns_base hot (B':=w.heap.size+2) (by simp;exact lt_of_block HZS.out.nb);have HOW2:wr.ownsRow (w.heap.size+2) 3 1 (.slice (some ⟨g,0,none⟩) ((k0:Int)::(c0:Int)::ns.map Int.ofNat).length cx) ((k0:Int)::(c0:Int)::ns.map Int.ofNat).length (intCs ((k0:Int)::(c0:Int)::ns.map Int.ofNat)):=by simpa using HOW.out
     obtain⟨AD,CP,q5⟩:∃AD CP,QInv w.heap.size w w5 k0 (.slice AD ns.length CP) (.slice none 0 0) (.slice none 0 0) (ns.map Int.ofNat) [] []:=⟨_,_,QInv.below (qInv_start HZS.out HOW2 _ (fun h=>by first|rfl|exact absurd hc2 h) ns.length _ (by simp)) hb5⟩
     by_cases her1:er1=0
     . subst her1;have LQ:=zA (listQ_of hlp);obtain⟨⟨d0',d1',d2',d3'⟩,⟨e0',e1',e2',e3'⟩⟩:=four_cells q5.nb;have Q6:=zA (q5.setTexts hot2);clear q5 hot hot2 HQL d0 d1 d2 d3 e0 e1 e2 e3 r0 r1 r2 r3 f0 f1 f2 f3 hc0 hb5 HOW2;obtain⟨q2,hq2⟩:∃q,q=l.drop (k+m1):=⟨_,rfl⟩
       have hx2:=extract_from l (k+m1);rw[hsz,<- hq2]at hx2;have hq2l:q2.length=l.length-(k+m1):=by rw[hq2,zN]
       have hqq:q.drop m1=q2:=by rw[HQ.out,List.drop_drop,hq2]
       have LQ2:Hid (listQ q=some (ts,q2)):=zA (by rw[LQ.out,hqq]);have HQ2:=zA hq2;have hkm:k+m1<=l.length:=by omega
       have hkmI:(k:Int)+(m1:Int)<=(l.length:Int):=by omega
       clear hq2 hqq LQ hlp;have HN2:Hid (∀w,Calls Try.prog 84 #[.string ⟨q2.toArray⟩] w fun e w'=>e=.returned (numV q2)/\w'=w):=zA (fun w=>by
        have:=rNum_any ⟨q2.toArray⟩ w (by rw[size_list];unfold maxLen;omega);rw[data_list]at this;exact this)
       obtain⟨u1,_,u3,_⟩:=numP_used q2;obtain⟨mm,m2,er2,hv⟩:∃v k e,numP q2=(v,k,e):=⟨_,_,_,rfl⟩
       rw[numV_of hv]at HN2;rw[hv]at u1 u3;simp only at u1 u3;go_wp2_with fail;refine(HN2.out _).mono ?_;rintro e w6 ⟨rfl,hw6⟩;subst hw6;obtain⟨⟨d0,d1,d2,d3⟩,⟨e0,e1,e2,e3⟩⟩:=four_cells Q6.out.nb;obtain⟨⟨r0,r1,r2,r3⟩,⟨f0,f1,f2,f3⟩⟩:=four_cells Q6.out.res;by_cases her2:er2=0
       . subst her2;by_cases hm4:4096<mm
         . have HRN:Hid (readP l=none):=zA (by rw[HRD.out,<- HQ.out];exact readT_many LQ2.out (numQ_of hv) hm4);have hm4I:(4096:Int)<(mm:Int):=by omega
           clear hv;obtain⟨⟨z0,z1,z2,z3⟩,_⟩:=four_cells (set4_block Q6.out.res (.int .i64 k0) (.slice AD ns.length CP) (.slice at1 ts.length ct1) (.slice none 0 0));have Y0:=zA z0;have Y1:=zA z1;have Y2:=zA z2;have Y3:=zA z3;have BE:=zA (set4_below Q6.out.bel (zC _) (.int .i64 k0) (.slice AD ns.length CP) (.slice at1 ts.length ct1) (.slice none 0 0));clear z0 z1 z2 z3;go_wp2;refine bodyPost_ret (v:=.tuple #[.agg #[.int .i64 k0,.slice AD ns.length CP,(.slice at1 ts.length ct1),(.slice none 0 0)],.bool false]) ?_ rfl (rEnd_none HRN.out BE.out _ _ _ _ _ _ _ _ _ _);simp[results,Try.results74,go_sem,Y0.out,Y1.out,Y2.out,Y3.out]
         . have hm4I:¬(4096:Int)<(mm:Int):=by omega
           have NQ2:Hid (numQ q2=some (mm,l.drop (k+m1+m2))):=zA (by rw[numQ_of hv,HQ2.out,List.drop_drop]);clear hv;have hk3:k+m1+m2<=l.length:=by omega
           go_wp2;go_loopw [5,17] (fun a c wr=>∃(at_:Nat) (rs:List (List (List UInt8))) (vr:Value),a=.int .i64 at_/\c=.int .i64 rs.length/\at_<=l.length/\RowsSo (l.drop (k+m1+m2)) mm rs at_ l/\QInv w.heap.size w wr k0 (.slice AD ns.length CP) (.slice at1 ts.length ct1) vr (ns.map Int.ofNat) ts rs) (fun _ c _=>mm-(intOf c).toNat)
           case atStart=>exact⟨k+m1+m2,[],_,by go_num,rfl,hk3,⟨rfl,zO _,by simp⟩,Q6.out⟩
           case round=>
            obtain⟨p,rs,vr,rfl,rfl,hp,hso,hqi⟩:=hrel;have HSO:=zA hso;have HQI:=zA hqi;have hrm:=hso.2.1;obtain⟨arv,lrv,crv,rfl⟩:∃ao le cap,vr=.slice ao le cap:=by obtain⟨vs,h1,_⟩:=hqi.orr;obtain⟨a,c,h⟩:=own_slice h1;exact⟨a,_,c,h⟩
            clear hso hqi d0 d1 d2 d3 e0 e1 e2 e3 r0 r1 r2 r3 f0 f1 f2 f3 d0' d1' d2' d3' e0' e1' e2' e3' Q6;obtain⟨⟨d0,d1,d2,d3⟩,⟨e0,e1,e2,e3⟩⟩:=four_cells HQI.out.nb;obtain⟨⟨r0,r1,r2,r3⟩,⟨f0,f1,f2,f3⟩⟩:=four_cells HQI.out.res;by_cases hlt2:rs.length<mm
            . have hlt2I:(rs.length:Int)<(mm:Int):=by omega
              obtain⟨q3,hq3⟩:∃q,q=l.drop p:=⟨_,rfl⟩
              have hx3:=extract_from l p;rw[hsz,<- hq3]at hx3;have hq3l:q3.length=l.length-p:=by rw[hq3,zN]
              have HQ3:=zA hq3;have hpI:(p:Int)<=(l.length:Int):=by omega
              have HQL3:Hid (∀w,Calls Try.prog 85 #[.string ⟨q3.toArray⟩] w (ListEnd q3 w)):=zA (fun w=>by
               have:=rList_any ⟨q3.toArray⟩ w (by rw[size_list];omega);rw[data_list]at this;exact this)
              unfold ListEnd at HQL3;obtain⟨rr,m3,er3,hlp3⟩:∃v k e,listP q3=(v,k,e):=⟨_,_,_,rfl⟩
              have hlu3:=listP_used q3;have hll3:=listP_len q3;rw[hlp3]at HQL3 hlu3 hll3;simp only at HQL3 hlu3 hll3;clear hq3;go_wp2_with fail;refine(HQL3.out _).mono ?_;rintro e w7 ⟨v7,rfl,ho7,hb7⟩;obtain⟨a7,c7,hv7⟩:=own_slice ho7;subst hv7;have ho72:=owns_base ho7 (B':=w.heap.size+2) (lt_of_block HQI.out.nb);have Q7:=zA (HQI.out.below hb7);have O7:=zA ho72;clear ho7 ho72 hb7 HQL3 HQI d0 d1 d2 d3 e0 e1 e2 e3 r0 r1 r2 r3 f0 f1 f2 f3;obtain⟨⟨d0,d1,d2,d3⟩,⟨e0,e1,e2,e3⟩⟩:=four_cells Q7.out.nb;obtain⟨⟨r0,r1,r2,r3⟩,⟨f0,f1,f2,f3⟩⟩:=four_cells Q7.out.res;by_cases her3:er3=0
              . subst her3;obtain⟨vs,hvs1,hvs2,hvs3⟩:=Q7.out.orr;have S2:Hid (RowsSo (l.drop (k+m1+m2)) mm (rs++[rr]) (p+m3) l):=zA (by
                 obtain⟨s1,s2,s3⟩:=HSO.out;refine⟨?_,by rw[zE,List.length_singleton];omega,?_⟩
                 . rw[zE,List.length_singleton,many,s1];simp only[Option.bind_some];rw[<- HQ3.out,listQ_of hlp3,HQ3.out,List.drop_drop];rfl
                 . intro r hr;rcases zZ.1 hr with hr|hr
                   . exact s3 r hr
                   . rw[zX]at hr;subst hr;exact hll3)
                clear hlp3 HSO;go_wp2_with (at_builtin;refine wpList_append_lies _ rfl (.tmp 110) (.tmp 112) _ rfl (w.heap.size+2) 27 j0 _ 1 24 Try.underlying34 hj0 hy0 hy1 hy2 rfl (by decide) _ rs.length vs (by rfl) (hvs1.alloc _) ⟨w7.heap.size,0,none⟩ 1 1 [.slice a7 rr.length c7] (by rfl) (by rfl) ?c1 ?c2 (by decide) ?c3 ?c4 ?c5 (w7.heap.size+1) (by simp) ?_)
                case c1=>exact World.news_of_block (cs:=#[.slice a7 rr.length c7]) (t:=27) (fr:=(0,0)) (heap_alloc_new w7 _)
                case c2=>intro u hu;rw[zX]at hu;subst hu;rfl
                case c3=>unfold maxLen;omega
                case c4=>omega
                case c5=>have:=lt_of_block Q7.out.nb;simp;omega
                intro g2 cap2 w8 hown8 hgrow8 hat8 hlt8;have al:Below w7.heap.size w7 (w7.alloc (.cells #[.slice a7 rr.length c7] 27)):=(zB _ _).alloc (zC _) _;have Q8:=zA ((Q7.out.below al).addRow (hvs1.alloc _) hvs2 (fun a x r h1 h2=>(hvs3 a x r h1 h2).alloc _) (O7.out.alloc _) hgrow8 hown8);have nb8:=grown_low (hvs1.alloc _) hgrow8 (by omega) (Q7.out.below al).nb;obtain⟨⟨d0,d1,d2,d3⟩,⟨e0,e1,e2,e3⟩⟩:=four_cells nb8;clear hown8 hgrow8 hat8 hlt8 al nb8 hvs1 hvs2 hvs3 O7 Q7 r0 r1 r2 r3 f0 f1 f2 f3;go_wp2;go_roundw
                case rel=>exact⟨p+m3,rs++[rr],_,by go_num,by rw[zE,List.length_singleton];go_num,by omega,S2.out,Q8.out⟩
                case measure=>simp[intOf];omega
              . have her3I:((er3:Int)!=0)=true:=by simp;omega
                have HRN:Hid (readP l=none):=zA (by
                 rw[HRD.out,<- HQ.out];refine readT_none3 (i:=rs.length+1) LQ2.out NQ2.out (by omega) ?_;rw[many,HSO.out.1];simp only[Option.bind_some];rw[<- HQ3.out,listQ_bad hlp3 her3];rfl)
                clear hlp3 HSO;obtain⟨⟨z0,z1,z2,z3⟩,_⟩:=four_cells (set4_block Q7.out.res (.int .i64 k0) (.slice AD ns.length CP) (.slice at1 ts.length ct1) (.slice arv lrv crv));have Y0:=zA z0;have Y1:=zA z1;have Y2:=zA z2;have Y3:=zA z3;have BE:=zA (set4_below Q7.out.bel (zC _) (.int .i64 k0) (.slice AD ns.length CP) (.slice at1 ts.length ct1) (.slice arv lrv crv));clear z0 z1 z2 z3;go_wp2;refine bodyPost_ret (v:=.tuple #[.agg #[.int .i64 k0,.slice AD ns.length CP,(.slice at1 ts.length ct1),(.slice arv lrv crv)],.bool false]) ?_ rfl (rEnd_none HRN.out BE.out _ _ _ _ _ _ _ _ _ _);simp[results,Try.results74,go_sem,Y0.out,Y1.out,Y2.out,Y3.out]
            . have hlt2I:¬(rs.length:Int)<(mm:Int):=by omega
              have hrs:rs.length=mm:=by omega
              have HEND:Hid (readP l=if l.drop p=[]/\(NoteD.mk k0 (ns.map Int.ofNat) ts rs).shaped then some ⟨k0,ns.map Int.ofNat,ts,rs⟩else none):=zA (by
               rw[HRD.out,<- HQ.out];refine readT_end LQ2.out NQ2.out (by omega) ?_;rw[<- hrs];exact HSO.out.1)
              have hn64:(ns.map Int.ofNat).length<=64:=by rw[List.length_map];exact HNS.out
              have NT:=zA (HQI.out.note hn64 hll (by omega) HSO.out.2.2);have QD:=zA (HQI.out.below (zB _ _).drew);have HROWS:=zA HSO.out.2.2;have HN64:=zA hn64;clear hn64;obtain⟨W9,hW9⟩:∃W,W=wr:=⟨_,rfl⟩
              subst hW9;have KS:Hid (∀w2,Below W9.drew.heap.size W9.drew w2->QInv w.heap.size w w2 k0 (.slice AD ns.length CP) (.slice at1 ts.length ct1) (.slice arv lrv crv) (ns.map Int.ofNat) ts rs):=zA (fun w2 h=>QD.out.below h);by_cases hpl:p=l.length
              . have C:=zA (rShaped_any _ _ W9.drew (NT.out.below (zB _ _).drew));have hplI:(p:Int)=(l.length:Int):=by omega
                by_cases hsh:(NoteD.mk k0 (ns.map Int.ofNat) ts rs).shaped
                . rw[zM hsh]at C;have HRS2:Hid (readP l=some ⟨k0,ns.map Int.ofNat,ts,rs⟩):=zA (by rw[HEND.out,if_pos ⟨by rw[hpl];simp,hsh⟩]);clear hsh HEND;go_wp2_with fail;go_region_held (fun w'=>w'.cell? ⟨w.heap.size+1,0,none⟩=some (.int .i64 k0)/\w'.cell? ⟨w.heap.size+1,1,none⟩=some (.slice AD ns.length CP)/\w'.cell? ⟨w.heap.size+1,2,none⟩=some (.slice at1 ts.length ct1)/\w'.cell? ⟨w.heap.size+1,3,none⟩=some (.slice arv lrv crv))
                   (first|exact(four_cells (KS.out _ (zB _ _)).nb).1|exact(four_cells (KS.out _ hb9).nb).1|go_keep)
                   (first|(go_at_call 68;refine C.out.mono ?_;rintro e w9 ⟨rfl,hb9⟩;have q9:=KS.out _ hb9;obtain⟨⟨r0',r1',r2',r3'⟩,⟨f0',f1',f2',f3'⟩⟩:=four_cells q9.res))
                  obtain⟨⟨z0,z1,z2,z3⟩,_⟩:=four_cells (set4_block q9.res (.int .i64 k0) (.slice AD ns.length CP) (.slice at1 ts.length ct1) (.slice arv lrv crv));have Y0:=zA z0;have Y1:=zA z1;have Y2:=zA z2;have Y3:=zA z3;have DN:=zA (q9.done (.int .i64 k0) (.slice AD ns.length CP) (.slice at1 ts.length ct1) (.slice arv lrv crv) HN64.out hll (by omega) HROWS.out);clear z0 z1 z2 z3 q9 r0' r1' r2' r3' f0' f1' f2' f3' hb9;go_wp2;refine bodyPost_ret (v:=.tuple #[.agg #[.int .i64 k0,.slice AD ns.length CP,.slice at1 ts.length ct1,.slice arv lrv crv],.bool true]) ?_ rfl (rEnd_some HRS2.out DN.out.2 DN.out.1);simp[results,Try.results74,go_sem,Y0.out,Y1.out,Y2.out,Y3.out]
                . rw[decide_eq_false hsh]at C;have HRN:Hid (readP l=none):=zA (by rw[HEND.out,if_neg (fun h=>hsh h.2)]);clear hsh HEND;go_wp2_with fail;go_region_held (fun w'=>w'.cell? ⟨w.heap.size+1,0,none⟩=some (.int .i64 k0)/\w'.cell? ⟨w.heap.size+1,1,none⟩=some (.slice AD ns.length CP)/\w'.cell? ⟨w.heap.size+1,2,none⟩=some (.slice at1 ts.length ct1)/\w'.cell? ⟨w.heap.size+1,3,none⟩=some (.slice arv lrv crv))
                   (first|exact(four_cells (KS.out _ (zB _ _)).nb).1|exact(four_cells (KS.out _ hb9).nb).1|go_keep)
                   (first|(go_at_call 68;refine C.out.mono ?_;rintro e w9 ⟨rfl,hb9⟩;have q9:=KS.out _ hb9;obtain⟨⟨r0',r1',r2',r3'⟩,⟨f0',f1',f2',f3'⟩⟩:=four_cells q9.res))
                  obtain⟨⟨z0,z1,z2,z3⟩,_⟩:=four_cells (set4_block q9.res (.int .i64 k0) (.slice AD ns.length CP) (.slice at1 ts.length ct1) (.slice arv lrv crv));have Y0:=zA z0;have Y1:=zA z1;have Y2:=zA z2;have Y3:=zA z3;have BE:=zA (set4_below q9.bel (zC _) (.int .i64 k0) (.slice AD ns.length CP) (.slice at1 ts.length ct1) (.slice arv lrv crv));clear z0 z1 z2 z3 q9 r0' r1' r2' r3' f0' f1' f2' f3' hb9;go_wp2;refine bodyPost_ret (v:=.tuple #[.agg #[.int .i64 k0,.slice AD ns.length CP,.slice at1 ts.length ct1,.slice arv lrv crv],.bool false]) ?_ rfl (rEnd_none HRN.out BE.out _ _ _ _ _ _ _ _ _ _);simp[results,Try.results74,go_sem,Y0.out,Y1.out,Y2.out,Y3.out]
              . have hplI:((p:Int)==(l.length:Int))=false:=by simp;omega
                have HRN:Hid (readP l=none):=zA (by rw[HEND.out,if_neg (fun h=>by have:=congrArg List.length h.1;simp at this;omega)]);obtain⟨⟨z0,z1,z2,z3⟩,_⟩:=four_cells (set4_block HQI.out.res (.int .i64 k0) (.slice AD ns.length CP) (.slice at1 ts.length ct1) (.slice arv lrv crv));have Y0:=zA z0;have Y1:=zA z1;have Y2:=zA z2;have Y3:=zA z3;have BE:=zA (set4_below HQI.out.bel (zC _) (.int .i64 k0) (.slice AD ns.length CP) (.slice at1 ts.length ct1) (.slice arv lrv crv)).drew;clear z0 z1 z2 z3 HEND;go_wp2_with fail;go_region;go_wp2;refine bodyPost_ret (v:=.tuple #[.agg #[.int .i64 k0,.slice AD ns.length CP,.slice at1 ts.length ct1,.slice arv lrv crv],.bool false]) ?_ rfl (rEnd_none HRN.out BE.out _ _ _ _ _ _ _ _ _ _);simp[results,Try.results74,go_sem,Y0.out,Y1.out,Y2.out,Y3.out]
       . have her2I:((er2:Int)!=0)=true:=by simp;omega
         have HRN:Hid (readP l=none):=zA (by rw[HRD.out,<- HQ.out];exact readT_none2 LQ2.out (numQ_bad hv her2));clear hv;obtain⟨⟨z0,z1,z2,z3⟩,_⟩:=four_cells (set4_block Q6.out.res (.int .i64 k0) (.slice AD ns.length CP) (.slice at1 ts.length ct1) (.slice none 0 0));have Y0:=zA z0;have Y1:=zA z1;have Y2:=zA z2;have Y3:=zA z3;have BE:=zA (set4_below Q6.out.bel (zC _) (.int .i64 k0) (.slice AD ns.length CP) (.slice at1 ts.length ct1) (.slice none 0 0));clear z0 z1 z2 z3;go_wp2;refine bodyPost_ret (v:=.tuple #[.agg #[.int .i64 k0,.slice AD ns.length CP,(.slice at1 ts.length ct1),(.slice none 0 0)],.bool false]) ?_ rfl (rEnd_none HRN.out BE.out _ _ _ _ _ _ _ _ _ _);simp[results,Try.results74,go_sem,Y0.out,Y1.out,Y2.out,Y3.out]
     . have her1I:((er1:Int)!=0)=true:=by simp;omega
       have HRN:Hid (readP l=none):=zA (by rw[HRD.out,<- HQ.out];exact readT_none1 (listQ_bad hlp her1));obtain⟨⟨d0',d1',d2',d3'⟩,⟨e0',e1',e2',e3'⟩⟩:=four_cells q5.nb;obtain⟨⟨r0',r1',r2',r3'⟩,⟨f0',f1',f2',f3'⟩⟩:=four_cells q5.res;have Q5:=zA q5;clear q5 hot hot2 hb5 HQL hlp d0 d1 d2 d3 e0 e1 e2 e3 r0 r1 r2 r3 f0 f1 f2 f3 hc0 HOW2;obtain⟨⟨z0,z1,z2,z3⟩,_⟩:=four_cells (set4_block Q5.out.res (.int .i64 k0) (.slice AD ns.length CP) (.slice none 0 0) (.slice none 0 0));have Y0:=zA z0;have Y1:=zA z1;have Y2:=zA z2;have Y3:=zA z3;have BE:=zA (set4_below Q5.out.bel (zC _) (.int .i64 k0) (.slice AD ns.length CP) (.slice none 0 0) (.slice none 0 0));clear z0 z1 z2 z3;go_wp2;refine bodyPost_ret (v:=.tuple #[.agg #[.int .i64 k0,.slice AD ns.length CP,(.slice none 0 0),(.slice none 0 0)],.bool false]) ?_ rfl (rEnd_none HRN.out BE.out _ _ _ _ _ _ _ _ _ _);simp[results,Try.results74,go_sem,Y0.out,Y1.out,Y2.out,Y3.out])
end Go.Proofs.Ytjoddkeamboeoaa
