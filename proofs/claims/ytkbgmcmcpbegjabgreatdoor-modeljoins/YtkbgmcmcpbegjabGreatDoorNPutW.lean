/- Pairs in memory: what is read of them; a row of two words that is made. -/
import Derived.Test.YtkbgmcmcpbegjabGreatDoorNPutM
import Derived.Test.YtkbgmcmcpbegjabGreatDoorMH14
import Derived.Test.YtkbgmcmcpbegjabGreatDoorMH27
import Derived.Test.YtkbgmcmcpbegjabGreatDoorMH45
import Derived.Test.YtkbgmcmcpbegjabGreatDoorMH39
import Derived.Test.YtkbgmcmcpbegjabGreatDoorMH28
set_option maxRecDepth 100000
namespace Go.Proofs.YtkbgmcmcpbegjabGreatDoor
open Go.RowKit Go.Shelf
theorem RowsS.at_{w:World}{ao:Option Addr}{n cap i:Nat}{rs:List (Value×Rw)}{v:Value}{r:Rw}(h:RowsS w (.slice ao n cap) rs)(hi:rs[i]?=some (v,r)):∃g off,ao=some ⟨g,off,none⟩/\g<w.heap.size/\w.cell? ⟨g,off+i,none⟩=some v/\TxtS (fun _=>True) w v r/\r.length<=1000000:=by
 obtain⟨g,off,e,_,hl,hc⟩:=h.src.sl.get hi;have:=hc 0 _ rfl;rw[Nat.mul_one,Nat.add_zero]at this;exact⟨g,off,e,hl,this,h.rows _ (List.mem_of_getElem? hi)⟩
theorem RowsS.pair{w:World}{ao:Option Addr}{n cap i:Nat}{rs:List (Value×Rw)}{v:Value}{x y:Wd}(h:RowsS w (.slice ao n cap) rs)(hi:rs[i]?=some (v,[x,y])):
 ∃g off a b c,ao=some ⟨g,off,none⟩/\g<w.heap.size/\b<w.heap.size/\v=.slice (some ⟨b,a,none⟩) 2 c/\w.cell? ⟨g,off+i,none⟩=some (.slice (some ⟨b,a,none⟩) 2 c)/\w.cell? ⟨b,a,none⟩=some (.string ⟨x.toArray⟩)/\w.cell? ⟨b,a+1,none⟩=some (.string ⟨y.toArray⟩):=by
 obtain⟨g,off,e,hl,hc,ht,_⟩:=h.at_ hi;obtain⟨a0,c,hv⟩:=ht.slice;rw[hv]at ht;obtain⟨b,a,e2,_,hb,h0⟩:=SlS.get ht (j:=0) (x:=x) rfl;obtain⟨b2,a2,e3,_,_,h1⟩:=SlS.get ht (j:=1) (x:=y) rfl;rw[e2]at e3;injection e3 with e3;injection e3 with e4 e5;subst e4 e5;have k0:=h0 0 _ rfl;have k1:=h1 0 _ rfl;rw[Nat.zero_mul,Nat.add_zero]at k0;rw[Nat.mul_one,Nat.add_zero]at k1;have hv2:v=.slice (some ⟨b,a,none⟩) 2 c:=by rw[hv,e2];rfl
 exact⟨g,off,a,b,c,e,hl,hb,hv2,by rw[<- hv2];exact hc,k0,k1⟩
theorem put_two{w:World}{v:Value}{L:List Rw}(x y:Wd)(h:RowsM w v L)(hl:L.length<=1000000000000)(hr:RiseL lessR L):
 Calls Tryz.prog 15 #[v,.slice (some ⟨w.heap.size,0,none⟩) 2 2] (w.drew.alloc (.cells #[.string ⟨x.toArray⟩,.string ⟨y.toArray⟩] 9)) fun e w'=>∃v',e=.returned v'/\RowsM w' v' (putL lessR L [x,y])/\Below (w.drew.alloc (.cells #[.string ⟨x.toArray⟩,.string ⟨y.toArray⟩] 9)).heap.size (w.drew.alloc (.cells #[.string ⟨x.toArray⟩,.string ⟨y.toArray⟩] 9)) w':=by
 have hbl:RBlk (w.drew.alloc (.cells #[.string ⟨x.toArray⟩,.string ⟨y.toArray⟩] 9)) (w.heap.size,[x,y]):=heap_alloc_new w.drew _;exact rPutRow_any (h.below ((Below.refl _ _).drew.alloc (Nat.le_refl _) _)) hl hr hbl.txt (by simp)
theorem box_pathN{w u:World}{k:Int}{wd:List UInt8}{val:Value}(hu:Below (w.alloc (.cells #[.int .i64 k,.string ⟨wd.toArray⟩,val] 28 (0,0))).heap.size (w.alloc (.cells #[.int .i64 k,.string ⟨wd.toArray⟩,val] 28 (0,0))) u):
 Below w.heap.size w u/\u.cell? ⟨w.heap.size,0,none⟩=some (.int .i64 k)/\u.cell? ⟨w.heap.size,1,none⟩=some (.string ⟨wd.toArray⟩)/\u.cell? ⟨w.heap.size,2,none⟩=some val:=
 ⟨below_boxQ hu,(cells3G (box_keptQ hu)).1⟩
theorem may_highN{t:Pt}(h:mayP t=true):high t<=12:=by
 simp only[mayP,Bool.and_eq_true,decide_eq_true_eq]at h;have key:∀(d:Nat) (t:Pt),shapedP d t=true->high t<=d:=by
  intro d;induction d with
  |zero=>intro t h;simp[shapedP]at h
  |succ d ih=>
   rintro⟨k,w,l⟩ h;simp only[shapedP,Bool.and_eq_true,List.all_eq_true]at h;rw[high_mk];have h2:∀(l:List Nat) (a:Nat),a<=d->(∀x∈l,x<=d)->l.foldl max a<=d:=by
    intro l;induction l with
    |nil=>intro a h _;exact h
    |cons y l ih2=>
     intro a h h3;exact ih2 _ (Nat.max_le.2 ⟨h,h3 y (by simp)⟩) (fun x hx=>h3 x (by simp[hx]))
   have:=h2 (l.map high) 0 (Nat.zero_le _) (fun x hx=>by
    obtain⟨y,hy,rfl⟩:=List.mem_map.1 hx;exact ih y (h.2 y hy))
   omega
 exact key 12 t h.1
theorem may_leavesN{t:Pt}(h:mayP t=true):leaves t<=24:=by
 simp only[mayP,Bool.and_eq_true,decide_eq_true_eq]at h;exact h.2
end Go.Proofs.YtkbgmcmcpbegjabGreatDoor
