/- Rows put one behind the other, without memory; paths of paths that may be. -/
import Derived.Test.YtkbgmcmcpbegjabGreatDoorMH27
import Derived.Test.YtkbgmcmcpbegjabGreatDoorMH5
set_option maxRecDepth 100000
namespace Go.Proofs.YtkbgmcmcpbegjabGreatDoor
open Go.RowKit
theorem shaped_highN:∀(e d:Nat) (t:Pt),shapedP d t=true->high t<=e->shapedP e t=true
 |0,d,⟨k,w,l⟩,_,h=>by rw[high_mk]at h;omega
 |e+1,0,t,hs,_=>by simp[shapedP]at hs
 |e+1,d+1,⟨k,w,l⟩,hs,hh=>by
  simp only[shapedP,Bool.and_eq_true,decide_eq_true_eq,List.all_eq_true]at hs ⊢;refine⟨hs.1,fun x hx=>shaped_highN e d x (hs.2 x hx) ?_⟩;rw[high_mk]at hh;have key:∀(l:List Nat) (a x:Nat),x∈l\/x<=a->x<=l.foldl max a:=by
   intro l;induction l with
   |nil=>
    intro a x h;rcases h with h|h
    . cases h
    . exact h
   |cons y l ih=>
    intro a x h;rw[List.foldl_cons];refine ih _ _ ?_;rcases h with h|h
    . rcases List.mem_cons.1 h with rfl|h
      . exact .inr (Nat.le_max_right _ _)
      . exact .inl h
    . exact .inr (Nat.le_trans h (Nat.le_max_left _ _))
  have:=key (l.map high) 0 (high x) (.inl (List.mem_map_of_mem hx));omega
theorem may_oneN{k:Int}{t:Pt}(hk:k=4\/k=5\/k=6)(h:mayP t=true)(h11:high t<=11):mayP ⟨k,[],[t]⟩=true:=by
 simp only[mayP,Bool.and_eq_true,decide_eq_true_eq]at h ⊢;have hs:=shaped_highN 11 12 t h.1 h11;refine⟨?_,?_⟩
 . rw[shapedP];simp only[List.all_cons,List.all_nil,hs];rcases hk with rfl|rfl|rfl<;>rfl
 . rw[leaves_mk,if_neg (by omega)];simpa using h.2
theorem may_twoN{k:Int}{p q:Pt}(hk:k=2\/k=3)(hp:mayP p=true)(hq:mayP q=true)(h1:high p<=11)(h2:high q<=11)(h3:leaves p+leaves q<=24):mayP ⟨k,[],[p,q]⟩=true:=by
 simp only[mayP,Bool.and_eq_true,decide_eq_true_eq]at hp hq ⊢;have a:=shaped_highN 11 12 p hp.1 h1;have b:=shaped_highN 11 12 q hq.1 h2;refine⟨?_,?_⟩
 . rw[shapedP];simp only[List.all_cons,List.all_nil,a,b];rcases hk with rfl|rfl<;>rfl
 . rw[leaves_mk,if_neg (by omega)];simp;omega
def putAll(L M:List Rw):List Rw:=M.foldl (putL lessR) L
theorem putAll_snoc(L M:List Rw)(r:Rw):putAll L (M++[r])=putL lessR (putAll L M) r:=by simp[putAll]
theorem putAll_spec:∀(M L:List Rw),RiseL lessR L->RiseL lessR (putAll L M)/\∀r,r∈putAll L M↔r∈L\/r∈M
 |[],L,h=>⟨h,fun r=>by simp[putAll]⟩
 |x::M,L,h=>by
  obtain⟨h1,h2⟩:=putAll_spec M (putL lessR L x) (h.put ordR);refine⟨h1,fun r=>?_⟩;show r∈putAll (putL lessR L x) M↔_;rw[h2,mem_putL,List.mem_cons];constructor
  . rintro ((h|h)|h)
    . exact .inr (.inl h)
    . exact .inl h
    . exact .inr (.inr h)
  . rintro (h|h|h)
    . exact .inl (.inr h)
    . exact .inl (.inl h)
    . exact .inr h
theorem putAll_len:∀(M L:List Rw),(putAll L M).length<=L.length+M.length
 |[],L=>by simp[putAll]
 |x::M,L=>by
  have h1:=putAll_len M (putL lessR L x);have h2:=putL_len (lt:=lessR) L x;show (putAll (putL lessR L x) M).length<=_;simp only[List.length_cons];omega
def cndR(r:Rw)(O:List Rw):List Rw:=(O.filter fun s=>decide (r.getD 1 []=s.getD 0 [])).map fun s=>[r.getD 0 [],s.getD 1 []]
theorem cnd_snoc(r:Rw)(O:List Rw)(s:Rw):cndR r (O++[s])=cndR r O++(if r.getD 1 []=s.getD 0 []then [[r.getD 0 [],s.getD 1 []]]else []):=by
 unfold cndR;rw[List.filter_append,List.map_append];congr 1;by_cases h:r.getD 1 []=s.getD 0 []
 . rw[if_pos h,List.filter_cons_of_pos (p:=fun s:Rw=>decide (r.getD 1 []=s.getD 0 [])) (decide_eq_true h)];rfl
 . rw[if_neg h,List.filter_cons_of_neg (p:=fun s:Rw=>decide (r.getD 1 []=s.getD 0 [])) (fun e=>h (of_decide_eq_true e))];rfl
theorem cnd_len(r:Rw)(O:List Rw):(cndR r O).length<=O.length:=by
 unfold cndR;rw[List.length_map];exact List.length_filter_le _ _
theorem mem_cnd{r:Rw}{O:List Rw}{t:Rw}:t∈cndR r O↔∃s∈O,r.getD 1 []=s.getD 0 []/\t=[r.getD 0 [],s.getD 1 []]:=by
 unfold cndR;rw[List.mem_map];constructor
 . rintro⟨s,hs,rfl⟩;obtain⟨h1,h2⟩:=List.mem_filter.1 hs;exact⟨s,h1,by simpa using h2,rfl⟩
 . rintro⟨s,hs,h1,rfl⟩;exact⟨s,List.mem_filter.2 ⟨hs,by simpa using h1⟩,rfl⟩
def cndAll(P O:List Rw):List Rw:=P.flatMap fun r=>cndR r O
theorem cndAll_len:∀(P O:List Rw),(cndAll P O).length<=P.length*O.length
 |[],O=>by simp[cndAll]
 |r::P,O=>by
  have h1:=cndAll_len P O;have h2:=cnd_len r O;show (List.flatMap (fun r=>cndR r O) (r::P)).length<=_;rw[List.flatMap_cons,List.length_append,List.length_cons,Nat.succ_mul];unfold cndAll at h1;omega
theorem cndAll_snoc(P O:List Rw)(r:Rw):cndAll (P++[r]) O=cndAll P O++cndR r O:=by simp[cndAll]
theorem cnd_nil(r:Rw):cndR r []=[]:=rfl
theorem mem_cndAll{P O:List Rw}{R Q:Wd->Wd->Prop}(hP:∀r,r∈P↔∃x y,r=[x,y]/\R x y)(hO:∀r,r∈O↔∃x y,r=[x,y]/\Q x y)(t:Rw):t∈cndAll P O↔∃x z,t=[x,z]/\∃y,R x y/\Q y z:=by
 unfold cndAll;rw[List.mem_flatMap];constructor
 . rintro⟨r,hr,ht⟩;obtain⟨s,hs,h1,rfl⟩:=mem_cnd.1 ht;obtain⟨x,y,rfl,hxy⟩:=(hP r).1 hr;obtain⟨y2,z,rfl,hyz⟩:=(hO s).1 hs;have:y=y2:=by simpa using h1
   subst this;exact⟨x,z,by simp,y,hxy,hyz⟩
 . rintro⟨x,z,rfl,y,hxy,hyz⟩;exact⟨[x,y],(hP _).2 ⟨x,y,rfl,hxy⟩,mem_cnd.2 ⟨[y,z],(hO _).2 ⟨y,z,rfl,hyz⟩,by simp,by simp⟩⟩
theorem will_one(k:Int)(p:Pt):willL ⟨k,[],[p]⟩=kindL k [] [willL p]:=by rw[willL_mk];rfl
theorem will_two(k:Int)(p q:Pt):willL ⟨k,[],[p,q]⟩=kindL k [] [willL p,willL q]:=by rw[willL_mk];rfl
theorem alt_oneN(f:List Wd->Prop):altL [f]=f:=by funext l;simp[altL]
theorem pairs_star{fs:List Fa}{p:Pt}(h5:mayP ⟨5,[],[p]⟩=true)(h4:mayP ⟨4,[],[p]⟩=true):pairsL fs ⟨4,[],[p]⟩=putAll (pairsL fs ⟨5,[],[p]⟩) ((vertsL fs).map fun v=>[v,v]):=by
 obtain⟨a1,a2⟩:=pairsL_spec fs h5;obtain⟨b1,b2⟩:=pairsL_spec fs h4;obtain⟨c1,c2⟩:=putAll_spec ((vertsL fs).map fun v=>[v,v]) _ a1;refine riseL_ext ordR b1 c1 (fun r=>?_);have e5:kindL 5 [] [willL p]=plusL (willL p):=by funext l;simp[kindL,alt_oneN]
 have e4:kindL 4 [] [willL p]=starL (willL p):=by funext l;simp[kindL,alt_oneN]
 rw[b2,c2,a2,List.mem_map];unfold leadP;rw[will_one,will_one,e5,e4];constructor
 . rintro⟨x,y,rfl,h⟩;rcases (lead_star fs (willL p) x y).1 h with h|⟨hv,rfl⟩
   . exact .inl ⟨x,y,rfl,h⟩
   . exact .inr ⟨x,hv,rfl⟩
 . rintro (⟨x,y,rfl,h⟩|⟨v,hv,rfl⟩)
   . exact⟨x,y,rfl,(lead_star fs (willL p) x y).2 (.inl h)⟩
   . exact⟨v,v,rfl,(lead_star fs (willL p) v v).2 (.inr ⟨hv,rfl⟩)⟩
theorem pairs_again{fs:List Fa}{p:Pt}(h1:mayP p=true)(h5:mayP ⟨5,[],[p]⟩=true):putAll (pairsL fs p) (cndAll (pairsL fs ⟨5,[],[p]⟩) (pairsL fs p))=pairsL fs ⟨5,[],[p]⟩:=by
 obtain⟨a1,a2⟩:=pairsL_spec fs h5;obtain⟨b1,b2⟩:=pairsL_spec fs h1;obtain⟨c1,c2⟩:=putAll_spec (cndAll (pairsL fs ⟨5,[],[p]⟩) (pairsL fs p)) _ b1;refine riseL_ext ordR c1 a1 (fun r=>?_);have e5:kindL 5 [] [willL p]=plusL (willL p):=by funext l;simp[kindL,alt_oneN]
 have hpl:∀x y,leadP fs ⟨5,[],[p]⟩ x y↔∃n,powR (leadP fs p) n x y:=fun x y=>by
  have:=lead_plus fs (willL p) x y;unfold leadP;rw[will_one,e5];exact this
 rw[c2,mem_cndAll a2 b2,a2,b2];constructor
 . rintro (⟨x,y,rfl,h⟩|⟨x,z,rfl,y,h,k⟩)
   . exact⟨x,y,rfl,(hpl x y).2 ⟨0,h⟩⟩
   . obtain⟨n,hn⟩:=(hpl x y).1 h;exact⟨x,z,rfl,(hpl x z).2 ⟨n+1,y,hn,k⟩⟩
 . rintro⟨x,y,rfl,h⟩;obtain⟨n,hn⟩:=(hpl x y).1 h;cases n with
   |zero=>exact .inl ⟨x,y,rfl,hn⟩
   |succ n=>
    obtain⟨z,h1,h2⟩:=hn;exact .inr ⟨x,y,rfl,z,(hpl x z).2 ⟨n,h1⟩,h2⟩
theorem pairs_seq{fs:List Fa}{p q:Pt}(hp:mayP p=true)(hq:mayP q=true)(h:mayP ⟨2,[],[p,q]⟩=true):pairsL fs ⟨2,[],[p,q]⟩=putAll [] (cndAll (pairsL fs p) (pairsL fs q)):=by
 obtain⟨a1,a2⟩:=pairsL_spec fs h;obtain⟨b1,b2⟩:=pairsL_spec fs hp;obtain⟨c1,c2⟩:=pairsL_spec fs hq;obtain⟨d1,d2⟩:=putAll_spec (cndAll (pairsL fs p) (pairsL fs q)) [] List.Pairwise.nil;refine riseL_ext ordR a1 d1 (fun r=>?_);have e2:kindL 2 [] [willL p,willL q]=seqL [willL p,willL q]:=by funext l;simp[kindL]
 have hs:∀x y,leadP fs ⟨2,[],[p,q]⟩ x y↔∃z,leadP fs p x z/\leadP fs q z y:=fun x y=>by
  unfold leadP;rw[will_two,e2];have h1:=lead_seq_snoc fs [willL p] (willL q) x y;rw[show [willL p]++[willL q]=[willL p,willL q]from rfl]at h1;rw[h1];constructor
  . rintro⟨z,h2,h3⟩;have h4:=(lead_seq_snoc fs [] (willL p) x z).1 h2;obtain⟨u,h5,h6⟩:=h4;obtain⟨_,rfl⟩:=(lead_seq_nil fs x u).1 h5;exact⟨z,h6,h3⟩
  . rintro⟨z,h2,h3⟩;exact⟨z,(lead_seq_snoc fs [] (willL p) x z).2 ⟨x,(lead_seq_nil fs x x).2 ⟨h2.1,rfl⟩,h2⟩,h3⟩
 rw[a2,d2,mem_cndAll b2 c2];constructor
 . rintro⟨x,y,rfl,h⟩;obtain⟨z,h1,h2⟩:=(hs x y).1 h;exact .inr ⟨x,y,rfl,z,h1,h2⟩
 . rintro (h|⟨x,z,rfl,y,h1,h2⟩)
   . cases h
   . exact⟨x,z,rfl,(hs x z).2 ⟨y,h1,h2⟩⟩
theorem pairs_alt{fs:List Fa}{p q:Pt}(hp:mayP p=true)(hq:mayP q=true)(h:mayP ⟨3,[],[p,q]⟩=true):pairsL fs ⟨3,[],[p,q]⟩=putAll [] (pairsL fs p++pairsL fs q):=by
 obtain⟨a1,a2⟩:=pairsL_spec fs h;obtain⟨b1,b2⟩:=pairsL_spec fs hp;obtain⟨c1,c2⟩:=pairsL_spec fs hq;obtain⟨d1,d2⟩:=putAll_spec (pairsL fs p++pairsL fs q) [] List.Pairwise.nil;refine riseL_ext ordR a1 d1 (fun r=>?_);have e3:kindL 3 [] [willL p,willL q]=altL [willL p,willL q]:=by funext l;simp[kindL]
 have hs:∀x y,leadP fs ⟨3,[],[p,q]⟩ x y↔leadP fs p x y\/leadP fs q x y:=fun x y=>by
  unfold leadP;rw[will_two,e3,lead_alt];simp
 rw[a2,d2,List.mem_append,b2,c2];constructor
 . rintro⟨x,y,rfl,h⟩;rcases (hs x y).1 h with h|h
   . exact .inr (.inl ⟨x,y,rfl,h⟩)
   . exact .inr (.inr ⟨x,y,rfl,h⟩)
 . rintro (h|⟨x,y,rfl,h⟩|⟨x,y,rfl,h⟩)
   . cases h
   . exact⟨x,y,rfl,(hs x y).2 (.inl h)⟩
   . exact⟨x,y,rfl,(hs x y).2 (.inr h)⟩
theorem pairs_lenN(fs:List Fa)(p:Pt):(pairsL fs p).length<=(vertsL fs).length*(vertsL fs).length:=pairsTo_len _ _ _
end Go.Proofs.YtkbgmcmcpbegjabGreatDoor
