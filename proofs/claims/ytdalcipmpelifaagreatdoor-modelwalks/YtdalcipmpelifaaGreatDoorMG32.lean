/- XNarrow. -/
import Derived.Test.YtdalcipmpelifaaGreatDoorMG31
set_option maxRecDepth 100000
namespace Go.Proofs.YtdalcipmpelifaaGreatDoor
open Go.RowKit Go.Shelf
abbrev Lm:=Nat×Nat×Nat×Nat
abbrev csL(x:Lm):List Value:=[.int .i64 (x.1:Int),.int .i64 (x.2.1:Int),.pointer (some ⟨x.2.2.1,0,none⟩),.pointer (some ⟨x.2.2.2,0,none⟩)]
theorem csL_len(x:Lm):(csL x).length=4:=rfl
structure SeaOk (ds:List Sy) (n q sb:Nat) (Q:Nat->Nat->Prop):Prop where
 ex:∃d,ds[q]?=some (sb,d)/\d.n=n/\(∀u,(d.out u).length<=1000000)/\∀u x,u<n->x<n->(d.leads [u] x↔Q u x)
structure LinksOk (ds:List Sy) (n m:Nat) (lks:List Lm) (ls:List Lk):Prop where
 len:ls.length=lks.length
 at_:∀(i:Nat) L l,lks[i]?=some L->ls[i]?=some l->l.fr=L.1/\l.to=L.2.1/\L.1≠L.2.1/\L.1<m/\L.2.1<m/\SeaOk ds n (2*i) L.2.2.1 l.R/\SeaOk ds n (2*i+1) L.2.2.2 (fun v u=>l.R u v)
def NarE(w:World)(O F:Nat->Prop)(v:Value)(ds:List Sy)(n:Nat)(c:Ch)(e:Ending)(w':World):Prop:=
 e=.returned (.tuple #[])/\∃l' Z' rows',NI w O F (fun _=>False) v ds n c w' l' Z' rows'
theorem NI.some_strike{w0:World}{O F G:Nat->Prop}{v:Value}{ds:List Sy}{n:Nat}{c:Ch}{w:World}{l:List Sx}{Z:Nat->Prop}{rows:List (Value×List Nat)}(h:NI w0 O F G v ds n c w l Z rows)(hn:n<=10000)(hT:TabG w)(hF0:F 0){q sb:Nat}{Q:Nat->Nat->Prop}(hs:SeaOk ds n q sb Q){a b:Nat}(ha:a<c.length)(hb:b<c.length):
 Calls Tryz.prog 73 #[v,.pointer (some ⟨sb,0,none⟩),.int .i64 (a:Int),.int .i64 (b:Int)] w fun e w'=>e=.returned (.bool (decide (((atC c b).filter (leadB1 c a Q)).length≠(atC c b).length)))/\(∃l' Z' rows',NI w0 O F G v ds n (strikeC c a b Q) w' l' Z' rows')/\Fr G w w':=by
 obtain⟨d,h1,h2,h3,h4⟩:=hs.ex;exact h.strike hn hT hF0 h1 h2 h3 ha hb h4
theorem strike_len(c:Ch)(a b:Nat)(Q:Nat->Nat->Prop):(strikeC c a b Q).length=c.length:=by rw[strikeC,List.length_set]
end Go.Proofs.YtdalcipmpelifaaGreatDoor
