/- endSessions of the program. -/
import Derived.Test.YtojcakkkakmniaaGreatDoorJ6
import Derived.Test.YtojcakkkakmniaaGreatDoorJ7
namespace Go.Proofs.YtojcakkkakmniaaGreatDoor
open Go.RowKit Go.PlainAid Go.Proofs.YtojcakkkakmniaaGreatDoor.Bt Go.Sort
set_option linter.unusedVariables false
set_option maxRecDepth 20000
theorem ap_of {α β:Type} {c:α→List Value} {c':β→List Value} {K K':Nat} {e e':TypeId} {w:World} {B B':Nat} {v u:Value} {xs:List α} {ys:List β} (o:OwnS c K e w B v xs) (o':OwnS c' K' e' w B' u ys) (hne:e ≠ e'):Ap v u:=by
 intro k hk hk'
 rcases o.2 with ⟨h1,_⟩ | ⟨g,cap,cur,h1,_,hg1,_⟩
 ·rw [h1] at hk;cases hk
 rcases o'.2 with ⟨h2,_⟩ | ⟨g',cap',cur',h2,_,hg2,_⟩
 ·rw [h2] at hk';cases hk'
 rw [h1] at hk
 rw [h2] at hk'
 have e1:g=k:=by simpa [Value.ownBlock] using hk
 have e2:g'=k:=by simpa [Value.ownBlock] using hk'
 subst e1;subst e2
 rw [hg1] at hg2
 cases hg2
 exact hne rfl
theorem own4_of {w:World} {B B':Nat} {vu vs vf vr:Value} {us:List UserV} {ss:List SessV} {fs:List FailV} {rs:List RecV} (u:OwnS uvG 6 84 w B vu us) (s:OwnS svG 10 80 w B vs ss) (f:OwnS fvG 3 115 w B vf fs) (r:OwnS evG 5 86 w B vr rs) (hb:B'≤B):Own4 w B' vu vs vf vr us ss fs rs :=
 ⟨u.lower hb,s.lower hb,f.lower hb,r.lower hb,ap_of u s (by decide),ap_of u f (by decide),ap_of u r (by decide),ap_of s f (by decide),ap_of s r (by decide),ap_of f r (by decide)⟩
end Go.Proofs.YtojcakkkakmniaaGreatDoor
