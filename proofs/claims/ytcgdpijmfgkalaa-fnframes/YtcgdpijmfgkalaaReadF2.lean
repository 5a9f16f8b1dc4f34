/- ReadFrame, the program's and the model's, further. -/
import Derived.Test.YtcgdpijmfgkalaaReadF
import Derived.Test.YtcgdpijmfgkalaaSpecFrame
import Derived.Test.YtcgdpijmfgkalaaCut2
namespace Go.Proofs.Ytcgdpijmfgkalaa
open Go.RowKit Go.PlainAid
set_option linter.unusedVariables false
set_option maxRecDepth 20000

/-- The empty answer with a code. -/
theorem readFrame_long (a : Option Addr) (len cap : Nat) (w : World) (hl : 65536 < len) :
    Calls Try.prog 10 #[.slice a len cap] w fun e w' => e = .returned (.tuple #[.agg #[.string ⟨#[]⟩, .string ⟨#[]⟩, .int .i64 0, .string ⟨#[]⟩], .int .i64 2]) ∧ Below w.heap.size w w' := by
  go_enter Try.func10, Try.ntmps10
  go_wp2
  go_returns
  exact ⟨rfl, (Below.refl _ _).alloc (Nat.le_refl _) _⟩
theorem readFrame_form (a : Option Addr) (len cap : Nat) (w : World) (hl : len ≤ 65536) (h : len < 14 ∨ 414 < len) :
    Calls Try.prog 10 #[.slice a len cap] w fun e w' => e = .returned (.tuple #[.agg #[.string ⟨#[]⟩, .string ⟨#[]⟩, .int .i64 0, .string ⟨#[]⟩], .int .i64 3]) ∧ Below w.heap.size w w' := by
  rcases h with h | h
  all_goals
    go_enter Try.func10, Try.ntmps10
    go_wp2
    go_returns
    exact ⟨rfl, (Below.refl _ _).alloc (Nat.le_refl _) _⟩
set_option maxHeartbeats 1000000 in
theorem readFrame_proto (a : Option Addr) (len cap : Nat) (f : Nat → Int) (w : World) (h : Bytes w a len f) (hc : len ≤ cap) (hx : cap ≤ 9223372036854775807) (h14 : 14 ≤ len) (h414 : len ≤ 414) (hk : ¬ (pn f 12 2 = 2048 ∨ pn f 12 2 = 2054)) :
    Calls Try.prog 10 #[.slice a len cap] w fun e w' => e = .returned (.tuple #[.agg #[.string ⟨#[]⟩, .string ⟨#[]⟩, .int .i64 0, .string ⟨#[]⟩], .int .i64 10]) ∧ Below w.heap.size w w' := by
  have HK : Hid (decide (pn f 12 2 = 2048 ∨ pn f 12 2 = 2054) = false) := decide_eq_false hk
  have X : Hid (RdS w [.string ⟨#[]⟩, .string ⟨#[]⟩, .int .i64 0, .string ⟨#[]⟩] a len f (w.alloc (.cells #[.string ⟨#[]⟩, .string ⟨#[]⟩, .int .i64 0, .string ⟨#[]⟩] 24))) := RdS.new h _
  clear hk h
  go_enter Try.func10, Try.ntmps10
  go_wp2_with fail
  refine (at_pn _ len _ f 12 2 _ X.out.1 (by omega) hc hx (by omega) (by omega)).mono ?_
  rintro e w1 ⟨rfl, hw1⟩
  obtain rfl := hw1.symm
  clear hw1
  go_wp2_with fail
  refine (kindOK_any _ _).mono ?_
  rintro e w1 ⟨he, hw1⟩
  rw [HK.out] at he
  subst he
  obtain rfl := hw1.symm
  clear hw1
  go_wp2
  go_returns
  exact ⟨rfl, (Below.refl _ _).alloc (Nat.le_refl _) _⟩

end Go.Proofs.Ytcgdpijmfgkalaa
