/- The walk of laws.FnExactMeanOf: true at every list of integers. -/
import Derived.Test.YtfcdobicilediabNums
import Derived.OpenShut
namespace Go.Proofs.Ytfcdobicilediab
open Go.RowKit Go.PlainAid Go.Sort
set_option linter.unusedVariables false
set_option maxRecDepth 20000

theorem nm_of_row {w : World} {a : Option Addr} {len cap : Nat} {zs : List Int}
    (h : (a = none ∧ len = 0 ∧ cap = 0 ∧ zs = []) ∨ ∃ x, a = some x ∧ len ≤ cap ∧ cap ≤ maxLen ∧ zs.length = cap ∧ (∀ i, i < zs.length → w.cell? (x.add i) = some (.int .i64 (zs.getD i 0))) ∧ ∀ n ∈ zs, (Lit.int .i64 n).wf = true) :
    Nm w a len (fun i => zs.getD i 0) ∧ len ≤ maxLen := by
  rcases h with ⟨rfl, rfl, rfl, rfl⟩ | ⟨x, rfl, hl, hm, hz, hcell, hwz⟩
  · exact ⟨fun h => absurd h (by omega), Nat.zero_le _⟩
  · refine ⟨fun h0 => ?_, by omega⟩
    obtain ⟨b, off, spot⟩ := x
    have hc := hcell 0 (by omega)
    have hspot : spot = none := by simpa [Addr.add] using World.cell?_spot hc
    subst hspot
    refine ⟨b, off, rfl, by simpa [Addr.add] using World.block_lt_of_cell? w _ hc, fun i hi => ?_⟩
    have ea : (⟨b, off, none⟩ : Addr).add i = ⟨b, off + i, none⟩ := by unfold Addr.add; split <;> simp_all
    have := hcell i (by omega)
    rwa [ea] at this
theorem lawMeanOf_any (a : Option Addr) (len cap : Nat) (f : Nat → Int) (w : World) (h : Nm w a len f) (hm : len ≤ maxLen) :
    Calls Try.prog 6 #[.slice a len cap] w fun e w' => e = .returned (.bool true) ∧ Below w.heap.size w w' := by
  by_cases hl : 1048576 < len
  · have hlz : (1048576 : Int) < (len : Int) := by omega
    go_enter Try.func6, Try.ntmps6
    go_wp2
    go_ret
    exact ⟨rfl, Below.refl _ _⟩
  have hlz : (len : Int) ≤ (1048576 : Int) := by omega
  have H : Hid (Nm w a len f) := h
  have HT : Hid (∀ wx, Nm wx a len f → Calls Try.prog 23 #[.slice a len cap] wx fun e w' => e = .returned (.slice (some ⟨wx.heap.size, 0, none⟩) len len) ∧ FillI wx w' len len f) := fun wx hx => toIntS_any a len cap f wx hx (by omega)
  have HS : Hid (∀ g wx, Nm wx (some ⟨g, 0, none⟩) len f → Calls Try.prog 22 #[.slice (some ⟨g, 0, none⟩) len len] wx fun e w' => e = .returned (.tuple #[.int .i64 (meanV f len), .int .i64 (meanK f len)]) ∧ w' = wx) := fun g wx hx => sMean_any _ len len f wx hx (by omega)
  have HI : Hid (∀ g wx, Nm wx (some ⟨g, 0, none⟩) len f → Calls Try.prog 24 #[.slice (some ⟨g, 0, none⟩) len len] wx fun e w' => e = .returned (.tuple #[.int .i64 (meanV f len), .int .i64 (meanK f len)]) ∧ w' = wx) := fun g wx hx => iMean_any _ len len f wx hx (by omega)
  have HE : Hid (∀ g g' wx, Nm wx (some ⟨g, 0, none⟩) len f → Nm wx (some ⟨g', 0, none⟩) len f → Calls Try.prog 25 #[.slice (some ⟨g, 0, none⟩) len len, .slice (some ⟨g', 0, none⟩) len len] wx fun e w' => e = .returned (.bool true) ∧ Below wx.heap.size wx w') := fun g g' wx hx hy => eqIntN_yes _ _ len len len f wx hx hy (by omega)
  clear h
  generalize meanV f len = q1 at *
  generalize meanK f len = q2 at *
  have n1 : (q1 != q1) = false := by simp
  have n2 : (q2 != q2) = false := by simp
  go_enter Try.func6, Try.ntmps6
  go_wp2_with fail
  refine (HT.out _ H.out).mono ?_
  rintro e w1 ⟨rfl, F1⟩
  have X1 : Hid (Nm w1 (some ⟨w.heap.size, 0, none⟩) len f ∧ Below w.heap.size w w1) := ⟨F1.nm, F1.1⟩
  clear F1
  go_wp2_with fail
  refine (HS.out _ _ X1.out.1).mono ?_
  rintro e w1' ⟨rfl, hw⟩
  subst hw
  go_wp2_with fail
  refine (HT.out _ (H.out.below X1.out.2 (Nat.le_refl _))).mono ?_
  rintro e w2 ⟨rfl, F2⟩
  rename_i w1x
  have X2 : Hid (Nm w2 (some ⟨w1'.heap.size, 0, none⟩) len f ∧ Below w.heap.size w w2) := ⟨F2.nm, X1.out.2.trans (F2.1.mono X1.out.2.size)⟩
  clear F2
  go_wp2_with fail
  refine (HI.out _ _ X2.out.1).mono ?_
  rintro e w2' ⟨rfl, hw⟩
  subst hw
  go_wp2_with fail
  refine (HT.out _ (H.out.below X2.out.2 (Nat.le_refl _))).mono ?_
  rintro e w3 ⟨rfl, F3⟩
  have X3 : Hid (Nm w3 (some ⟨w1'.heap.size, 0, none⟩) len f ∧ Nm w3 (some ⟨w2'.heap.size, 0, none⟩) len f ∧ Below w.heap.size w w3) := ⟨X2.out.1.below F3.1 (Nat.le_refl _), F3.nm, X2.out.2.trans (F3.1.mono X2.out.2.size)⟩
  clear F3
  go_wp2_with fail
  refine (HE.out _ _ _ X3.out.1 X3.out.2.1).mono ?_
  rintro e w4 ⟨rfl, b4⟩
  have B4 : Hid (Below w.heap.size w w4) := X3.out.2.2.trans (b4.mono X3.out.2.2.size)
  clear b4
  go_wp2
  go_ret
  exact ⟨rfl, B4.out⟩
end Go.Proofs.Ytfcdobicilediab
