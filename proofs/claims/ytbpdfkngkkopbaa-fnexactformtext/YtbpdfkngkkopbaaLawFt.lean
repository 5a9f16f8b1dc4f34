/- The walk of the exact law of FormText. -/
import Derived.Test.YtbpdfkngkkopbaaFormW
namespace Go.Proofs.Ytbpdfkngkkopbaa
open Go.RowKit Go.PlainAid Go.Sort
set_option linter.unusedVariables false
set_option maxRecDepth 20000

theorem rwP {w : World} {B n cap : Nat} {a : Option Addr} {L : List PairV} (h : OwnS pvG 2 34 w B (.slice a n cap) L) (hok : ∀ x, x ∈ L → PrRok x) : Rw PrR 2 w a L := h.rw pvG_len hok
set_option maxHeartbeats 4000000 in
theorem lawFt_any (a : Option Addr) (len cap : Nat) (xs : List PairV) (w : World) (h : Rw PrR 2 w a xs) (hl : xs.length = len) (hm : len ≤ maxLen) :
    Calls Try.prog 3 #[.slice a len cap] w fun e w' => e = .returned (.bool true) ∧ Below w.heap.size w w' := by
  unfold maxLen at hm
  have RW : Hid (Rw PrR 2 w a xs) := h
  have HZ : Hid (Calls Try.prog 4 #[.slice a len cap, .int .i64 1048576] w fun e w' => ∃ r : Int, e = .returned (.int .i64 r) ∧ (0 ≤ r → (len : Int) ≤ 1048576 ∧ r ≤ 1048576 ∧ ∀ x, x ∈ xs → (x.ke.size : Int) ≤ 1048576 ∧ (x.va.size : Int) ≤ 1048576) ∧ -1 ≤ r ∧ r ≤ 1048576 ∧ Grw w w') := szPairS_any a len cap xs 1048576 w h hl (by omega) (by omega) (by omega)
  have HK : Hid (∀ x, x ∈ xs → PrRok x) := by
    intro x hx
    obtain ⟨i, hi⟩ := List.getElem?_of_mem hx
    obtain ⟨b, off, vs, _, _, _, h2, _⟩ := h.at FR.kp (Below.refl _ _) hi
    exact h2.2
  clear h
  go_enter Try.func3, Try.ntmps3
  go_wp2_with fail
  refine HZ.out.mono ?_
  rintro e w1 ⟨r, rfl, hr, hr1, hr2, g1⟩
  have B1 : Hid (Below w.heap.size w w1) := g1.below
  clear g1
  by_cases hr0 : r < 0
  · go_wp2
    go_ret
    exact ⟨rfl, B1.out⟩
  have hlen : len ≤ 1048576 := by have := (hr (by omega)).1; omega
  clear hr HZ
  have HT : Hid (∀ w, Rw PrR 2 w a xs → Calls Try.prog 6 #[.slice a len cap] w fun e w' => e = .returned (.slice (some ⟨w.heap.size, 0, none⟩) len len) ∧ OwnS pvG 2 34 w' w.heap.size (.slice (some ⟨w.heap.size, 0, none⟩) len len) xs ∧ Below w.heap.size w w') := fun w h => (toPairS_any a len cap xs w h hl hlen).mono fun e w' h => ⟨h.1, h.2.1, h.2.2.2⟩
  have HS : Hid (∀ w a, Rw PrR 2 w a xs → Calls Try.prog 5 #[.slice a len len] w fun e w' => e = .returned (.tuple #[.string (fmT xs), .int .i64 (fmC xs)]) ∧ Below w.heap.size w w') := fun w a h => by
    by_cases h8 : 8 < len
    · exact specForm_big a len len xs w hl h8
    · exact specForm_few a len len xs w h hl (by omega)
  have HI : Hid (∀ w a, Rw PrR 2 w a xs → Calls Try.prog 7 #[.slice a len len] w fun e w' => e = .returned (.tuple #[.string (fmT xs), .int .i64 (fmC xs)]) ∧ Below w.heap.size w w') := fun w a h => by
    by_cases h8 : 8 < len
    · exact implForm_big a len len xs w hl h8
    · exact implForm_few a len len xs w h hl (by omega)
  generalize fmC xs = c at HS HI
  generalize fmT xs = t at HS HI
  have HE : Hid (∀ (a a' : Option Addr) (cap cap' : Nat) w, Rw PrR 2 w a xs → Rw PrR 2 w a' xs → Calls Try.prog 8 #[.slice a len cap, .slice a' len cap'] w fun e w' => e = .returned (.bool true) ∧ Grw w w') := fun a a' cap cap' w h h' => eqPairS_yes a a' len cap cap' xs w h h' hl (by omega)
  have hnc : (c != c) = false := by simp
  have hnt : (t.toList == t.toList) = true := by simp
  go_wp2_with fail
  refine (HT.out _ (RW.out.keep FR.kp B1.out)).mono ?_
  rintro e w2 ⟨rfl, o2, b2⟩
  have X2 : Hid (Rw PrR 2 w2 (some ⟨w1.heap.size, 0, none⟩) xs ∧ Below w.heap.size w w2) := ⟨rwP o2 HK.out, B1.out.trans (b2.mono B1.out.size)⟩
  clear o2 b2
  go_wp2_with fail
  refine (HS.out _ _ X2.out.1).mono ?_
  rintro e w3 ⟨rfl, b3⟩
  have X3 : Hid (Below w.heap.size w w3) := X2.out.2.trans (b3.mono X2.out.2.size)
  clear b3 X2
  go_wp2_with fail
  refine (HT.out _ (RW.out.keep FR.kp X3.out)).mono ?_
  rintro e w4 ⟨rfl, o4, b4⟩
  have X4 : Hid (Rw PrR 2 w4 (some ⟨w3.heap.size, 0, none⟩) xs ∧ Below w.heap.size w w4) := ⟨rwP o4 HK.out, X3.out.trans (b4.mono X3.out.size)⟩
  clear o4 b4 X3
  go_wp2_with fail
  refine (HI.out _ _ X4.out.1).mono ?_
  rintro e w5 ⟨rfl, b5⟩
  have X5 : Hid (Rw PrR 2 w5 (some ⟨w3.heap.size, 0, none⟩) xs ∧ Below w.heap.size w w5) := ⟨X4.out.1.keep FR.kp b5, X4.out.2.trans (b5.mono X4.out.2.size)⟩
  clear b5 X4
  go_wp2_with fail
  refine (HT.out _ (RW.out.keep FR.kp X5.out.2)).mono ?_
  rintro e w6 ⟨rfl, o6, b6⟩
  have X6 : Hid (Rw PrR 2 w6 (some ⟨w3.heap.size, 0, none⟩) xs ∧ Rw PrR 2 w6 (some ⟨w5.heap.size, 0, none⟩) xs ∧ Below w.heap.size w w6) := ⟨X5.out.1.keep FR.kp b6, rwP o6 HK.out, X5.out.2.trans (b6.mono X5.out.2.size)⟩
  clear o6 b6 X5
  go_wp2_with fail
  refine (HE.out _ _ _ _ _ X6.out.1 X6.out.2.1).mono ?_
  rintro e w7 ⟨rfl, g7⟩
  have X7 : Hid (Below w.heap.size w w7) := X6.out.2.2.trans (g7.below.mono X6.out.2.2.size)
  clear g7 X6
  go_wp2
  go_ret
  exact ⟨rfl, X7.out⟩
end Go.Proofs.Ytbpdfkngkkopbaa
