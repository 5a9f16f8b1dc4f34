/- The walk of laws.FnExactLongestNet: true at every list of nets and every address. -/
import Derived.Test.YtbbjelkicenbhabPairS
import Derived.Test.YtbbjelkicenbhabNetLi
namespace Go.Proofs.Ytbbjelkicenbhab
open Go.RowKit Go.PlainAid Go.Sort
set_option linter.unusedVariables false
set_option maxRecDepth 20000

/-- A row of one's own may be read. -/
theorem OwnP.prs {e : TypeId} {w : World} {B n cap : Nat} {a : Option Addr} {L : List (Int × Int)} (h : OwnP e w B (.slice a n cap) L) : Prs w a L := by
  obtain ⟨a', cap', e1, hp, _⟩ := h.slice
  cases e1
  exact hp

set_option maxHeartbeats 1000000 in
theorem lawLongest_any (a : Option Addr) (len cap : Nat) (zs : List (Int × Int)) (x : Int) (w : World) (h : IsPairs w a len cap zs) :
    Calls Try.prog 4 #[.slice a len cap, .int .i64 x] w fun e w' => e = .returned (.bool true) ∧ Below w.heap.size w w' := by
  obtain ⟨hp, hl, hlc, hcm, -⟩ := h.prs
  unfold maxLen at hcm
  have H : Hid (Prs w a zs) := hp
  have HSZ : Hid (∀ w, Calls Try.prog 10 #[.slice a len cap, .int .i64 1048576] w fun e w' => ∃ r : Int, e = .returned (.int .i64 r) ∧ (0 ≤ r → len ≤ 1048576) ∧ -1 ≤ r ∧ r ≤ 1048576 ∧ w' = w) := fun w => szNetS_any a len cap w (by omega)
  clear h hp
  go_enter Try.func4, Try.ntmps4
  go_wp2_with fail
  refine (HSZ.out _).mono ?_
  rintro e w1 ⟨r, rfl, hr, r0, r1, hw⟩
  subst hw
  by_cases hneg : r < 0
  · go_wp2
    go_ret
    exact ⟨rfl, Below.refl _ _⟩
  have hlen := hr (by omega)
  clear hr HSZ
  have HT : Hid (∀ w, Prs w a zs → Calls Try.prog 12 #[.slice a len cap] w fun e w' => e = .returned (.slice (some ⟨w.heap.size, 0, none⟩) len len) ∧ OwnP 26 w' w.heap.size (.slice (some ⟨w.heap.size, 0, none⟩) len len) zs ∧ Below w.heap.size w w') := fun w h => toNetS_any a len cap zs w h hl hlen
  have HS : Hid (∀ w a, Prs w a zs → Calls Try.prog 11 #[.slice a len len, .int .i64 x] w fun e w' => e = .returned (.tuple #[.int .i64 (lnK zs x), .int .i64 (lnC zs x)]) ∧ Grw w w') := fun w a h => specLongest_any a len len zs x w h hl hlen
  have HI : Hid (∀ w a, Prs w a zs → Calls Try.prog 13 #[.slice a len len, .int .i64 x] w fun e w' => e = .returned (.tuple #[.int .i64 (lnK zs x), .int .i64 (lnC zs x)]) ∧ Grw w w') := fun w a h => implLongest_any a len len zs x w h hl
  have HE : Hid (∀ w a a', Prs w a zs → Prs w a' zs → Calls Try.prog 14 #[.slice a len len, .slice a' len len] w fun e w' => e = .returned (.bool true) ∧ Grw w w') := fun w a a' h h' => eqNetS_yes a a' len len len zs w h h' hl hlen
  generalize lnK zs x = p at HS HI
  generalize lnC zs x = c at HS HI
  have hnp : (p != p) = false := by simp
  have hnc : (c != c) = false := by simp
  go_wp2_with fail
  refine (HT.out _ H.out).mono ?_
  rintro e w2 ⟨rfl, o2, b2⟩
  have B2 : Hid (Below w1.heap.size w1 w2) := b2
  have O2 : Hid (Prs w2 (some ⟨w1.heap.size, 0, none⟩) zs) := o2.prs
  clear o2 b2
  go_wp2_with fail
  refine (HS.out _ _ O2.out).mono ?_
  rintro e w3 ⟨rfl, g3⟩
  have B3 : Hid (Below w1.heap.size w1 w3) := B2.out.trans (g3.below.mono B2.out.size)
  clear g3
  go_wp2_with fail
  refine (HT.out _ (H.out.keep B3.out)).mono ?_
  rintro e w4 ⟨rfl, o4, b4⟩
  have B4 : Hid (Below w1.heap.size w1 w4) := B3.out.trans (b4.mono B3.out.size)
  have O4 : Hid (Prs w4 (some ⟨w3.heap.size, 0, none⟩) zs) := o4.prs
  clear o4 b4
  go_wp2_with fail
  refine (HI.out _ _ O4.out).mono ?_
  rintro e w5 ⟨rfl, g5⟩
  have B5 : Hid (Below w1.heap.size w1 w5) := B4.out.trans (g5.below.mono B4.out.size)
  have O5 : Hid (Prs w5 (some ⟨w3.heap.size, 0, none⟩) zs) := O4.out.keep g5.below
  clear g5
  go_wp2_with fail
  refine (HT.out _ (H.out.keep B5.out)).mono ?_
  rintro e w6 ⟨rfl, o6, b6⟩
  have B6 : Hid (Below w1.heap.size w1 w6) := B5.out.trans (b6.mono B5.out.size)
  have O6 : Hid (Prs w6 (some ⟨w3.heap.size, 0, none⟩) zs) := O5.out.keep b6
  have P6 : Hid (Prs w6 (some ⟨w5.heap.size, 0, none⟩) zs) := o6.prs
  clear o6 b6
  go_wp2_with fail
  refine (HE.out _ _ _ O6.out P6.out).mono ?_
  rintro e w7 ⟨rfl, g7⟩
  have B7 : Hid (Below w1.heap.size w1 w7) := B6.out.trans (g7.below.mono B6.out.size)
  clear g7
  go_wp2
  go_ret
  exact ⟨rfl, B7.out⟩
end Go.Proofs.Ytbbjelkicenbhab
