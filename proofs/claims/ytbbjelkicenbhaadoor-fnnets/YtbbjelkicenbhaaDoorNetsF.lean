/- The nets that are drawn: right ones, and read back from their texts. -/
import Derived.Test.YtbbjelkicenbhaaDoorLawReadN
import Derived.Test.YtbbjelkicenbhaaDoorNetT
namespace Go.Proofs.YtbbjelkicenbhaaDoor
open Go.RowKit Go.PlainAid Go.Proofs.YtbbjelkicenbhaaDoor.Bt Go.Sort
set_option linter.unusedVariables false
set_option maxRecDepth 20000

/-- One of the nets that are drawn. -/
def Six (p : Int × Int) : Prop := p = (167772160, 8) ∨ p = (167772162, 32) ∨ p = (0, 0) ∨ p = (84213760, 16) ∨ p = (84215044, 30) ∨ p = (2147483648, 1)
/-- A right net whose text is read back. -/
def Told (ip b : Int) : Prop := nB ip b = true ∧ (ntT ip b).size ≤ 100 ∧ ∃ i, i < (ntT ip b).size ∧ bt (ntT ip b) i = 47 ∧ (∀ j, j < i → bt (ntT ip b) j ≠ 47) ∧ rdN ((ntT ip b).extract 0 i) ((ntT ip b).extract (i + 1) (ntT ip b).size) = true ∧ raV ((ntT ip b).extract 0 i) = ip ∧ rnV ((ntT ip b).extract (i + 1) (ntT ip b).size) = b

theorem adl_dgs (n : Int) (a b c d : Nat) (ha : (n / 16777216 % 256).toNat = a) (hb : (n / 65536 % 256).toNat = b) (hc : (n / 256 % 256).toNat = c) (hd : (n / 1 % 256).toNat = d) :
    adl n 4 = dgs a ++ [46] ++ dgs b ++ [46] ++ dgs c ++ [46] ++ dgs d := by
  rw [adl_four]
  have e0 : da n 0 = dgs a := by unfold da; rw [show (2 : Int) ^ (8 * (3 - 0)) = 16777216 by decide, ha]
  have e1 : da n 1 = dgs b := by unfold da; rw [show (2 : Int) ^ (8 * (3 - 1)) = 65536 by decide, hb]
  have e2 : da n 2 = dgs c := by unfold da; rw [show (2 : Int) ^ (8 * (3 - 2)) = 256 by decide, hc]
  have e3 : da n 3 = dgs d := by unfold da; rw [show (2 : Int) ^ (8 * (3 - 3)) = 1 by decide, hd]
  rw [e0, e1, e2, e3]
theorem dgs_two (a b : Nat) (h1 : 1 ≤ a) (ha : a < 10) (hb : b < 10) : dgs (10 * a + b) = [48 + (a : Int), 48 + (b : Int)] := by
  rw [dgs_more (by omega), show (10 * a + b) / 10 = a by omega, show (10 * a + b) % 10 = b by omega, dgs_small ha]; rfl
theorem dgs_three (a b c : Nat) (h1 : 1 ≤ a) (ha : a < 10) (hb : b < 10) (hc : c < 10) : dgs (10 * (10 * a + b) + c) = [48 + (a : Int), 48 + (b : Int), 48 + (c : Int)] := by
  rw [dgs_more (by omega), show (10 * (10 * a + b) + c) / 10 = 10 * a + b by omega, show (10 * (10 * a + b) + c) % 10 = c by omega, dgs_two a b h1 ha hb]; rfl

theorem told_of {ip b : Int} (T : ByteArray) (i : Nat) (A R : ByteArray) (hn : nB ip b = true) (hT : ntT ip b = T) (hz : T.size ≤ 100) (hi : i < T.size) (h47 : bt T i = 47) (hno : ∀ j, j < i → bt T j ≠ 47)
    (hA : T.extract 0 i = A) (hR : T.extract (i + 1) T.size = R) (h1 : raB A = true) (h2 : rnB R = true) (h3 : raV A = ip) (h4 : rnV R = b) : Told ip b := by
  refine ⟨hn, by rw [hT]; exact hz, i, by rw [hT]; exact hi, by rw [hT]; exact h47, fun j hj => by rw [hT]; exact hno j hj, ?_, ?_, ?_⟩
  · rw [hT, hA, hR]; unfold rdN; rw [h1, h2, h3, h4, hn]; rfl
  · rw [hT, hA]; exact h3
  · rw [hT, hR]; exact h4
theorem nB_of {ip b : Int} (h0 : 0 ≤ ip) (h1 : ip ≤ 4294967295) (h2 : 0 ≤ b) (h3 : b ≤ 32) (h4 : ip % netM b = 0) : nB ip b = true := dec_y ⟨h0, h1, h2, h3, h4⟩

theorem told1 : Told 167772160 8 := by
  refine told_of (strOfNums [49, 48, 46, 48, 46, 48, 46, 48, 47, 56]) 8 (strOfNums [49, 48, 46, 48, 46, 48, 46, 48]) (strOfNums [56]) (nB_of (by omega) (by omega) (by omega) (by omega) (by decide)) ?_ (by decide +kernel) (by decide +kernel) (by decide +kernel) (by decide +kernel) (by decide +kernel) (by decide +kernel) (by decide +kernel) (by decide +kernel) (by decide +kernel) (by decide +kernel)
  unfold ntT
  rw [adl_dgs 167772160 (10 * 1 + 0) 0 0 0 (by decide) (by decide) (by decide) (by decide), dgs_two 1 0 (by omega) (by omega) (by omega), dgs_small (by omega : 0 < 10), show ((8 : Int)).toNat = 8 from rfl, dgs_small (by omega : 8 < 10)]
  decide +kernel
theorem told2 : Told 167772162 32 := by
  refine told_of (strOfNums [49, 48, 46, 48, 46, 48, 46, 50, 47, 51, 50]) 8 (strOfNums [49, 48, 46, 48, 46, 48, 46, 50]) (strOfNums [51, 50]) (nB_of (by omega) (by omega) (by omega) (by omega) (by decide)) ?_ (by decide +kernel) (by decide +kernel) (by decide +kernel) (by decide +kernel) (by decide +kernel) (by decide +kernel) (by decide +kernel) (by decide +kernel) (by decide +kernel) (by decide +kernel)
  unfold ntT
  rw [adl_dgs 167772162 (10 * 1 + 0) 0 0 2 (by decide) (by decide) (by decide) (by decide), dgs_two 1 0 (by omega) (by omega) (by omega), dgs_small (by omega : 0 < 10), dgs_small (by omega : 2 < 10), show ((32 : Int)).toNat = 10 * 3 + 2 from rfl, dgs_two 3 2 (by omega) (by omega) (by omega)]
  decide +kernel
theorem told3 : Told 0 0 := by
  refine told_of (strOfNums [48, 46, 48, 46, 48, 46, 48, 47, 48]) 7 (strOfNums [48, 46, 48, 46, 48, 46, 48]) (strOfNums [48]) (nB_of (by omega) (by omega) (by omega) (by omega) (by decide)) ?_ (by decide +kernel) (by decide +kernel) (by decide +kernel) (by decide +kernel) (by decide +kernel) (by decide +kernel) (by decide +kernel) (by decide +kernel) (by decide +kernel) (by decide +kernel)
  unfold ntT
  rw [adl_dgs 0 0 0 0 0 (by decide) (by decide) (by decide) (by decide), show ((0 : Int)).toNat = 0 from rfl, dgs_small (by omega : 0 < 10)]
  decide +kernel
theorem told4 : Told 84213760 16 := by
  refine told_of (strOfNums [53, 46, 53, 46, 48, 46, 48, 47, 49, 54]) 7 (strOfNums [53, 46, 53, 46, 48, 46, 48]) (strOfNums [49, 54]) (nB_of (by omega) (by omega) (by omega) (by omega) (by decide)) ?_ (by decide +kernel) (by decide +kernel) (by decide +kernel) (by decide +kernel) (by decide +kernel) (by decide +kernel) (by decide +kernel) (by decide +kernel) (by decide +kernel) (by decide +kernel)
  unfold ntT
  rw [adl_dgs 84213760 5 5 0 0 (by decide) (by decide) (by decide) (by decide), dgs_small (by omega : 5 < 10), dgs_small (by omega : 0 < 10), show ((16 : Int)).toNat = 10 * 1 + 6 from rfl, dgs_two 1 6 (by omega) (by omega) (by omega)]
  decide +kernel
theorem told5 : Told 84215044 30 := by
  refine told_of (strOfNums [53, 46, 53, 46, 53, 46, 52, 47, 51, 48]) 7 (strOfNums [53, 46, 53, 46, 53, 46, 52]) (strOfNums [51, 48]) (nB_of (by omega) (by omega) (by omega) (by omega) (by decide)) ?_ (by decide +kernel) (by decide +kernel) (by decide +kernel) (by decide +kernel) (by decide +kernel) (by decide +kernel) (by decide +kernel) (by decide +kernel) (by decide +kernel) (by decide +kernel)
  unfold ntT
  rw [adl_dgs 84215044 5 5 5 4 (by decide) (by decide) (by decide) (by decide), dgs_small (by omega : 5 < 10), dgs_small (by omega : 4 < 10), show ((30 : Int)).toNat = 10 * 3 + 0 from rfl, dgs_two 3 0 (by omega) (by omega) (by omega)]
  decide +kernel
theorem told6 : Told 2147483648 1 := by
  refine told_of (strOfNums [49, 50, 56, 46, 48, 46, 48, 46, 48, 47, 49]) 9 (strOfNums [49, 50, 56, 46, 48, 46, 48, 46, 48]) (strOfNums [49]) (nB_of (by omega) (by omega) (by omega) (by omega) (by decide)) ?_ (by decide +kernel) (by decide +kernel) (by decide +kernel) (by decide +kernel) (by decide +kernel) (by decide +kernel) (by decide +kernel) (by decide +kernel) (by decide +kernel) (by decide +kernel)
  unfold ntT
  rw [adl_dgs 2147483648 (10 * (10 * 1 + 2) + 8) 0 0 0 (by decide) (by decide) (by decide) (by decide), dgs_three 1 2 8 (by omega) (by omega) (by omega) (by omega), dgs_small (by omega : 0 < 10), show ((1 : Int)).toNat = 1 from rfl, dgs_small (by omega : 1 < 10)]
  decide +kernel
theorem six_told {p : Int × Int} (h : Six p) : Told p.1 p.2 := by
  rcases h with rfl | rfl | rfl | rfl | rfl | rfl
  · exact told1
  · exact told2
  · exact told3
  · exact told4
  · exact told5
  · exact told6
/-- Read back. -/
theorem implReadNet_told (ip b m : Int) (w : World) (h : Told ip b) (hm : w.cell? ⟨0, 0, none⟩ = some (.int .i64 m)) :
    Calls Tryd.prog 22 #[.string (ntT ip b)] w fun e w' => e = .returned (.tuple #[.agg #[.int .i64 ip, .int .i64 b], .int .i64 0]) ∧ Below w.heap.size w w' := by
  obtain ⟨hn, hz, i, hi, h47, hno, hr, hA, hR⟩ := h
  generalize ntT ip b = t at hz hi h47 hno hr hA hR ⊢
  have := implReadNet_cut t (t.extract 0 i) (t.extract (i + 1) t.size) true m w (by omega) (by rw [ByteArray.size_extract]; omega) (by rw [ByteArray.size_extract]; omega) (fun w => strCut_of t _ _ true w (fun w => liteCut_hit t i w hi h47 hno (by omega))) hm
  rw [hr, hA, hR] at this
  exact this
end Go.Proofs.YtbbjelkicenbhaaDoor
