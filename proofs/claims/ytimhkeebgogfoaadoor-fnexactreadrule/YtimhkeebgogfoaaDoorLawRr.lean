/- ReadRule of both sides; the walk of laws.FnExactReadRule. -/
import Derived.Test.YtimhkeebgogfoaaDoorRrB
import Derived.Test.YtimhkeebgogfoaaDoorLawRule
namespace Go.Proofs.YtimhkeebgogfoaaDoor
open Go.RowKit Go.PlainAid Go.Proofs.YtimhkeebgogfoaaDoor.Bt Go.Sort
set_option linter.unusedVariables false
set_option maxRecDepth 20000
theorem rnV_le (t : ByteArray) : rnV t ≤ 9223372036854775807 := by
  unfold rnV numV
  generalize bt (dOf t) = f
  generalize (dOf t).size = n
  cases hk : numOK f n (isNeg t) with
  | false => simp
  | true =>
    unfold numOK at hk
    simp only [decide_eq_true_eq] at hk
    have a := valD_18 f n hk.2.1 hk.2.2.2
    rw [if_pos rfl]
    split <;> omega
theorem five_of {t : ByteArray} (h : ¬ rrNo t) : ∃ w0 w1 w2 w3 w4, wordsB t = [w0, w1, w2, w3, w4] ∧ ((w0.toList == [97, 108, 108, 111, 119]) = true ∨ (w0.toList == [100, 101, 110, 121]) = true) := by
  unfold rrNo at h
  have h5 : (wordsB t).length = 5 := Classical.byContradiction fun e => h (.inl e)
  match hw : wordsB t, h5 with
  | [w0, w1, w2, w3, w4], _ =>
    refine ⟨w0, w1, w2, w3, w4, rfl, ?_⟩
    cases e1 : (w0.toList == [97, 108, 108, 111, 119]) with
    | true => exact .inl rfl
    | false =>
      cases e2 : (w0.toList == [100, 101, 110, 121]) with
      | true => exact .inr rfl
      | false => exact absurd (.inr ⟨w0, by rw [hw]; rfl, by rw [hw]; rfl, e1, e2⟩) h
theorem readRule_both (t : ByteArray) (ht : t.size ≤ 1048576) : ∃ (x0 x1 x2 x3 x4 : Int) (xb : Bool) (c : Int), (∀ w, Calls Tryd.prog 15 #[.string t] w fun e w' => e = .returned (.tuple #[.agg #[.int .i64 x0, .int .i64 x1, .int .i64 x2, .int .i64 x3, .int .i64 x4, .bool xb], .int .i64 c]) ∧ Below w.heap.size w w') ∧
    ∀ (m : Int) (w : World), w.cell? ⟨0, 0, none⟩ = some (.int .i64 m) → Calls Tryd.prog 16 #[.string t] w fun e w' => e = .returned (.tuple #[.agg #[.int .i64 x0, .int .i64 x1, .int .i64 x2, .int .i64 x3, .int .i64 x4, .bool xb], .int .i64 c]) ∧ Below w.heap.size w w' := by
  by_cases hbig : 65536 < t.size
  · exact ⟨0, 0, 0, 0, 0, false, 2, fun w => specReadRule_long t w hbig ht, fun m w _ => implReadRule_long t w hbig ht⟩
  have hs : t.size ≤ 65536 := by omega
  by_cases hn : rrNo t
  · refine ⟨0, 0, 0, 0, 0, false, 3, fun w => ?_, fun m w hm => implReadRule_no t m w hs hm hn⟩
    exact specReadRule_of t w hs 0 0 0 0 0 false false 0 0 0 0 0 false 3 (fun h => by cases h) (fun _ => ⟨⟨rfl, rfl, rfl, rfl, rfl, rfl⟩, rfl⟩)
      (fun w => (l07Read_no t w hs hn).mono fun e w' h => ⟨0, 0, 0, 0, 0, false, h.1, (fun h => by cases h), h.2⟩)
  · obtain ⟨w0, w1, w2, w3, w4, hw, hd⟩ := five_of hn
    have sz : ∀ x, x ∈ wordsB t → x.size ≤ 65536 := fun x hx => Nat.le_trans (words_size t x hx) hs
    have z1 := sz w1 (by rw [hw]; simp)
    have z2 := sz w2 (by rw [hw]; simp)
    have z3 := sz w3 (by rw [hw]; simp)
    have z4 := sz w4 (by rw [hw]; simp)
    obtain ⟨rd, v0, v1, hNS, hNI⟩ := net_parts w2 z2
    obtain ⟨al, ha⟩ : ∃ al, al = (w0.toList == [97, 108, 108, 111, 119]) := ⟨_, rfl⟩
    obtain ⟨zz, hz⟩ : ∃ zz, zz = (pnB w1 && (rd && (rnB w3 && (rnB w4 && ruB ⟨pnV w1, v0, v1, rnV w3, rnV w4, al⟩)))) := ⟨_, rfl⟩
    have hWS : ∀ w, Calls Tryd.prog 70 #[.string t] w fun e w' => ∃ g c : Nat, e = .returned (.slice (some ⟨g, 0, none⟩) 5 c) ∧ w.heap.size ≤ g ∧ (w'.cell? ⟨g, 0, none⟩ = some (.string w0) ∧ w'.cell? ⟨g, 1, none⟩ = some (.string w1) ∧ w'.cell? ⟨g, 2, none⟩ = some (.string w2) ∧ w'.cell? ⟨g, 3, none⟩ = some (.string w3) ∧ w'.cell? ⟨g, 4, none⟩ = some (.string w4)) ∧ Below w.heap.size w w' := fun w => (l00Words_b t w (by omega)).mono fun e w' ⟨g, c, h1, h2, h3, h4⟩ => by
      rw [hw] at h1 h3
      exact ⟨g, c, h1, h2, ⟨h3 0 _ rfl, h3 1 _ rfl, h3 2 _ rfl, h3 3 _ rfl, h3 4 _ rfl⟩, h4⟩
    have hWI : ∀ (m : Int) w, w.cell? ⟨0, 0, none⟩ = some (.int .i64 m) → Calls Tryd.prog 42 #[.string t] w fun e w' => ∃ c : Nat, e = .returned (.slice (some ⟨w.heap.size, 0, none⟩) 5 c) ∧ (w'.cell? ⟨w.heap.size, 0, none⟩ = some (.string w0) ∧ w'.cell? ⟨w.heap.size, 1, none⟩ = some (.string w1) ∧ w'.cell? ⟨w.heap.size, 2, none⟩ = some (.string w2) ∧ w'.cell? ⟨w.heap.size, 3, none⟩ = some (.string w3) ∧ w'.cell? ⟨w.heap.size, 4, none⟩ = some (.string w4)) ∧ Below w.heap.size w w' := fun m w hm => (wordsOf_b t m w hs hm).mono fun e w' ⟨c, h1, h3, h4⟩ => by
      rw [hw] at h1 h3
      exact ⟨c, h1, ⟨h3 0 _ rfl, h3 1 _ rfl, h3 2 _ rfl, h3 3 _ rfl, h3 4 _ rfl⟩, h4⟩
    refine ⟨if zz then pnV w1 else 0, if zz then v0 else 0, if zz then v1 else 0, if zz then rnV w3 else 0, if zz then rnV w4 else 0, if zz then al else false, if zz then 0 else 3, fun w => ?_, fun m w hm => ?_⟩
    · exact specReadRule_of t w hs (pnV w1) v0 v1 (rnV w3) (rnV w4) al zz _ _ _ _ _ _ _ (fun h => by subst h; exact ⟨⟨rfl, rfl, rfl, rfl, rfl, rfl⟩, rfl⟩) (fun h => by subst h; exact ⟨⟨rfl, rfl, rfl, rfl, rfl, rfl⟩, rfl⟩)
        (fun w => l07Read_five t w0 w1 w2 w3 w4 w hWS z2 z3 z4 al ha hd rd v0 v1 hNS zz hz)
    · exact implReadRule_five t w0 w1 w2 w3 w4 m w hs hm (hWI m) z1 z2 z3 z4 al ha hd rd v0 v1 hNI _ _ _ _ _ _ _ (rnV_le w3) (rnV_le w4) (fun h => by rw [← hz] at h; subst h; exact ⟨⟨rfl, rfl, rfl, rfl, rfl, rfl⟩, rfl⟩) (fun h => by rw [← hz] at h; subst h; exact ⟨⟨rfl, rfl, rfl, rfl, rfl, rfl⟩, rfl⟩)
set_option maxHeartbeats 1000000 in
theorem lawReadRule_any (t : ByteArray) (m : Int) (w : World) (hm : w.cell? ⟨0, 0, none⟩ = some (.int .i64 m)) (hs : t.size ≤ maxLen) :
    Calls Tryd.prog 4 #[.string t] w fun e w' => e = .returned (.bool true) ∧ Below w.heap.size w w' := by
  unfold maxLen at hs
  by_cases hl : 1048576 < t.size
  · go_enter Tryd.func4, Tryd.ntmps4
    go_wp2
    go_ret
    exact ⟨rfl, Below.refl _ _⟩
  obtain ⟨x0, x1, x2, x3, x4, xb, c, hS, hI⟩ := readRule_both t (by omega)
  have HS : Hid (∀ w, Calls Tryd.prog 15 #[.string t] w fun e w' => e = .returned (.tuple #[.agg #[.int .i64 x0, .int .i64 x1, .int .i64 x2, .int .i64 x3, .int .i64 x4, .bool xb], .int .i64 c]) ∧ Below w.heap.size w w') := hS
  have HI : Hid (∀ (w : World), w.cell? ⟨0, 0, none⟩ = some (.int .i64 m) → Calls Tryd.prog 16 #[.string t] w fun e w' => e = .returned (.tuple #[.agg #[.int .i64 x0, .int .i64 x1, .int .i64 x2, .int .i64 x3, .int .i64 x4, .bool xb], .int .i64 c]) ∧ Below w.heap.size w w') := hI m
  have HE : Hid (∀ w, Calls Tryd.prog 17 #[.agg #[.int .i64 x0, .int .i64 x1, .int .i64 x2, .int .i64 x3, .int .i64 x4, .bool xb], .agg #[.int .i64 x0, .int .i64 x1, .int .i64 x2, .int .i64 x3, .int .i64 x4, .bool xb]] w fun e w' => e = .returned (.bool true) ∧ Below w.heap.size w w') := fun w => (eqRule_any x0 x1 x2 x3 x4 xb w).mono fun e w' h => ⟨h.1, h.2.below⟩
  have HM : Hid (∀ w', Below w.heap.size w w' → w'.cell? ⟨0, 0, none⟩ = some (.int .i64 m)) := fun w' hb => by
    rw [hb.cell (World.block_lt_of_cell? w _ hm)]; exact hm
  clear hS hI hm
  have hne : (c != c) = false := by simp
  go_enter Tryd.func4, Tryd.ntmps4
  go_wp2_with fail
  refine (HS.out _).mono ?_
  rintro e w1 ⟨rfl, b1⟩
  have B1 : Hid (Below w.heap.size w w1) := b1
  have BA : Hid (Below w.heap.size w (w1.alloc (.cells #[.int .i64 x0, .int .i64 x1, .int .i64 x2, .int .i64 x3, .int .i64 x4, .bool xb] 44))) := b1.alloc b1.size _
  clear b1
  go_wp2_with fail
  refine (HI.out _ (HM.out _ BA.out)).mono ?_
  rintro e w2 ⟨rfl, b2⟩
  have c0 := acell (bkeep b2 (a := ⟨w1.heap.size, 0, none⟩) (v := .int .i64 x0) (by simp [go_sem])) (.cells #[.int .i64 x0, .int .i64 x1, .int .i64 x2, .int .i64 x3, .int .i64 x4, .bool xb] 44)
  have c1 := acell (bkeep b2 (a := ⟨w1.heap.size, 1, none⟩) (v := .int .i64 x1) (by simp [go_sem])) (.cells #[.int .i64 x0, .int .i64 x1, .int .i64 x2, .int .i64 x3, .int .i64 x4, .bool xb] 44)
  have c2 := acell (bkeep b2 (a := ⟨w1.heap.size, 2, none⟩) (v := .int .i64 x2) (by simp [go_sem])) (.cells #[.int .i64 x0, .int .i64 x1, .int .i64 x2, .int .i64 x3, .int .i64 x4, .bool xb] 44)
  have c3 := acell (bkeep b2 (a := ⟨w1.heap.size, 3, none⟩) (v := .int .i64 x3) (by simp [go_sem])) (.cells #[.int .i64 x0, .int .i64 x1, .int .i64 x2, .int .i64 x3, .int .i64 x4, .bool xb] 44)
  have c4 := acell (bkeep b2 (a := ⟨w1.heap.size, 4, none⟩) (v := .int .i64 x4) (by simp [go_sem])) (.cells #[.int .i64 x0, .int .i64 x1, .int .i64 x2, .int .i64 x3, .int .i64 x4, .bool xb] 44)
  have c5 := acell (bkeep b2 (a := ⟨w1.heap.size, 5, none⟩) (v := .bool xb) (by simp [go_sem])) (.cells #[.int .i64 x0, .int .i64 x1, .int .i64 x2, .int .i64 x3, .int .i64 x4, .bool xb] 44)
  have B2 : Hid (Below w.heap.size w (w2.alloc (.cells #[.int .i64 x0, .int .i64 x1, .int .i64 x2, .int .i64 x3, .int .i64 x4, .bool xb] 44))) := by
    have h := BA.out.trans (b2.mono BA.out.size)
    exact h.alloc h.size _
  clear b2 BA
  go_wp2_with fail
  refine (HE.out _).mono ?_
  rintro e w3 ⟨rfl, b3⟩
  have B3 : Hid (Below w.heap.size w w3) := B2.out.trans (b3.mono B2.out.size)
  clear b3
  go_wp2
  go_ret
  exact ⟨rfl, B3.out⟩
end Go.Proofs.YtimhkeebgogfoaaDoor
