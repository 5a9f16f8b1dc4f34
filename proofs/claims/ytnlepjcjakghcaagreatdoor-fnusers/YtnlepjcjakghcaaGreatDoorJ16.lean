/- MakeUser, the program's and the model's. -/
import Derived.Test.YtnlepjcjakghcaaGreatDoorJ13
namespace Go.Proofs.YtnlepjcjakghcaaGreatDoor
open Go.RowKit Go.PlainAid Go.Proofs.YtnlepjcjakghcaaGreatDoor.Bt Go.Sort
set_option linter.unusedVariables false
set_option maxRecDepth 20000

set_option maxHeartbeats 1000000 in
theorem l08Make_any (nm wd ro : ByteArray) (bl lg : Int) (w : World) (h1 : nm.size ≤ 8) (h2 : wd.size ≤ 40) :
    Calls Tryz.prog 18 #[.string nm, .string wd, .string ro, .int .i64 bl, .int .i64 lg] w fun e w' => e = .returned (.agg #[.string nm, .string (⟨#[115, 97, 108, 116, 32]⟩ ++ nm), .string (passS (⟨#[115, 97, 108, 116, 32]⟩ ++ nm) wd 3), .string ro, .int .i64 bl, .int .i64 lg]) ∧ Below w.heap.size w w' := by
  obtain ⟨S, hS⟩ : ∃ S, S = ByteArray.mk #[115, 97, 108, 116, 32] ++ nm := ⟨_, rfl⟩
  have hs : S.size ≤ 13 := by rw [hS, ByteArray.size_append]; show 5 + nm.size ≤ 13; omega
  have HP : Hid (∀ w, Calls Tryz.prog 37 #[.string (⟨#[115, 97, 108, 116, 32]⟩ ++ nm), .string wd, .int .i64 3] w fun e w' => e = .returned (.string (passS (⟨#[115, 97, 108, 116, 32]⟩ ++ nm) wd 3)) ∧ Below w.heap.size w w') := fun w => by
    have := l04Pass_any S wd 3 w (by omega) h2 (by omega)
    rw [hS] at this
    exact this
  clear hS hs
  generalize passS (⟨#[115, 97, 108, 116, 32]⟩ ++ nm) wd 3 = P at HP ⊢
  go_enter Tryz.func18, Tryz.ntmps18
  go_wp2_with fail
  refine (HP.out _).mono ?_
  rintro e wx1 ⟨rfl, bx⟩
  have c1_0_0 : wx1.cell? ⟨w.heap.size, 0, none⟩ = some (.string ⟨#[]⟩) := bkeep bx (by simp [go_sem])
  have f1_0_0 : wx1.frozen? ⟨w.heap.size, 0, none⟩ = false := bthaw bx (v := .string ⟨#[]⟩) (by simp [go_sem]) (by simp [go_sem])
  have c1_0_1 : wx1.cell? ⟨w.heap.size, 1, none⟩ = some (.string ⟨#[]⟩) := bkeep bx (by simp [go_sem])
  have f1_0_1 : wx1.frozen? ⟨w.heap.size, 1, none⟩ = false := bthaw bx (v := .string ⟨#[]⟩) (by simp [go_sem]) (by simp [go_sem])
  have c1_0_2 : wx1.cell? ⟨w.heap.size, 2, none⟩ = some (.string ⟨#[]⟩) := bkeep bx (by simp [go_sem])
  have f1_0_2 : wx1.frozen? ⟨w.heap.size, 2, none⟩ = false := bthaw bx (v := .string ⟨#[]⟩) (by simp [go_sem]) (by simp [go_sem])
  have c1_0_3 : wx1.cell? ⟨w.heap.size, 3, none⟩ = some (.string ⟨#[]⟩) := bkeep bx (by simp [go_sem])
  have f1_0_3 : wx1.frozen? ⟨w.heap.size, 3, none⟩ = false := bthaw bx (v := .string ⟨#[]⟩) (by simp [go_sem]) (by simp [go_sem])
  have c1_0_4 : wx1.cell? ⟨w.heap.size, 4, none⟩ = some (.int .i64 0) := bkeep bx (by simp [go_sem])
  have f1_0_4 : wx1.frozen? ⟨w.heap.size, 4, none⟩ = false := bthaw bx (v := .int .i64 0) (by simp [go_sem]) (by simp [go_sem])
  have c1_0_5 : wx1.cell? ⟨w.heap.size, 5, none⟩ = some (.int .i64 0) := bkeep bx (by simp [go_sem])
  have f1_0_5 : wx1.frozen? ⟨w.heap.size, 5, none⟩ = false := bthaw bx (v := .int .i64 0) (by simp [go_sem]) (by simp [go_sem])
  have BX1 : Hid (Below w.heap.size w wx1) := ((Below.refl w.heap.size w).alloc (by simp <;> omega) _).trans (bx.mono (by simp <;> omega))
  clear bx
  go_wp2
  (try simp only [Exit.inBlock, Exit.then])
  refine bodyPost_ret (v := .agg #[.string nm, .string (⟨#[115, 97, 108, 116, 32]⟩ ++ nm), .string P, .string ro, .int .i64 bl, .int .i64 lg]) (by simp [results, Tryz.results18, go_sem, c1_0_0, c1_0_1, c1_0_2, c1_0_3, c1_0_4, c1_0_5]; try rfl) rfl ?_
  exact ⟨rfl, ((((((BX1.out.setCell (p := ⟨w.heap.size, _, _⟩) (by show w.heap.size ≤ w.heap.size; omega) _).setCell (p := ⟨w.heap.size, _, _⟩) (by show w.heap.size ≤ w.heap.size; omega) _).setCell (p := ⟨w.heap.size, _, _⟩) (by show w.heap.size ≤ w.heap.size; omega) _).setCell (p := ⟨w.heap.size, _, _⟩) (by show w.heap.size ≤ w.heap.size; omega) _).setCell (p := ⟨w.heap.size, _, _⟩) (by show w.heap.size ≤ w.heap.size; omega) _).setCell (p := ⟨w.heap.size, _, _⟩) (by show w.heap.size ≤ w.heap.size; omega) _)⟩

set_option maxHeartbeats 1000000 in
theorem specMake_yes (nm wd ro : ByteArray) (bl lg : Int) (w : World) (h1 : nm.size ≤ 65536) (h2 : wd.size ≤ 65536) (h3 : ro.size ≤ 65536) (h : (snB nm && (dec (wd.size ≤ 40) && (snB ro && (dec (0 ≤ bl ∧ bl ≤ 1000000) && dec (0 ≤ lg ∧ lg ≤ 1000))))) = true) :
    Calls Tryz.prog 6 #[.string nm, .string wd, .string ro, .int .i64 bl, .int .i64 lg] w fun e w' => e = .returned (.tuple #[.agg #[.string nm, .string (⟨#[115, 97, 108, 116, 32]⟩ ++ nm), .string (passS (⟨#[115, 97, 108, 116, 32]⟩ ++ nm) wd 3), .string ro, .int .i64 bl, .int .i64 lg], .int .i64 0]) ∧ Below w.heap.size w w' := by
  have hn8 : nm.size ≤ 8 := by
    simp only [Bool.and_eq_true] at h
    exact snB_le h.1
  have hw : wd.size ≤ 40 := by
    simp only [Bool.and_eq_true] at h
    have := h.2.1
    unfold dec at this
    simpa using this
  have zw : (wd.size : Int) ≤ 40 := by omega
  have HM : Hid (∀ w, Calls Tryz.prog 18 #[.string nm, .string wd, .string ro, .int .i64 bl, .int .i64 lg] w fun e w' => e = .returned (.agg #[.string nm, .string (⟨#[115, 97, 108, 116, 32]⟩ ++ nm), .string (passS (⟨#[115, 97, 108, 116, 32]⟩ ++ nm) wd 3), .string ro, .int .i64 bl, .int .i64 lg]) ∧ Below w.heap.size w w') := fun w => l08Make_any nm wd ro bl lg w hn8 hw
  have z1 : (nm.size : Int) ≤ 65536 := by omega
  have z2 : (wd.size : Int) ≤ 65536 := by omega
  have z3 : (ro.size : Int) ≤ 65536 := by omega
  have HA : Hid (∀ w, Calls Tryz.prog 16 #[.string nm] w fun e w' => e = .returned (.bool (snB nm)) ∧ w' = w) := fun w => l08Name_any nm w (by omega)
  have HB : Hid (∀ w, Calls Tryz.prog 16 #[.string ro] w fun e w' => e = .returned (.bool (snB ro)) ∧ w' = w) := fun w => l08Name_any ro w (by omega)
  have HC : Hid (∀ w, Calls Tryz.prog 17 #[.int .i64 bl, .int .i64 0, .int .i64 1000000] w fun e w' => e = .returned (.bool (dec (0 ≤ bl ∧ bl ≤ 1000000))) ∧ w' = w) := fun w => specIn_any bl 0 1000000 w
  have HD : Hid (∀ w, Calls Tryz.prog 17 #[.int .i64 lg, .int .i64 0, .int .i64 1000] w fun e w' => e = .returned (.bool (dec (0 ≤ lg ∧ lg ≤ 1000))) ∧ w' = w) := fun w => specIn_any lg 0 1000 w
  obtain ⟨e1, e2, e3, e4⟩ : snB nm = true ∧ snB ro = true ∧ dec (0 ≤ bl ∧ bl ≤ 1000000) = true ∧ dec (0 ≤ lg ∧ lg ≤ 1000) = true := by
    simp only [Bool.and_eq_true] at h
    exact ⟨h.1, h.2.2.1, h.2.2.2.1, h.2.2.2.2⟩
  rw [e1] at HA
  rw [e2] at HB
  rw [e3] at HC
  rw [e4] at HD
  clear e1 e2 e3 e4 h
  obtain ⟨P, hP⟩ : ∃ P, P = passS (⟨#[115, 97, 108, 116, 32]⟩ ++ nm) wd 3 := ⟨_, rfl⟩
  obtain ⟨S, hS⟩ : ∃ S, S = ByteArray.mk #[115, 97, 108, 116, 32] ++ nm := ⟨_, rfl⟩
  rw [← hP, ← hS] at HM ⊢
  clear hP hS
  go_enter Tryz.func6, Tryz.ntmps6
  go_wp2_with fail
  refine (HA.out _).mono ?_
  rintro e w1 ⟨rfl, hw⟩
  subst hw
  go_wp2_with fail
  refine (HB.out _).mono ?_
  rintro e w1 ⟨rfl, hw⟩
  subst hw
  go_wp2_with fail
  refine (HC.out _).mono ?_
  rintro e w1 ⟨rfl, hw⟩
  subst hw
  go_wp2_with fail
  refine (HD.out _).mono ?_
  rintro e w1 ⟨rfl, hw⟩
  subst hw
  go_wp2_with fail
  refine (HM.out _).mono ?_
  rintro e wx1 ⟨rfl, bx⟩
  have c1_0_0 : wx1.cell? ⟨w.heap.size, 0, none⟩ = some (.string ⟨#[]⟩) := bkeep bx (by simp [go_sem])
  have f1_0_0 : wx1.frozen? ⟨w.heap.size, 0, none⟩ = false := bthaw bx (v := .string ⟨#[]⟩) (by simp [go_sem]) (by simp [go_sem])
  have c1_0_1 : wx1.cell? ⟨w.heap.size, 1, none⟩ = some (.string ⟨#[]⟩) := bkeep bx (by simp [go_sem])
  have f1_0_1 : wx1.frozen? ⟨w.heap.size, 1, none⟩ = false := bthaw bx (v := .string ⟨#[]⟩) (by simp [go_sem]) (by simp [go_sem])
  have c1_0_2 : wx1.cell? ⟨w.heap.size, 2, none⟩ = some (.string ⟨#[]⟩) := bkeep bx (by simp [go_sem])
  have f1_0_2 : wx1.frozen? ⟨w.heap.size, 2, none⟩ = false := bthaw bx (v := .string ⟨#[]⟩) (by simp [go_sem]) (by simp [go_sem])
  have c1_0_3 : wx1.cell? ⟨w.heap.size, 3, none⟩ = some (.string ⟨#[]⟩) := bkeep bx (by simp [go_sem])
  have f1_0_3 : wx1.frozen? ⟨w.heap.size, 3, none⟩ = false := bthaw bx (v := .string ⟨#[]⟩) (by simp [go_sem]) (by simp [go_sem])
  have c1_0_4 : wx1.cell? ⟨w.heap.size, 4, none⟩ = some (.int .i64 0) := bkeep bx (by simp [go_sem])
  have f1_0_4 : wx1.frozen? ⟨w.heap.size, 4, none⟩ = false := bthaw bx (v := .int .i64 0) (by simp [go_sem]) (by simp [go_sem])
  have c1_0_5 : wx1.cell? ⟨w.heap.size, 5, none⟩ = some (.int .i64 0) := bkeep bx (by simp [go_sem])
  have f1_0_5 : wx1.frozen? ⟨w.heap.size, 5, none⟩ = false := bthaw bx (v := .int .i64 0) (by simp [go_sem]) (by simp [go_sem])
  have BX1 : Hid (Below w.heap.size w wx1) := ((Below.refl w.heap.size w).alloc (by simp <;> omega) _).trans (bx.mono (by simp <;> omega))
  clear bx
  go_wp2
  (try simp only [Exit.inBlock, Exit.then])
  refine bodyPost_ret (v := .tuple #[.agg #[.string nm, .string S, .string P, .string ro, .int .i64 bl, .int .i64 lg], .int .i64 0]) (by simp [results, Tryz.results6, go_sem, c1_0_0, c1_0_1, c1_0_2, c1_0_3, c1_0_4, c1_0_5]; try rfl) rfl ?_
  exact ⟨rfl, ((((((BX1.out.setCell (p := ⟨w.heap.size, _, _⟩) (by show w.heap.size ≤ w.heap.size; omega) _).setCell (p := ⟨w.heap.size, _, _⟩) (by show w.heap.size ≤ w.heap.size; omega) _).setCell (p := ⟨w.heap.size, _, _⟩) (by show w.heap.size ≤ w.heap.size; omega) _).setCell (p := ⟨w.heap.size, _, _⟩) (by show w.heap.size ≤ w.heap.size; omega) _).setCell (p := ⟨w.heap.size, _, _⟩) (by show w.heap.size ≤ w.heap.size; omega) _).setCell (p := ⟨w.heap.size, _, _⟩) (by show w.heap.size ≤ w.heap.size; omega) _)⟩

set_option maxHeartbeats 1000000 in
theorem implMake_no (nm wd ro : ByteArray) (bl lg : Int) (w : World) (h1 : nm.size ≤ 65536) (h2 : wd.size ≤ 65536) (h3 : ro.size ≤ 65536) (h : (snB nm && (dec (wd.size ≤ 40) && (snB ro && (dec (0 ≤ bl ∧ bl ≤ 1000000) && dec (0 ≤ lg ∧ lg ≤ 1000))))) = false) :
    Calls Tryz.prog 5 #[.string nm, .string wd, .string ro, .int .i64 bl, .int .i64 lg] w fun e w' => e = .returned (.tuple #[.agg #[.string ⟨#[]⟩, .string ⟨#[]⟩, .string ⟨#[]⟩, .string ⟨#[]⟩, .int .i64 0, .int .i64 0], .int .i64 4]) ∧ Below w.heap.size w w' := by
  have z1 : (nm.size : Int) ≤ 65536 := by omega
  have z2 : (wd.size : Int) ≤ 65536 := by omega
  have z3 : (ro.size : Int) ≤ 65536 := by omega
  have HA : Hid (∀ w, Calls Tryz.prog 14 #[.string nm] w fun e w' => e = .returned (.bool (snB nm)) ∧ w' = w) := fun w => shortNameOK_any nm w (by omega)
  have HB : Hid (∀ w, Calls Tryz.prog 14 #[.string ro] w fun e w' => e = .returned (.bool (snB ro)) ∧ w' = w) := fun w => shortNameOK_any ro w (by omega)
  have HC : Hid (∀ w, Calls Tryz.prog 15 #[.int .i64 bl, .int .i64 lg] w fun e w' => e = .returned (.bool (dec (0 ≤ bl ∧ bl ≤ 1000000) && dec (0 ≤ lg ∧ lg ≤ 1000))) ∧ w' = w) := fun w => creditOK_any bl lg w
  cases q1 : snB nm with
  | false =>
    rw [q1] at HA
    go_enter Tryz.func5, Tryz.ntmps5
    go_wp2_with fail
    refine (HA.out _).mono ?_
    rintro e w1 ⟨rfl, hw⟩
    subst hw
    go_wp2
    (try simp only [Exit.inBlock, Exit.then])
    refine bodyPost_ret (v := .tuple #[.agg #[.string ⟨#[]⟩, .string ⟨#[]⟩, .string ⟨#[]⟩, .string ⟨#[]⟩, .int .i64 0, .int .i64 0], .int .i64 4]) (by simp [results, Tryz.results5, go_sem]; try rfl) rfl ?_
    exact ⟨rfl, by first | exact Below.refl _ _ | exact (Below.refl _ _).alloc (Nat.le_refl _) _ | exact ((Below.refl _ _).alloc (Nat.le_refl _) _).alloc (by simp) _⟩
  | true =>
    rw [q1] at HA h
    have hn8 := snB_le q1
    cases q2 : snB ro with
    | false =>
      rw [q2] at HB
      go_enter Tryz.func5, Tryz.ntmps5
      go_wp2_with fail
      refine (HA.out _).mono ?_
      rintro e w1 ⟨rfl, hw⟩
      subst hw
      go_wp2_with fail
      refine (HB.out _).mono ?_
      rintro e w1 ⟨rfl, hw⟩
      subst hw
      go_wp2
      (try simp only [Exit.inBlock, Exit.then])
      refine bodyPost_ret (v := .tuple #[.agg #[.string ⟨#[]⟩, .string ⟨#[]⟩, .string ⟨#[]⟩, .string ⟨#[]⟩, .int .i64 0, .int .i64 0], .int .i64 4]) (by simp [results, Tryz.results5, go_sem]; try rfl) rfl ?_
      exact ⟨rfl, by first | exact Below.refl _ _ | exact (Below.refl _ _).alloc (Nat.le_refl _) _ | exact ((Below.refl _ _).alloc (Nat.le_refl _) _).alloc (by simp) _⟩
    | true =>
      rw [q2] at HB h
      cases q3 : (dec (0 ≤ bl ∧ bl ≤ 1000000) && dec (0 ≤ lg ∧ lg ≤ 1000)) with
      | false =>
        rw [q3] at HC
        go_enter Tryz.func5, Tryz.ntmps5
        go_wp2_with fail
        refine (HA.out _).mono ?_
        rintro e w1 ⟨rfl, hw⟩
        subst hw
        go_wp2_with fail
        refine (HB.out _).mono ?_
        rintro e w1 ⟨rfl, hw⟩
        subst hw
        go_wp2_with fail
        refine (HC.out _).mono ?_
        rintro e w1 ⟨rfl, hw⟩
        subst hw
        go_wp2
        (try simp only [Exit.inBlock, Exit.then])
        refine bodyPost_ret (v := .tuple #[.agg #[.string ⟨#[]⟩, .string ⟨#[]⟩, .string ⟨#[]⟩, .string ⟨#[]⟩, .int .i64 0, .int .i64 0], .int .i64 4]) (by simp [results, Tryz.results5, go_sem]; try rfl) rfl ?_
        exact ⟨rfl, by first | exact Below.refl _ _ | exact (Below.refl _ _).alloc (Nat.le_refl _) _ | exact ((Below.refl _ _).alloc (Nat.le_refl _) _).alloc (by simp) _⟩
      | true =>
        rw [q3] at HC h
        have hw : ¬ wd.size ≤ 40 := by
          intro hw
          rw [dec_y hw] at h
          simp at h
        obtain ⟨S, hS⟩ : ∃ S, S = ByteArray.mk #[115, 97, 108, 116, 32] ++ nm := ⟨_, rfl⟩
        have hs5 : S.size = 5 + nm.size := by rw [hS, ByteArray.size_append]; rfl
        have HP : Hid (∀ w, Calls Tryz.prog 7 #[.string (⟨#[115, 97, 108, 116, 32]⟩ ++ nm), .string wd, .int .i64 3] w fun e w' => e = .returned (.tuple #[.string ⟨#[]⟩, .int .i64 4]) ∧ w' = w) := fun w => by
          have := passHash_no S wd 3 w (by omega) h2 (by omega)
          rw [hS] at this
          exact this
        clear hS hs5 h q1 q2 q3
        go_enter Tryz.func5, Tryz.ntmps5
        go_wp2_with fail
        refine (HA.out _).mono ?_
        rintro e w1 ⟨rfl, hw⟩
        subst hw
        go_wp2_with fail
        refine (HB.out _).mono ?_
        rintro e w1 ⟨rfl, hw⟩
        subst hw
        go_wp2_with fail
        refine (HC.out _).mono ?_
        rintro e w1 ⟨rfl, hw⟩
        subst hw
        go_wp2_with fail
        refine (HP.out _).mono ?_
        rintro e w1 ⟨rfl, hw⟩
        subst hw
        go_wp2
        (try simp only [Exit.inBlock, Exit.then])
        refine bodyPost_ret (v := .tuple #[.agg #[.string ⟨#[]⟩, .string ⟨#[]⟩, .string ⟨#[]⟩, .string ⟨#[]⟩, .int .i64 0, .int .i64 0], .int .i64 4]) (by simp [results, Tryz.results5, go_sem]; try rfl) rfl ?_
        exact ⟨rfl, by first | exact Below.refl _ _ | exact (Below.refl _ _).alloc (Nat.le_refl _) _ | exact ((Below.refl _ _).alloc (Nat.le_refl _) _).alloc (by simp) _⟩

set_option maxHeartbeats 1000000 in
theorem implMake_yes (nm wd ro : ByteArray) (bl lg : Int) (w : World) (hK : KTab w) (hH : HTab w) (h1 : nm.size ≤ 65536) (h2 : wd.size ≤ 65536) (h3 : ro.size ≤ 65536) (h : (snB nm && (dec (wd.size ≤ 40) && (snB ro && (dec (0 ≤ bl ∧ bl ≤ 1000000) && dec (0 ≤ lg ∧ lg ≤ 1000))))) = true) :
    Calls Tryz.prog 5 #[.string nm, .string wd, .string ro, .int .i64 bl, .int .i64 lg] w fun e w' => e = .returned (.tuple #[.agg #[.string nm, .string (⟨#[115, 97, 108, 116, 32]⟩ ++ nm), .string (passS (⟨#[115, 97, 108, 116, 32]⟩ ++ nm) wd 3), .string ro, .int .i64 bl, .int .i64 lg], .int .i64 0]) ∧ Below w.heap.size w w' := by
  have HT : Hid (KTab w ∧ HTab w) := ⟨hK, hH⟩
  have hn8 : nm.size ≤ 8 := by
    simp only [Bool.and_eq_true] at h
    exact snB_le h.1
  have hw : wd.size ≤ 40 := by
    simp only [Bool.and_eq_true] at h
    have := h.2.1
    unfold dec at this
    simpa using this
  have z1 : (nm.size : Int) ≤ 65536 := by omega
  have z2 : (wd.size : Int) ≤ 65536 := by omega
  have z3 : (ro.size : Int) ≤ 65536 := by omega
  have HA : Hid (∀ w, Calls Tryz.prog 14 #[.string nm] w fun e w' => e = .returned (.bool (snB nm)) ∧ w' = w) := fun w => shortNameOK_any nm w (by omega)
  have HB : Hid (∀ w, Calls Tryz.prog 14 #[.string ro] w fun e w' => e = .returned (.bool (snB ro)) ∧ w' = w) := fun w => shortNameOK_any ro w (by omega)
  have HC : Hid (∀ w, Calls Tryz.prog 15 #[.int .i64 bl, .int .i64 lg] w fun e w' => e = .returned (.bool (dec (0 ≤ bl ∧ bl ≤ 1000000) && dec (0 ≤ lg ∧ lg ≤ 1000))) ∧ w' = w) := fun w => creditOK_any bl lg w
  obtain ⟨S, hS⟩ : ∃ S, S = ByteArray.mk #[115, 97, 108, 116, 32] ++ nm := ⟨_, rfl⟩
  have hs5 : S.size = 5 + nm.size := by rw [hS, ByteArray.size_append]; rfl
  have HP : Hid (∀ wx, Below w.heap.size w wx → Calls Tryz.prog 7 #[.string (⟨#[115, 97, 108, 116, 32]⟩ ++ nm), .string wd, .int .i64 3] wx fun e w' => e = .returned (.tuple #[.string (passS (⟨#[115, 97, 108, 116, 32]⟩ ++ nm) wd 3), .int .i64 0]) ∧ Below wx.heap.size wx w') := fun wx hb => by
    have := passHash_yes S wd 3 wx (HT.out.1.below hb) (HT.out.2.below hb) (by omega) hw (by omega)
    rw [hS] at this
    exact this
  obtain ⟨e1, e2, e3⟩ : snB nm = true ∧ snB ro = true ∧ (dec (0 ≤ bl ∧ bl ≤ 1000000) && dec (0 ≤ lg ∧ lg ≤ 1000)) = true := by
    simp only [Bool.and_eq_true] at h ⊢
    exact ⟨h.1, h.2.2.1, h.2.2.2.1, h.2.2.2.2⟩
  rw [e1] at HA
  rw [e2] at HB
  rw [e3] at HC
  clear e1 e2 e3 h hS hs5 hK hH HT
  generalize passS (⟨#[115, 97, 108, 116, 32]⟩ ++ nm) wd 3 = P at HP ⊢
  go_enter Tryz.func5, Tryz.ntmps5
  go_wp2_with fail
  refine (HA.out _).mono ?_
  rintro e w1 ⟨rfl, hw⟩
  subst hw
  go_wp2_with fail
  refine (HB.out _).mono ?_
  rintro e w1 ⟨rfl, hw⟩
  subst hw
  go_wp2_with fail
  refine (HC.out _).mono ?_
  rintro e w1 ⟨rfl, hw⟩
  subst hw
  go_wp2_with fail
  refine (HP.out _ ((Below.refl w.heap.size w).alloc (by simp <;> omega) _)).mono ?_
  rintro e wx1 ⟨rfl, bx⟩
  have c1_0_0 : wx1.cell? ⟨w.heap.size, 0, none⟩ = some (.string ⟨#[]⟩) := bkeep bx (by simp [go_sem])
  have f1_0_0 : wx1.frozen? ⟨w.heap.size, 0, none⟩ = false := bthaw bx (v := .string ⟨#[]⟩) (by simp [go_sem]) (by simp [go_sem])
  have c1_0_1 : wx1.cell? ⟨w.heap.size, 1, none⟩ = some (.string ⟨#[]⟩) := bkeep bx (by simp [go_sem])
  have f1_0_1 : wx1.frozen? ⟨w.heap.size, 1, none⟩ = false := bthaw bx (v := .string ⟨#[]⟩) (by simp [go_sem]) (by simp [go_sem])
  have c1_0_2 : wx1.cell? ⟨w.heap.size, 2, none⟩ = some (.string ⟨#[]⟩) := bkeep bx (by simp [go_sem])
  have f1_0_2 : wx1.frozen? ⟨w.heap.size, 2, none⟩ = false := bthaw bx (v := .string ⟨#[]⟩) (by simp [go_sem]) (by simp [go_sem])
  have c1_0_3 : wx1.cell? ⟨w.heap.size, 3, none⟩ = some (.string ⟨#[]⟩) := bkeep bx (by simp [go_sem])
  have f1_0_3 : wx1.frozen? ⟨w.heap.size, 3, none⟩ = false := bthaw bx (v := .string ⟨#[]⟩) (by simp [go_sem]) (by simp [go_sem])
  have c1_0_4 : wx1.cell? ⟨w.heap.size, 4, none⟩ = some (.int .i64 0) := bkeep bx (by simp [go_sem])
  have f1_0_4 : wx1.frozen? ⟨w.heap.size, 4, none⟩ = false := bthaw bx (v := .int .i64 0) (by simp [go_sem]) (by simp [go_sem])
  have c1_0_5 : wx1.cell? ⟨w.heap.size, 5, none⟩ = some (.int .i64 0) := bkeep bx (by simp [go_sem])
  have f1_0_5 : wx1.frozen? ⟨w.heap.size, 5, none⟩ = false := bthaw bx (v := .int .i64 0) (by simp [go_sem]) (by simp [go_sem])
  have BX1 : Hid (Below w.heap.size w wx1) := ((Below.refl w.heap.size w).alloc (by simp <;> omega) _).trans (bx.mono (by simp <;> omega))
  clear bx
  go_wp2
  (try simp only [Exit.inBlock, Exit.then])
  refine bodyPost_ret (v := .tuple #[.agg #[.string nm, .string (⟨#[115, 97, 108, 116, 32]⟩ ++ nm), .string P, .string ro, .int .i64 bl, .int .i64 lg], .int .i64 0]) (by simp [results, Tryz.results5, go_sem, c1_0_0, c1_0_1, c1_0_2, c1_0_3, c1_0_4, c1_0_5]; try rfl) rfl ?_
  exact ⟨rfl, ((((((BX1.out.setCell (p := ⟨w.heap.size, _, _⟩) (by show w.heap.size ≤ w.heap.size; omega) _).setCell (p := ⟨w.heap.size, _, _⟩) (by show w.heap.size ≤ w.heap.size; omega) _).setCell (p := ⟨w.heap.size, _, _⟩) (by show w.heap.size ≤ w.heap.size; omega) _).setCell (p := ⟨w.heap.size, _, _⟩) (by show w.heap.size ≤ w.heap.size; omega) _).setCell (p := ⟨w.heap.size, _, _⟩) (by show w.heap.size ≤ w.heap.size; omega) _).setCell (p := ⟨w.heap.size, _, _⟩) (by show w.heap.size ≤ w.heap.size; omega) _)⟩

end Go.Proofs.YtnlepjcjakghcaaGreatDoor
