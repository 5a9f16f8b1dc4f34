/- MakeUser, the program's and the model's. -/
import Derived.Test.YtimhkeebgogfoabDoorPass
import Derived.Test.YtimhkeebgogfoabDoorRoleW
import Derived.Test.YtimhkeebgogfoabDoorSmallA
import Derived.Test.YtimhkeebgogfoabDoorLawL
import Derived.Test.YtimhkeebgogfoabDoorKeeps
namespace Go.Proofs.YtimhkeebgogfoabDoor
open Go.RowKit Go.PlainAid Go.Proofs.YtimhkeebgogfoabDoor.Bt Go.Sort
set_option linter.unusedVariables false
set_option maxRecDepth 20000

theorem specMake_long (nm wd ro : ByteArray) (bl lg : Int) (w : World) (h : 65536 < nm.size ∨ 65536 < wd.size ∨ 65536 < ro.size) (h1 : nm.size ≤ 1048576) (h2 : wd.size ≤ 1048576) (h3 : ro.size ≤ 1048576) :
    Calls Tryd.prog 4 #[.string nm, .string wd, .string ro, .int .i64 bl, .int .i64 lg] w fun e w' => e = .returned (.tuple #[.agg #[.string ⟨#[]⟩, .string ⟨#[]⟩, .string ⟨#[]⟩, .string ⟨#[]⟩, .int .i64 0, .int .i64 0], .int .i64 2]) ∧ Below w.heap.size w w' := by
  by_cases lnm : 65536 < nm.size
  · have znm : (65536 : Int) < (nm.size : Int) := by omega
    go_enter Tryd.func4, Tryd.ntmps4
    go_wp2
    (try simp only [Exit.inBlock, Exit.then])
    refine bodyPost_ret (v := .tuple #[.agg #[.string ⟨#[]⟩, .string ⟨#[]⟩, .string ⟨#[]⟩, .string ⟨#[]⟩, .int .i64 0, .int .i64 0], .int .i64 2]) (by simp [results, Tryd.results4, go_sem]; try rfl) rfl ?_
    exact ⟨rfl, by first | exact Below.refl _ _ | exact (Below.refl _ _).alloc (Nat.le_refl _) _ | exact ((Below.refl _ _).alloc (Nat.le_refl _) _).alloc (by simp) _⟩
  have znm : (nm.size : Int) ≤ 65536 := by omega
  by_cases lwd : 65536 < wd.size
  · have zwd : (65536 : Int) < (wd.size : Int) := by omega
    go_enter Tryd.func4, Tryd.ntmps4
    go_wp2
    (try simp only [Exit.inBlock, Exit.then])
    refine bodyPost_ret (v := .tuple #[.agg #[.string ⟨#[]⟩, .string ⟨#[]⟩, .string ⟨#[]⟩, .string ⟨#[]⟩, .int .i64 0, .int .i64 0], .int .i64 2]) (by simp [results, Tryd.results4, go_sem]; try rfl) rfl ?_
    exact ⟨rfl, by first | exact Below.refl _ _ | exact (Below.refl _ _).alloc (Nat.le_refl _) _ | exact ((Below.refl _ _).alloc (Nat.le_refl _) _).alloc (by simp) _⟩
  have zwd : (wd.size : Int) ≤ 65536 := by omega
  by_cases lro : 65536 < ro.size
  · have zro : (65536 : Int) < (ro.size : Int) := by omega
    go_enter Tryd.func4, Tryd.ntmps4
    go_wp2
    (try simp only [Exit.inBlock, Exit.then])
    refine bodyPost_ret (v := .tuple #[.agg #[.string ⟨#[]⟩, .string ⟨#[]⟩, .string ⟨#[]⟩, .string ⟨#[]⟩, .int .i64 0, .int .i64 0], .int .i64 2]) (by simp [results, Tryd.results4, go_sem]; try rfl) rfl ?_
    exact ⟨rfl, by first | exact Below.refl _ _ | exact (Below.refl _ _).alloc (Nat.le_refl _) _ | exact ((Below.refl _ _).alloc (Nat.le_refl _) _).alloc (by simp) _⟩
  have zro : (ro.size : Int) ≤ 65536 := by omega
  omega

theorem implMake_long (nm wd ro : ByteArray) (bl lg : Int) (w : World) (h : 65536 < nm.size ∨ 65536 < wd.size ∨ 65536 < ro.size) (h1 : nm.size ≤ 1048576) (h2 : wd.size ≤ 1048576) (h3 : ro.size ≤ 1048576) :
    Calls Tryd.prog 5 #[.string nm, .string wd, .string ro, .int .i64 bl, .int .i64 lg] w fun e w' => e = .returned (.tuple #[.agg #[.string ⟨#[]⟩, .string ⟨#[]⟩, .string ⟨#[]⟩, .string ⟨#[]⟩, .int .i64 0, .int .i64 0], .int .i64 2]) ∧ Below w.heap.size w w' := by
  by_cases lnm : 65536 < nm.size
  · have znm : (65536 : Int) < (nm.size : Int) := by omega
    go_enter Tryd.func5, Tryd.ntmps5
    go_wp2
    (try simp only [Exit.inBlock, Exit.then])
    refine bodyPost_ret (v := .tuple #[.agg #[.string ⟨#[]⟩, .string ⟨#[]⟩, .string ⟨#[]⟩, .string ⟨#[]⟩, .int .i64 0, .int .i64 0], .int .i64 2]) (by simp [results, Tryd.results5, go_sem]; try rfl) rfl ?_
    exact ⟨rfl, by first | exact Below.refl _ _ | exact (Below.refl _ _).alloc (Nat.le_refl _) _ | exact ((Below.refl _ _).alloc (Nat.le_refl _) _).alloc (by simp) _⟩
  have znm : (nm.size : Int) ≤ 65536 := by omega
  by_cases lwd : 65536 < wd.size
  · have zwd : (65536 : Int) < (wd.size : Int) := by omega
    go_enter Tryd.func5, Tryd.ntmps5
    go_wp2
    (try simp only [Exit.inBlock, Exit.then])
    refine bodyPost_ret (v := .tuple #[.agg #[.string ⟨#[]⟩, .string ⟨#[]⟩, .string ⟨#[]⟩, .string ⟨#[]⟩, .int .i64 0, .int .i64 0], .int .i64 2]) (by simp [results, Tryd.results5, go_sem]; try rfl) rfl ?_
    exact ⟨rfl, by first | exact Below.refl _ _ | exact (Below.refl _ _).alloc (Nat.le_refl _) _ | exact ((Below.refl _ _).alloc (Nat.le_refl _) _).alloc (by simp) _⟩
  have zwd : (wd.size : Int) ≤ 65536 := by omega
  by_cases lro : 65536 < ro.size
  · have zro : (65536 : Int) < (ro.size : Int) := by omega
    go_enter Tryd.func5, Tryd.ntmps5
    go_wp2
    (try simp only [Exit.inBlock, Exit.then])
    refine bodyPost_ret (v := .tuple #[.agg #[.string ⟨#[]⟩, .string ⟨#[]⟩, .string ⟨#[]⟩, .string ⟨#[]⟩, .int .i64 0, .int .i64 0], .int .i64 2]) (by simp [results, Tryd.results5, go_sem]; try rfl) rfl ?_
    exact ⟨rfl, by first | exact Below.refl _ _ | exact (Below.refl _ _).alloc (Nat.le_refl _) _ | exact ((Below.refl _ _).alloc (Nat.le_refl _) _).alloc (by simp) _⟩
  have zro : (ro.size : Int) ≤ 65536 := by omega
  omega

set_option maxHeartbeats 1000000 in
theorem specMake_no (nm wd ro : ByteArray) (bl lg : Int) (w : World) (h1 : nm.size ≤ 65536) (h2 : wd.size ≤ 65536) (h3 : ro.size ≤ 65536) (h : (snB nm && (dec (wd.size ≤ 40) && (snB ro && (dec (0 ≤ bl ∧ bl ≤ 1000000) && dec (0 ≤ lg ∧ lg ≤ 1000))))) = false) :
    Calls Tryd.prog 4 #[.string nm, .string wd, .string ro, .int .i64 bl, .int .i64 lg] w fun e w' => e = .returned (.tuple #[.agg #[.string ⟨#[]⟩, .string ⟨#[]⟩, .string ⟨#[]⟩, .string ⟨#[]⟩, .int .i64 0, .int .i64 0], .int .i64 4]) ∧ Below w.heap.size w w' := by
  have z1 : (nm.size : Int) ≤ 65536 := by omega
  have z2 : (wd.size : Int) ≤ 65536 := by omega
  have z3 : (ro.size : Int) ≤ 65536 := by omega
  have HA : Hid (∀ w, Calls Tryd.prog 7 #[.string nm] w fun e w' => e = .returned (.bool (snB nm)) ∧ w' = w) := fun w => l08Name_any nm w (by omega)
  have HB : Hid (∀ w, Calls Tryd.prog 7 #[.string ro] w fun e w' => e = .returned (.bool (snB ro)) ∧ w' = w) := fun w => l08Name_any ro w (by omega)
  have HC : Hid (∀ w, Calls Tryd.prog 8 #[.int .i64 bl, .int .i64 0, .int .i64 1000000] w fun e w' => e = .returned (.bool (dec (0 ≤ bl ∧ bl ≤ 1000000))) ∧ w' = w) := fun w => specIn_any bl 0 1000000 w
  have HD : Hid (∀ w, Calls Tryd.prog 8 #[.int .i64 lg, .int .i64 0, .int .i64 1000] w fun e w' => e = .returned (.bool (dec (0 ≤ lg ∧ lg ≤ 1000))) ∧ w' = w) := fun w => specIn_any lg 0 1000 w
  generalize snB nm = q1 at HA h
  generalize snB ro = q2 at HB h
  generalize dec (0 ≤ bl ∧ bl ≤ 1000000) = q3 at HC h
  generalize dec (0 ≤ lg ∧ lg ≤ 1000) = q4 at HD h
  go_enter Tryd.func4, Tryd.ntmps4
  go_wp2_with fail
  refine (HA.out _).mono ?_
  rintro e w1 ⟨rfl, hw⟩
  subst hw
  cases q1 with
  | false =>
    go_wp2
    (try simp only [Exit.inBlock, Exit.then])
    refine bodyPost_ret (v := .tuple #[.agg #[.string ⟨#[]⟩, .string ⟨#[]⟩, .string ⟨#[]⟩, .string ⟨#[]⟩, .int .i64 0, .int .i64 0], .int .i64 4]) (by simp [results, Tryd.results4, go_sem]; try rfl) rfl ?_
    exact ⟨rfl, by first | exact Below.refl _ _ | exact (Below.refl _ _).alloc (Nat.le_refl _) _ | exact ((Below.refl _ _).alloc (Nat.le_refl _) _).alloc (by simp) _⟩
  | true =>
    by_cases hw : wd.size ≤ 40
    rotate_left
    · have zw : (40 : Int) < (wd.size : Int) := by omega
      go_wp2
      (try simp only [Exit.inBlock, Exit.then])
      refine bodyPost_ret (v := .tuple #[.agg #[.string ⟨#[]⟩, .string ⟨#[]⟩, .string ⟨#[]⟩, .string ⟨#[]⟩, .int .i64 0, .int .i64 0], .int .i64 4]) (by simp [results, Tryd.results4, go_sem]; try rfl) rfl ?_
      exact ⟨rfl, by first | exact Below.refl _ _ | exact (Below.refl _ _).alloc (Nat.le_refl _) _ | exact ((Below.refl _ _).alloc (Nat.le_refl _) _).alloc (by simp) _⟩
    have zw : (wd.size : Int) ≤ 40 := by omega
    rw [dec_y hw] at h
    go_wp2_with fail
    refine (HB.out _).mono ?_
    rintro e w1 ⟨rfl, hw⟩
    subst hw
    cases q2 with
    | false =>
      go_wp2
      (try simp only [Exit.inBlock, Exit.then])
      refine bodyPost_ret (v := .tuple #[.agg #[.string ⟨#[]⟩, .string ⟨#[]⟩, .string ⟨#[]⟩, .string ⟨#[]⟩, .int .i64 0, .int .i64 0], .int .i64 4]) (by simp [results, Tryd.results4, go_sem]; try rfl) rfl ?_
      exact ⟨rfl, by first | exact Below.refl _ _ | exact (Below.refl _ _).alloc (Nat.le_refl _) _ | exact ((Below.refl _ _).alloc (Nat.le_refl _) _).alloc (by simp) _⟩
    | true =>
      go_wp2_with fail
      refine (HC.out _).mono ?_
      rintro e w1 ⟨rfl, hw⟩
      subst hw
      cases q3 with
      | false =>
        go_wp2
        (try simp only [Exit.inBlock, Exit.then])
        refine bodyPost_ret (v := .tuple #[.agg #[.string ⟨#[]⟩, .string ⟨#[]⟩, .string ⟨#[]⟩, .string ⟨#[]⟩, .int .i64 0, .int .i64 0], .int .i64 4]) (by simp [results, Tryd.results4, go_sem]; try rfl) rfl ?_
        exact ⟨rfl, by first | exact Below.refl _ _ | exact (Below.refl _ _).alloc (Nat.le_refl _) _ | exact ((Below.refl _ _).alloc (Nat.le_refl _) _).alloc (by simp) _⟩
      | true =>
        go_wp2_with fail
        refine (HD.out _).mono ?_
        rintro e w1 ⟨rfl, hw⟩
        subst hw
        cases q4 with
        | false =>
          go_wp2
          (try simp only [Exit.inBlock, Exit.then])
          refine bodyPost_ret (v := .tuple #[.agg #[.string ⟨#[]⟩, .string ⟨#[]⟩, .string ⟨#[]⟩, .string ⟨#[]⟩, .int .i64 0, .int .i64 0], .int .i64 4]) (by simp [results, Tryd.results4, go_sem]; try rfl) rfl ?_
          exact ⟨rfl, by first | exact Below.refl _ _ | exact (Below.refl _ _).alloc (Nat.le_refl _) _ | exact ((Below.refl _ _).alloc (Nat.le_refl _) _).alloc (by simp) _⟩
        | true => simp at h

set_option maxHeartbeats 1000000 in
theorem l08Make_any (nm wd ro : ByteArray) (bl lg : Int) (w : World) (h1 : nm.size ≤ 8) (h2 : wd.size ≤ 40) :
    Calls Tryd.prog 9 #[.string nm, .string wd, .string ro, .int .i64 bl, .int .i64 lg] w fun e w' => e = .returned (.agg #[.string nm, .string (⟨#[115, 97, 108, 116, 32]⟩ ++ nm), .string (passS (⟨#[115, 97, 108, 116, 32]⟩ ++ nm) wd 3), .string ro, .int .i64 bl, .int .i64 lg]) ∧ Below w.heap.size w w' := by
  obtain ⟨S, hS⟩ : ∃ S, S = ByteArray.mk #[115, 97, 108, 116, 32] ++ nm := ⟨_, rfl⟩
  have hs : S.size ≤ 13 := by rw [hS, ByteArray.size_append]; show 5 + nm.size ≤ 13; omega
  have HP : Hid (∀ w, Calls Tryd.prog 14 #[.string (⟨#[115, 97, 108, 116, 32]⟩ ++ nm), .string wd, .int .i64 3] w fun e w' => e = .returned (.string (passS (⟨#[115, 97, 108, 116, 32]⟩ ++ nm) wd 3)) ∧ Below w.heap.size w w') := fun w => by
    have := l04Pass_any S wd 3 w (by omega) h2 (by omega)
    rw [hS] at this
    exact this
  clear hS hs
  generalize passS (⟨#[115, 97, 108, 116, 32]⟩ ++ nm) wd 3 = P at HP ⊢
  go_enter Tryd.func9, Tryd.ntmps9
  go_wp2_with fail
  refine (HP.out _).mono ?_
  rintro e wx1 ⟨rfl, bx⟩
  have c1_0_0 : wx1.cell? ⟨w.heap.size, 0, none⟩ = some (.string ⟨#[]⟩) := bkeep bx (by simp [go_sem])
  have f1_0_0 : wx1.frozen? ⟨w.heap.size, 0, none⟩ = false := bthaw bx (v := .string ⟨#[]⟩) (by simp [go_sem]) (by simp [go_sem])
  have c1_0_1 : wx1.cell? ⟨w.heap.size, 1, none⟩ = some (.string ⟨#[]⟩) := bkeep bx (by simp [go_sem])
  have f1_0_1 : wx1.frozen? ⟨w.heap.size, 1, none⟩ = false := bthaw bx (v := .string ⟨#[]⟩) (by simp [go_sem]) (by simp [go_sem])
  have c1_0_2 : wx1.cell? ⟨w.heap.size, 2, none⟩ = some (.string ⟨#[]⟩) := bkeep bx (by simp [go_sem])
  have f1_0_2 : wx1.frozen? ⟨w.heap.size, 2, none⟩ = false := bthaw bx (v := .string ⟨#[]⟩) (by simp [go_sem]) (by simp [go_sem])
  have c1_0_3 : wx1.cell? ⟨w.heap.size, 3, none⟩ = some (.string ⟨#[]⟩) := bkeep bx (by simp [go_sem])
  have f1_0_3 : wx1.frozen? ⟨w.heap.size, 3, none⟩ = false := bthaw bx (v := .string ⟨#[]⟩) (by simp [go_sem]) (by simp [go_sem])
  have c1_0_4 : wx1.cell? ⟨w.heap.size, 4, none⟩ = some (.int .i64 0) := bkeep bx (by simp [go_sem])
  have f1_0_4 : wx1.frozen? ⟨w.heap.size, 4, none⟩ = false := bthaw bx (v := .int .i64 0) (by simp [go_sem]) (by simp [go_sem])
  have c1_0_5 : wx1.cell? ⟨w.heap.size, 5, none⟩ = some (.int .i64 0) := bkeep bx (by simp [go_sem])
  have f1_0_5 : wx1.frozen? ⟨w.heap.size, 5, none⟩ = false := bthaw bx (v := .int .i64 0) (by simp [go_sem]) (by simp [go_sem])
  have BX1 : Hid (Below w.heap.size w wx1) := ((Below.refl w.heap.size w).alloc (by simp <;> omega) _).trans (bx.mono (by simp <;> omega))
  clear bx
  go_wp2
  (try simp only [Exit.inBlock, Exit.then])
  refine bodyPost_ret (v := .agg #[.string nm, .string (⟨#[115, 97, 108, 116, 32]⟩ ++ nm), .string P, .string ro, .int .i64 bl, .int .i64 lg]) (by simp [results, Tryd.results9, go_sem, c1_0_0, c1_0_1, c1_0_2, c1_0_3, c1_0_4, c1_0_5]; try rfl) rfl ?_
  exact ⟨rfl, ((((((BX1.out.setCell (p := ⟨w.heap.size, _, _⟩) (by show w.heap.size ≤ w.heap.size; omega) _).setCell (p := ⟨w.heap.size, _, _⟩) (by show w.heap.size ≤ w.heap.size; omega) _).setCell (p := ⟨w.heap.size, _, _⟩) (by show w.heap.size ≤ w.heap.size; omega) _).setCell (p := ⟨w.heap.size, _, _⟩) (by show w.heap.size ≤ w.heap.size; omega) _).setCell (p := ⟨w.heap.size, _, _⟩) (by show w.heap.size ≤ w.heap.size; omega) _).setCell (p := ⟨w.heap.size, _, _⟩) (by show w.heap.size ≤ w.heap.size; omega) _)⟩

set_option maxHeartbeats 1000000 in
theorem specMake_yes (nm wd ro : ByteArray) (bl lg : Int) (w : World) (h1 : nm.size ≤ 65536) (h2 : wd.size ≤ 65536) (h3 : ro.size ≤ 65536) (h : (snB nm && (dec (wd.size ≤ 40) && (snB ro && (dec (0 ≤ bl ∧ bl ≤ 1000000) && dec (0 ≤ lg ∧ lg ≤ 1000))))) = true) :
    Calls Tryd.prog 4 #[.string nm, .string wd, .string ro, .int .i64 bl, .int .i64 lg] w fun e w' => e = .returned (.tuple #[.agg #[.string nm, .string (⟨#[115, 97, 108, 116, 32]⟩ ++ nm), .string (passS (⟨#[115, 97, 108, 116, 32]⟩ ++ nm) wd 3), .string ro, .int .i64 bl, .int .i64 lg], .int .i64 0]) ∧ Below w.heap.size w w' := by
  have hn8 : nm.size ≤ 8 := by
    simp only [Bool.and_eq_true] at h
    exact snB_le h.1
  have hw : wd.size ≤ 40 := by
    simp only [Bool.and_eq_true] at h
    have := h.2.1
    unfold dec at this
    simpa using this
  have zw : (wd.size : Int) ≤ 40 := by omega
  have HM : Hid (∀ w, Calls Tryd.prog 9 #[.string nm, .string wd, .string ro, .int .i64 bl, .int .i64 lg] w fun e w' => e = .returned (.agg #[.string nm, .string (⟨#[115, 97, 108, 116, 32]⟩ ++ nm), .string (passS (⟨#[115, 97, 108, 116, 32]⟩ ++ nm) wd 3), .string ro, .int .i64 bl, .int .i64 lg]) ∧ Below w.heap.size w w') := fun w => l08Make_any nm wd ro bl lg w hn8 hw
  have z1 : (nm.size : Int) ≤ 65536 := by omega
  have z2 : (wd.size : Int) ≤ 65536 := by omega
  have z3 : (ro.size : Int) ≤ 65536 := by omega
  have HA : Hid (∀ w, Calls Tryd.prog 7 #[.string nm] w fun e w' => e = .returned (.bool (snB nm)) ∧ w' = w) := fun w => l08Name_any nm w (by omega)
  have HB : Hid (∀ w, Calls Tryd.prog 7 #[.string ro] w fun e w' => e = .returned (.bool (snB ro)) ∧ w' = w) := fun w => l08Name_any ro w (by omega)
  have HC : Hid (∀ w, Calls Tryd.prog 8 #[.int .i64 bl, .int .i64 0, .int .i64 1000000] w fun e w' => e = .returned (.bool (dec (0 ≤ bl ∧ bl ≤ 1000000))) ∧ w' = w) := fun w => specIn_any bl 0 1000000 w
  have HD : Hid (∀ w, Calls Tryd.prog 8 #[.int .i64 lg, .int .i64 0, .int .i64 1000] w fun e w' => e = .returned (.bool (dec (0 ≤ lg ∧ lg ≤ 1000))) ∧ w' = w) := fun w => specIn_any lg 0 1000 w
  obtain ⟨e1, e2, e3, e4⟩ : snB nm = true ∧ snB ro = true ∧ dec (0 ≤ bl ∧ bl ≤ 1000000) = true ∧ dec (0 ≤ lg ∧ lg ≤ 1000) = true := by
    simp only [Bool.and_eq_true] at h
    exact ⟨h.1, h.2.2.1, h.2.2.2.1, h.2.2.2.2⟩
  rw [e1] at HA
  rw [e2] at HB
  rw [e3] at HC
  rw [e4] at HD
  clear e1 e2 e3 e4 h
  obtain ⟨P, hP⟩ : ∃ P, P = passS (⟨#[115, 97, 108, 116, 32]⟩ ++ nm) wd 3 := ⟨_, rfl⟩
  obtain ⟨S, hS⟩ : ∃ S, S = ByteArray.mk #[115, 97, 108, 116, 32] ++ nm := ⟨_, rfl⟩
  rw [← hP, ← hS] at HM ⊢
  clear hP hS
  go_enter Tryd.func4, Tryd.ntmps4
  go_wp2_with fail
  refine (HA.out _).mono ?_
  rintro e w1 ⟨rfl, hw⟩
  subst hw
  go_wp2_with fail
  refine (HB.out _).mono ?_
  rintro e w1 ⟨rfl, hw⟩
  subst hw
  go_wp2_with fail
  refine (HC.out _).mono ?_
  rintro e w1 ⟨rfl, hw⟩
  subst hw
  go_wp2_with fail
  refine (HD.out _).mono ?_
  rintro e w1 ⟨rfl, hw⟩
  subst hw
  go_wp2_with fail
  refine (HM.out _).mono ?_
  rintro e wx1 ⟨rfl, bx⟩
  have c1_0_0 : wx1.cell? ⟨w.heap.size, 0, none⟩ = some (.string ⟨#[]⟩) := bkeep bx (by simp [go_sem])
  have f1_0_0 : wx1.frozen? ⟨w.heap.size, 0, none⟩ = false := bthaw bx (v := .string ⟨#[]⟩) (by simp [go_sem]) (by simp [go_sem])
  have c1_0_1 : wx1.cell? ⟨w.heap.size, 1, none⟩ = some (.string ⟨#[]⟩) := bkeep bx (by simp [go_sem])
  have f1_0_1 : wx1.frozen? ⟨w.heap.size, 1, none⟩ = false := bthaw bx (v := .string ⟨#[]⟩) (by simp [go_sem]) (by simp [go_sem])
  have c1_0_2 : wx1.cell? ⟨w.heap.size, 2, none⟩ = some (.string ⟨#[]⟩) := bkeep bx (by simp [go_sem])
  have f1_0_2 : wx1.frozen? ⟨w.heap.size, 2, none⟩ = false := bthaw bx (v := .string ⟨#[]⟩) (by simp [go_sem]) (by simp [go_sem])
  have c1_0_3 : wx1.cell? ⟨w.heap.size, 3, none⟩ = some (.string ⟨#[]⟩) := bkeep bx (by simp [go_sem])
  have f1_0_3 : wx1.frozen? ⟨w.heap.size, 3, none⟩ = false := bthaw bx (v := .string ⟨#[]⟩) (by simp [go_sem]) (by simp [go_sem])
  have c1_0_4 : wx1.cell? ⟨w.heap.size, 4, none⟩ = some (.int .i64 0) := bkeep bx (by simp [go_sem])
  have f1_0_4 : wx1.frozen? ⟨w.heap.size, 4, none⟩ = false := bthaw bx (v := .int .i64 0) (by simp [go_sem]) (by simp [go_sem])
  have c1_0_5 : wx1.cell? ⟨w.heap.size, 5, none⟩ = some (.int .i64 0) := bkeep bx (by simp [go_sem])
  have f1_0_5 : wx1.frozen? ⟨w.heap.size, 5, none⟩ = false := bthaw bx (v := .int .i64 0) (by simp [go_sem]) (by simp [go_sem])
  have BX1 : Hid (Below w.heap.size w wx1) := ((Below.refl w.heap.size w).alloc (by simp <;> omega) _).trans (bx.mono (by simp <;> omega))
  clear bx
  go_wp2
  (try simp only [Exit.inBlock, Exit.then])
  refine bodyPost_ret (v := .tuple #[.agg #[.string nm, .string S, .string P, .string ro, .int .i64 bl, .int .i64 lg], .int .i64 0]) (by simp [results, Tryd.results4, go_sem, c1_0_0, c1_0_1, c1_0_2, c1_0_3, c1_0_4, c1_0_5]; try rfl) rfl ?_
  exact ⟨rfl, ((((((BX1.out.setCell (p := ⟨w.heap.size, _, _⟩) (by show w.heap.size ≤ w.heap.size; omega) _).setCell (p := ⟨w.heap.size, _, _⟩) (by show w.heap.size ≤ w.heap.size; omega) _).setCell (p := ⟨w.heap.size, _, _⟩) (by show w.heap.size ≤ w.heap.size; omega) _).setCell (p := ⟨w.heap.size, _, _⟩) (by show w.heap.size ≤ w.heap.size; omega) _).setCell (p := ⟨w.heap.size, _, _⟩) (by show w.heap.size ≤ w.heap.size; omega) _).setCell (p := ⟨w.heap.size, _, _⟩) (by show w.heap.size ≤ w.heap.size; omega) _)⟩

set_option maxHeartbeats 1000000 in
theorem implMake_no (nm wd ro : ByteArray) (bl lg : Int) (w : World) (h1 : nm.size ≤ 65536) (h2 : wd.size ≤ 65536) (h3 : ro.size ≤ 65536) (h : (snB nm && (dec (wd.size ≤ 40) && (snB ro && (dec (0 ≤ bl ∧ bl ≤ 1000000) && dec (0 ≤ lg ∧ lg ≤ 1000))))) = false) :
    Calls Tryd.prog 5 #[.string nm, .string wd, .string ro, .int .i64 bl, .int .i64 lg] w fun e w' => e = .returned (.tuple #[.agg #[.string ⟨#[]⟩, .string ⟨#[]⟩, .string ⟨#[]⟩, .string ⟨#[]⟩, .int .i64 0, .int .i64 0], .int .i64 4]) ∧ Below w.heap.size w w' := by
  have z1 : (nm.size : Int) ≤ 65536 := by omega
  have z2 : (wd.size : Int) ≤ 65536 := by omega
  have z3 : (ro.size : Int) ≤ 65536 := by omega
  have HA : Hid (∀ w, Calls Tryd.prog 10 #[.string nm] w fun e w' => e = .returned (.bool (snB nm)) ∧ w' = w) := fun w => shortNameOK_any nm w (by omega)
  have HB : Hid (∀ w, Calls Tryd.prog 10 #[.string ro] w fun e w' => e = .returned (.bool (snB ro)) ∧ w' = w) := fun w => shortNameOK_any ro w (by omega)
  have HC : Hid (∀ w, Calls Tryd.prog 11 #[.int .i64 bl, .int .i64 lg] w fun e w' => e = .returned (.bool (dec (0 ≤ bl ∧ bl ≤ 1000000) && dec (0 ≤ lg ∧ lg ≤ 1000))) ∧ w' = w) := fun w => creditOK_any bl lg w
  cases q1 : snB nm with
  | false =>
    rw [q1] at HA
    go_enter Tryd.func5, Tryd.ntmps5
    go_wp2_with fail
    refine (HA.out _).mono ?_
    rintro e w1 ⟨rfl, hw⟩
    subst hw
    go_wp2
    (try simp only [Exit.inBlock, Exit.then])
    refine bodyPost_ret (v := .tuple #[.agg #[.string ⟨#[]⟩, .string ⟨#[]⟩, .string ⟨#[]⟩, .string ⟨#[]⟩, .int .i64 0, .int .i64 0], .int .i64 4]) (by simp [results, Tryd.results5, go_sem]; try rfl) rfl ?_
    exact ⟨rfl, by first | exact Below.refl _ _ | exact (Below.refl _ _).alloc (Nat.le_refl _) _ | exact ((Below.refl _ _).alloc (Nat.le_refl _) _).alloc (by simp) _⟩
  | true =>
    rw [q1] at HA h
    have hn8 := snB_le q1
    cases q2 : snB ro with
    | false =>
      rw [q2] at HB
      go_enter Tryd.func5, Tryd.ntmps5
      go_wp2_with fail
      refine (HA.out _).mono ?_
      rintro e w1 ⟨rfl, hw⟩
      subst hw
      go_wp2_with fail
      refine (HB.out _).mono ?_
      rintro e w1 ⟨rfl, hw⟩
      subst hw
      go_wp2
      (try simp only [Exit.inBlock, Exit.then])
      refine bodyPost_ret (v := .tuple #[.agg #[.string ⟨#[]⟩, .string ⟨#[]⟩, .string ⟨#[]⟩, .string ⟨#[]⟩, .int .i64 0, .int .i64 0], .int .i64 4]) (by simp [results, Tryd.results5, go_sem]; try rfl) rfl ?_
      exact ⟨rfl, by first | exact Below.refl _ _ | exact (Below.refl _ _).alloc (Nat.le_refl _) _ | exact ((Below.refl _ _).alloc (Nat.le_refl _) _).alloc (by simp) _⟩
    | true =>
      rw [q2] at HB h
      cases q3 : (dec (0 ≤ bl ∧ bl ≤ 1000000) && dec (0 ≤ lg ∧ lg ≤ 1000)) with
      | false =>
        rw [q3] at HC
        go_enter Tryd.func5, Tryd.ntmps5
        go_wp2_with fail
        refine (HA.out _).mono ?_
        rintro e w1 ⟨rfl, hw⟩
        subst hw
        go_wp2_with fail
        refine (HB.out _).mono ?_
        rintro e w1 ⟨rfl, hw⟩
        subst hw
        go_wp2_with fail
        refine (HC.out _).mono ?_
        rintro e w1 ⟨rfl, hw⟩
        subst hw
        go_wp2
        (try simp only [Exit.inBlock, Exit.then])
        refine bodyPost_ret (v := .tuple #[.agg #[.string ⟨#[]⟩, .string ⟨#[]⟩, .string ⟨#[]⟩, .string ⟨#[]⟩, .int .i64 0, .int .i64 0], .int .i64 4]) (by simp [results, Tryd.results5, go_sem]; try rfl) rfl ?_
        exact ⟨rfl, by first | exact Below.refl _ _ | exact (Below.refl _ _).alloc (Nat.le_refl _) _ | exact ((Below.refl _ _).alloc (Nat.le_refl _) _).alloc (by simp) _⟩
      | true =>
        rw [q3] at HC h
        have hw : ¬ wd.size ≤ 40 := by
          intro hw
          rw [dec_y hw] at h
          simp at h
        obtain ⟨S, hS⟩ : ∃ S, S = ByteArray.mk #[115, 97, 108, 116, 32] ++ nm := ⟨_, rfl⟩
        have hs5 : S.size = 5 + nm.size := by rw [hS, ByteArray.size_append]; rfl
        have HP : Hid (∀ w, Calls Tryd.prog 12 #[.string (⟨#[115, 97, 108, 116, 32]⟩ ++ nm), .string wd, .int .i64 3] w fun e w' => e = .returned (.tuple #[.string ⟨#[]⟩, .int .i64 4]) ∧ w' = w) := fun w => by
          have := passHash_no S wd 3 w (by omega) h2 (by omega)
          rw [hS] at this
          exact this
        clear hS hs5 h q1 q2 q3
        go_enter Tryd.func5, Tryd.ntmps5
        go_wp2_with fail
        refine (HA.out _).mono ?_
        rintro e w1 ⟨rfl, hw⟩
        subst hw
        go_wp2_with fail
        refine (HB.out _).mono ?_
        rintro e w1 ⟨rfl, hw⟩
        subst hw
        go_wp2_with fail
        refine (HC.out _).mono ?_
        rintro e w1 ⟨rfl, hw⟩
        subst hw
        go_wp2_with fail
        refine (HP.out _).mono ?_
        rintro e w1 ⟨rfl, hw⟩
        subst hw
        go_wp2
        (try simp only [Exit.inBlock, Exit.then])
        refine bodyPost_ret (v := .tuple #[.agg #[.string ⟨#[]⟩, .string ⟨#[]⟩, .string ⟨#[]⟩, .string ⟨#[]⟩, .int .i64 0, .int .i64 0], .int .i64 4]) (by simp [results, Tryd.results5, go_sem]; try rfl) rfl ?_
        exact ⟨rfl, by first | exact Below.refl _ _ | exact (Below.refl _ _).alloc (Nat.le_refl _) _ | exact ((Below.refl _ _).alloc (Nat.le_refl _) _).alloc (by simp) _⟩

set_option maxHeartbeats 1000000 in
theorem implMake_yes (nm wd ro : ByteArray) (bl lg : Int) (w : World) (hK : KTab w) (hH : HTab w) (h1 : nm.size ≤ 65536) (h2 : wd.size ≤ 65536) (h3 : ro.size ≤ 65536) (h : (snB nm && (dec (wd.size ≤ 40) && (snB ro && (dec (0 ≤ bl ∧ bl ≤ 1000000) && dec (0 ≤ lg ∧ lg ≤ 1000))))) = true) :
    Calls Tryd.prog 5 #[.string nm, .string wd, .string ro, .int .i64 bl, .int .i64 lg] w fun e w' => e = .returned (.tuple #[.agg #[.string nm, .string (⟨#[115, 97, 108, 116, 32]⟩ ++ nm), .string (passS (⟨#[115, 97, 108, 116, 32]⟩ ++ nm) wd 3), .string ro, .int .i64 bl, .int .i64 lg], .int .i64 0]) ∧ Below w.heap.size w w' := by
  have HT : Hid (KTab w ∧ HTab w) := ⟨hK, hH⟩
  have hn8 : nm.size ≤ 8 := by
    simp only [Bool.and_eq_true] at h
    exact snB_le h.1
  have hw : wd.size ≤ 40 := by
    simp only [Bool.and_eq_true] at h
    have := h.2.1
    unfold dec at this
    simpa using this
  have z1 : (nm.size : Int) ≤ 65536 := by omega
  have z2 : (wd.size : Int) ≤ 65536 := by omega
  have z3 : (ro.size : Int) ≤ 65536 := by omega
  have HA : Hid (∀ w, Calls Tryd.prog 10 #[.string nm] w fun e w' => e = .returned (.bool (snB nm)) ∧ w' = w) := fun w => shortNameOK_any nm w (by omega)
  have HB : Hid (∀ w, Calls Tryd.prog 10 #[.string ro] w fun e w' => e = .returned (.bool (snB ro)) ∧ w' = w) := fun w => shortNameOK_any ro w (by omega)
  have HC : Hid (∀ w, Calls Tryd.prog 11 #[.int .i64 bl, .int .i64 lg] w fun e w' => e = .returned (.bool (dec (0 ≤ bl ∧ bl ≤ 1000000) && dec (0 ≤ lg ∧ lg ≤ 1000))) ∧ w' = w) := fun w => creditOK_any bl lg w
  obtain ⟨S, hS⟩ : ∃ S, S = ByteArray.mk #[115, 97, 108, 116, 32] ++ nm := ⟨_, rfl⟩
  have hs5 : S.size = 5 + nm.size := by rw [hS, ByteArray.size_append]; rfl
  have HP : Hid (∀ wx, Below w.heap.size w wx → Calls Tryd.prog 12 #[.string (⟨#[115, 97, 108, 116, 32]⟩ ++ nm), .string wd, .int .i64 3] wx fun e w' => e = .returned (.tuple #[.string (passS (⟨#[115, 97, 108, 116, 32]⟩ ++ nm) wd 3), .int .i64 0]) ∧ Below wx.heap.size wx w') := fun wx hb => by
    have := passHash_yes S wd 3 wx (HT.out.1.below hb) (HT.out.2.below hb) (by omega) hw (by omega)
    rw [hS] at this
    exact this
  obtain ⟨e1, e2, e3⟩ : snB nm = true ∧ snB ro = true ∧ (dec (0 ≤ bl ∧ bl ≤ 1000000) && dec (0 ≤ lg ∧ lg ≤ 1000)) = true := by
    simp only [Bool.and_eq_true] at h ⊢
    exact ⟨h.1, h.2.2.1, h.2.2.2.1, h.2.2.2.2⟩
  rw [e1] at HA
  rw [e2] at HB
  rw [e3] at HC
  clear e1 e2 e3 h hS hs5 hK hH HT
  generalize passS (⟨#[115, 97, 108, 116, 32]⟩ ++ nm) wd 3 = P at HP ⊢
  go_enter Tryd.func5, Tryd.ntmps5
  go_wp2_with fail
  refine (HA.out _).mono ?_
  rintro e w1 ⟨rfl, hw⟩
  subst hw
  go_wp2_with fail
  refine (HB.out _).mono ?_
  rintro e w1 ⟨rfl, hw⟩
  subst hw
  go_wp2_with fail
  refine (HC.out _).mono ?_
  rintro e w1 ⟨rfl, hw⟩
  subst hw
  go_wp2_with fail
  refine (HP.out _ ((Below.refl w.heap.size w).alloc (by simp <;> omega) _)).mono ?_
  rintro e wx1 ⟨rfl, bx⟩
  have c1_0_0 : wx1.cell? ⟨w.heap.size, 0, none⟩ = some (.string ⟨#[]⟩) := bkeep bx (by simp [go_sem])
  have f1_0_0 : wx1.frozen? ⟨w.heap.size, 0, none⟩ = false := bthaw bx (v := .string ⟨#[]⟩) (by simp [go_sem]) (by simp [go_sem])
  have c1_0_1 : wx1.cell? ⟨w.heap.size, 1, none⟩ = some (.string ⟨#[]⟩) := bkeep bx (by simp [go_sem])
  have f1_0_1 : wx1.frozen? ⟨w.heap.size, 1, none⟩ = false := bthaw bx (v := .string ⟨#[]⟩) (by simp [go_sem]) (by simp [go_sem])
  have c1_0_2 : wx1.cell? ⟨w.heap.size, 2, none⟩ = some (.string ⟨#[]⟩) := bkeep bx (by simp [go_sem])
  have f1_0_2 : wx1.frozen? ⟨w.heap.size, 2, none⟩ = false := bthaw bx (v := .string ⟨#[]⟩) (by simp [go_sem]) (by simp [go_sem])
  have c1_0_3 : wx1.cell? ⟨w.heap.size, 3, none⟩ = some (.string ⟨#[]⟩) := bkeep bx (by simp [go_sem])
  have f1_0_3 : wx1.frozen? ⟨w.heap.size, 3, none⟩ = false := bthaw bx (v := .string ⟨#[]⟩) (by simp [go_sem]) (by simp [go_sem])
  have c1_0_4 : wx1.cell? ⟨w.heap.size, 4, none⟩ = some (.int .i64 0) := bkeep bx (by simp [go_sem])
  have f1_0_4 : wx1.frozen? ⟨w.heap.size, 4, none⟩ = false := bthaw bx (v := .int .i64 0) (by simp [go_sem]) (by simp [go_sem])
  have c1_0_5 : wx1.cell? ⟨w.heap.size, 5, none⟩ = some (.int .i64 0) := bkeep bx (by simp [go_sem])
  have f1_0_5 : wx1.frozen? ⟨w.heap.size, 5, none⟩ = false := bthaw bx (v := .int .i64 0) (by simp [go_sem]) (by simp [go_sem])
  have BX1 : Hid (Below w.heap.size w wx1) := ((Below.refl w.heap.size w).alloc (by simp <;> omega) _).trans (bx.mono (by simp <;> omega))
  clear bx
  go_wp2
  (try simp only [Exit.inBlock, Exit.then])
  refine bodyPost_ret (v := .tuple #[.agg #[.string nm, .string (⟨#[115, 97, 108, 116, 32]⟩ ++ nm), .string P, .string ro, .int .i64 bl, .int .i64 lg], .int .i64 0]) (by simp [results, Tryd.results5, go_sem, c1_0_0, c1_0_1, c1_0_2, c1_0_3, c1_0_4, c1_0_5]; try rfl) rfl ?_
  exact ⟨rfl, ((((((BX1.out.setCell (p := ⟨w.heap.size, _, _⟩) (by show w.heap.size ≤ w.heap.size; omega) _).setCell (p := ⟨w.heap.size, _, _⟩) (by show w.heap.size ≤ w.heap.size; omega) _).setCell (p := ⟨w.heap.size, _, _⟩) (by show w.heap.size ≤ w.heap.size; omega) _).setCell (p := ⟨w.heap.size, _, _⟩) (by show w.heap.size ≤ w.heap.size; omega) _).setCell (p := ⟨w.heap.size, _, _⟩) (by show w.heap.size ≤ w.heap.size; omega) _).setCell (p := ⟨w.heap.size, _, _⟩) (by show w.heap.size ≤ w.heap.size; omega) _)⟩

theorem make_both (nm wd ro : ByteArray) (bl lg : Int) (h1 : nm.size ≤ 1048576) (h2 : wd.size ≤ 1048576) (h3 : ro.size ≤ 1048576) : ∃ (n s h r : ByteArray) (b l c : Int), (∀ w, Calls Tryd.prog 4 #[.string nm, .string wd, .string ro, .int .i64 bl, .int .i64 lg] w fun e w' => e = .returned (.tuple #[.agg #[.string n, .string s, .string h, .string r, .int .i64 b, .int .i64 l], .int .i64 c]) ∧ Below w.heap.size w w') ∧
    ∀ w, KTab w → HTab w → Calls Tryd.prog 5 #[.string nm, .string wd, .string ro, .int .i64 bl, .int .i64 lg] w fun e w' => e = .returned (.tuple #[.agg #[.string n, .string s, .string h, .string r, .int .i64 b, .int .i64 l], .int .i64 c]) ∧ Below w.heap.size w w' := by
  by_cases hl : 65536 < nm.size ∨ 65536 < wd.size ∨ 65536 < ro.size
  · exact ⟨_, _, _, _, _, _, _, fun w => specMake_long nm wd ro bl lg w hl h1 h2 h3, fun w _ _ => implMake_long nm wd ro bl lg w hl h1 h2 h3⟩
  cases hm : (snB nm && (dec (wd.size ≤ 40) && (snB ro && (dec (0 ≤ bl ∧ bl ≤ 1000000) && dec (0 ≤ lg ∧ lg ≤ 1000))))) with
  | false => exact ⟨_, _, _, _, _, _, _, fun w => specMake_no nm wd ro bl lg w (by omega) (by omega) (by omega) hm, fun w _ _ => implMake_no nm wd ro bl lg w (by omega) (by omega) (by omega) hm⟩
  | true => exact ⟨_, _, _, _, _, _, _, fun w => specMake_yes nm wd ro bl lg w (by omega) (by omega) (by omega) hm, fun w hK hH => implMake_yes nm wd ro bl lg w hK hH (by omega) (by omega) (by omega) hm⟩
set_option maxHeartbeats 1000000 in
theorem lawMakeUser_any (nm wd ro : ByteArray) (bl lg : Int) (w : World) (hK : KTab w) (hH : HTab w) (h1 : nm.size ≤ maxLen) (h2 : wd.size ≤ maxLen) (h3 : ro.size ≤ maxLen) :
    Calls Tryd.prog 3 #[.string nm, .string wd, .string ro, .int .i64 bl, .int .i64 lg] w fun e w' => e = .returned (.bool true) ∧ Below w.heap.size w w' := by
  unfold maxLen at h1 h2 h3
  by_cases lnm : 1048576 < nm.size
  · have znm : (1048576 : Int) < (nm.size : Int) := by omega
    go_enter Tryd.func3, Tryd.ntmps3
    go_wp2
    go_ret
    exact ⟨rfl, Below.refl _ _⟩
  have znm : (nm.size : Int) ≤ 1048576 := by omega
  by_cases lwd : 1048576 < wd.size
  · have zwd : (1048576 : Int) < (wd.size : Int) := by omega
    go_enter Tryd.func3, Tryd.ntmps3
    go_wp2
    go_ret
    exact ⟨rfl, Below.refl _ _⟩
  have zwd : (wd.size : Int) ≤ 1048576 := by omega
  by_cases lro : 1048576 < ro.size
  · have zro : (1048576 : Int) < (ro.size : Int) := by omega
    go_enter Tryd.func3, Tryd.ntmps3
    go_wp2
    go_ret
    exact ⟨rfl, Below.refl _ _⟩
  have zro : (ro.size : Int) ≤ 1048576 := by omega
  have HT : Hid (KTab w ∧ HTab w) := ⟨hK, hH⟩
  obtain ⟨n, s, h, r, b, l, c, hS, hI⟩ := make_both nm wd ro bl lg (by omega) (by omega) (by omega)
  have HS : Hid (∀ w, Calls Tryd.prog 4 #[.string nm, .string wd, .string ro, .int .i64 bl, .int .i64 lg] w fun e w' => e = .returned (.tuple #[.agg #[.string n, .string s, .string h, .string r, .int .i64 b, .int .i64 l], .int .i64 c]) ∧ Below w.heap.size w w') := hS
  have HI : Hid (∀ w, KTab w → HTab w → Calls Tryd.prog 5 #[.string nm, .string wd, .string ro, .int .i64 bl, .int .i64 lg] w fun e w' => e = .returned (.tuple #[.agg #[.string n, .string s, .string h, .string r, .int .i64 b, .int .i64 l], .int .i64 c]) ∧ Below w.heap.size w w') := hI
  have HE : Hid (∀ w, Calls Tryd.prog 6 #[.agg #[.string n, .string s, .string h, .string r, .int .i64 b, .int .i64 l], .agg #[.string n, .string s, .string h, .string r, .int .i64 b, .int .i64 l]] w fun e w' => e = .returned (.bool true) ∧ Below w.heap.size w w') := fun w => (eqUser_any n s h r b l w).mono fun e w' h => ⟨h.1, h.2.below⟩
  clear hS hI hK hH
  have hcc : (c != c) = false := by simp
  go_enter Tryd.func3, Tryd.ntmps3
  go_wp2_with fail
  refine (HS.out _).mono ?_
  rintro e w1 ⟨rfl, b1⟩
  have B1 : Hid (Below w.heap.size w w1) := b1
  clear b1
  have BA : Hid (Below w.heap.size w (w1.alloc (.cells #[.string n, .string s, .string h, .string r, .int .i64 b, .int .i64 l] 23))) := B1.out.alloc B1.out.size _
  go_wp2_with fail
  refine (HI.out _ (HT.out.1.below BA.out) (HT.out.2.below BA.out)).mono ?_
  rintro e w2 ⟨rfl, b2⟩
  have c0 : w2.cell? ⟨w1.heap.size, 0, none⟩ = some (.string n) := bkeep b2 (by simp [go_sem])
  have c1 : w2.cell? ⟨w1.heap.size, 1, none⟩ = some (.string s) := bkeep b2 (by simp [go_sem])
  have c2 : w2.cell? ⟨w1.heap.size, 2, none⟩ = some (.string h) := bkeep b2 (by simp [go_sem])
  have c3 : w2.cell? ⟨w1.heap.size, 3, none⟩ = some (.string r) := bkeep b2 (by simp [go_sem])
  have c4 : w2.cell? ⟨w1.heap.size, 4, none⟩ = some (.int .i64 b) := bkeep b2 (by simp [go_sem])
  have c5 : w2.cell? ⟨w1.heap.size, 5, none⟩ = some (.int .i64 l) := bkeep b2 (by simp [go_sem])
  have B2 : Hid (Below w.heap.size w w2) := BA.out.trans (b2.mono BA.out.size)
  clear b2 BA B1
  have d0 : (w2.alloc (.cells #[.string n, .string s, .string h, .string r, .int .i64 b, .int .i64 l] 23)).cell? ⟨w1.heap.size, 0, none⟩ = some (.string n) := acell c0 _
  have d1 : (w2.alloc (.cells #[.string n, .string s, .string h, .string r, .int .i64 b, .int .i64 l] 23)).cell? ⟨w1.heap.size, 1, none⟩ = some (.string s) := acell c1 _
  have d2 : (w2.alloc (.cells #[.string n, .string s, .string h, .string r, .int .i64 b, .int .i64 l] 23)).cell? ⟨w1.heap.size, 2, none⟩ = some (.string h) := acell c2 _
  have d3 : (w2.alloc (.cells #[.string n, .string s, .string h, .string r, .int .i64 b, .int .i64 l] 23)).cell? ⟨w1.heap.size, 3, none⟩ = some (.string r) := acell c3 _
  have d4 : (w2.alloc (.cells #[.string n, .string s, .string h, .string r, .int .i64 b, .int .i64 l] 23)).cell? ⟨w1.heap.size, 4, none⟩ = some (.int .i64 b) := acell c4 _
  have d5 : (w2.alloc (.cells #[.string n, .string s, .string h, .string r, .int .i64 b, .int .i64 l] 23)).cell? ⟨w1.heap.size, 5, none⟩ = some (.int .i64 l) := acell c5 _
  go_wp2_with fail
  refine (HE.out _).mono ?_
  rintro e w3 ⟨rfl, b3⟩
  have B3 : Hid (Below w.heap.size w w3) := (B2.out.alloc B2.out.size _).trans (b3.mono (by have := B2.out.size; simp; omega))
  clear b3 B2
  go_wp2
  go_ret
  exact ⟨rfl, B3.out⟩

end Go.Proofs.YtimhkeebgogfoabDoor
