/- ReadNet, the program's and the model's. -/
import Derived.Test.YtimhkeebgogfoaaDoorCutS
import Derived.Test.YtimhkeebgogfoaaDoorReadAddr2
import Derived.Test.YtimhkeebgogfoaaDoorNetW
import Derived.OwnWalk
namespace Go.Proofs.YtimhkeebgogfoaaDoor
open Go.RowKit Go.PlainAid Go.Proofs.YtimhkeebgogfoaaDoor.Bt Go.Sort
set_option linter.unusedVariables false
set_option maxRecDepth 20000

theorem idx_of (c : UInt8) : ∀ (l : List UInt8) (i : Nat), l[i]? = some c → (∀ j, j < i → l[j]? ≠ some c) → Lib.indexByte l c = (i : Int)
  | [], i, h, _ => by simp at h
  | b :: l, 0, h, _ => by
    have : b = c := by simpa using h
    subst this
    simp [Lib.indexByte]
  | b :: l, i + 1, h, hn => by
    have h1 := idx_of c l i (by simpa using h) (fun j hj => by have := hn (j + 1) (by omega); simpa using this)
    have hb : (b == c) = false := by
      have := hn 0 (by omega)
      rw [beq_eq_false_iff_ne]
      simpa using this
    have h2 : (((i : Nat) : Int) == -1) = false := by rw [beq_eq_false_iff_ne]; omega
    simp only [Lib.indexByte, hb, h1, h2]
    simp
theorem idx_none (c : UInt8) : ∀ (l : List UInt8), (∀ j : Nat, l[j]? ≠ some c) → Lib.indexByte l c = -1
  | [], _ => rfl
  | b :: l, h => by
    have h1 := idx_none c l (fun j => by have := h (j + 1); simpa using this)
    have hb : (b == c) = false := by
      have := h 0
      rw [beq_eq_false_iff_ne]
      simpa using this
    simp [Lib.indexByte, hb, h1]
theorem idx_bt (t : ByteArray) (i : Nat) (hi : i < t.size) (h : bt t i = 47) (hn : ∀ j, j < i → bt t j ≠ 47) : Lib.indexByte t.data.toList 47 = (i : Int) := by
  refine idx_of 47 _ i ?_ (fun j hj e => ?_)
  · rw [List.getElem?_eq_getElem (by simpa using hi)]
    exact congrArg some ((Sl.bt_47 t i hi).1 h)
  · have hj' : j < t.size := by omega
    rw [List.getElem?_eq_getElem (by simpa using hj')] at e
    exact hn j hj ((Sl.bt_47 t j hj').2 (Option.some.inj e))
theorem idx_bt_no (t : ByteArray) (hn : ∀ j, j < t.size → bt t j ≠ 47) : Lib.indexByte t.data.toList 47 = -1 := by
  refine idx_none 47 _ (fun j e => ?_)
  by_cases hj : j < t.size
  · rw [List.getElem?_eq_getElem (by simpa using hj)] at e
    exact hn j hj ((Sl.bt_47 t j hj).2 (Option.some.inj e))
  · rw [List.getElem?_eq_none (by simpa using hj)] at e
    cases e
/-- A slash, the first; or none. -/
theorem first_slash (t : ByteArray) : (∃ i, i < t.size ∧ bt t i = 47 ∧ ∀ j, j < i → bt t j ≠ 47) ∨ ∀ j, j < t.size → bt t j ≠ 47 := by
  by_cases h : ∀ j, j < t.size → bt t j ≠ 47
  · exact Or.inr h
  · left
    have h2 : ∃ j, j < t.size ∧ bt t j = 47 := by
      simp only [Classical.not_forall, Classical.not_not] at h
      obtain ⟨j, hj, e⟩ := h
      exact ⟨j, hj, e⟩
    obtain ⟨i, ⟨hi, e⟩, hmin⟩ : ∃ i, (i < t.size ∧ bt t i = 47) ∧ ∀ j, j < i → ¬ (j < t.size ∧ bt t j = 47) := by
      obtain ⟨j, hj⟩ := h2
      induction j using Nat.strongRecOn with
      | _ j ih =>
        by_cases h3 : ∃ k, k < j ∧ (k < t.size ∧ bt t k = 47)
        · obtain ⟨k, hk, hk2⟩ := h3
          exact ih k hk hk2
        · exact ⟨j, hj, fun k hk hk2 => h3 ⟨k, hk, hk2⟩⟩
    exact ⟨i, hi, e, fun j hj ee => hmin j hj ⟨by omega, ee⟩⟩

/-- A number's text has no slash. -/
theorem rnB_slash (t : ByteArray) (j : Nat) (hj : j < t.size) (h : bt t j = 47) : rnB t = false := by
  unfold rnB
  by_cases hn : isNeg t = true
  · have hh := of_decide_eq_true (p := 0 < t.size ∧ bt t 0 = 45) hn
    have hj0 : j ≠ 0 := fun e => by subst e; omega
    have hb : bt (dOf t) (j - 1) = 47 := by
      unfold dOf
      rw [if_pos hn]
      rw [bt_list _ _ (by rw [ext_size]; omega)]
      rw [bt_list _ _ hj] at h
      rw [← h]
      have e : (t.extract 1 t.size).data.toList = t.data.toList.drop 1 := by
        rw [Lib.extract_data]
        exact List.take_of_length_le (by simp)
      simp only [e, List.getElem_drop]
      congr 2
      have : 1 + (j - 1) = j := by omega
      simp only [this]
    exact (num_bad _ _ _ (j - 1) (by unfold dOf; rw [if_pos hn, ext_size]; omega) (by rw [hb]; omega)).1
  · have e : dOf t = t := if_neg hn
    rw [e]
    exact (num_bad _ _ _ j hj (by rw [h]; omega)).1
theorem rnB_empty : rnB ⟨#[]⟩ = false := by
  unfold rnB
  exact (num_no _ _ _ (fun h => by have := h.1; simp [dOf, isNeg, ByteArray.size] at this)).1

set_option maxHeartbeats 1000000 in
theorem liteCut_hit (t : ByteArray) (i : Nat) (w : World) (hi : i < t.size) (h : bt t i = 47) (hn : ∀ j, j < i → bt t j ≠ 47) (ht : t.size ≤ 1048576) :
    Calls Tryd.prog 100 #[.string t, .string ⟨#[47]⟩] w fun e w' => e = .returned (.tuple #[.string (t.extract 0 i), .string (t.extract (i + 1) t.size), .bool true]) ∧ Below w.heap.size w w' := by
  have HX : Hid (∀ w, Calls Tryd.prog 107 #[.string t, .string ⟨#[47]⟩] w fun e w' => e = .returned (.int .i64 (i : Int)) ∧ w' = w) := fun w => by
    have := Tryd.stringslite_Index_one t 47 w
    rw [idx_bt t i hi h hn] at this
    exact this
  have hz0 : (0 : Int) ≤ (i : Int) := by omega
  have hz1 : (i : Int) ≤ (t.size : Int) := by omega
  have hz2 : (i : Int) + 1 ≤ (t.size : Int) := by omega
  clear h hn
  go_enter Tryd.func100, Tryd.ntmps100
  go_wp2_with fail
  refine (HX.out _).mono ?_
  rintro e w1 ⟨rfl, hw⟩
  subst hw
  have hw1 : IntKind.i64.wrap ((i : Int) + 1) = (i : Int) + 1 := by rw [IntKind.wrap_i64]; omega
  have hz3 : (0 : Int) ≤ (i : Int) + 1 := by omega
  have htn : ((i : Int) + 1).toNat = i + 1 := by omega
  go_wp2
  go_big_quiet (fail)
  go_wp2
  go_ret3
  exact ⟨rfl, ⟨rfl, rfl, rfl, Nat.le_refl _, fun _ _ => rfl⟩⟩
theorem liteCut_miss (t : ByteArray) (w : World) (hn : ∀ j, j < t.size → bt t j ≠ 47) :
    Calls Tryd.prog 100 #[.string t, .string ⟨#[47]⟩] w fun e w' => e = .returned (.tuple #[.string t, .string ⟨#[]⟩, .bool false]) ∧ Below w.heap.size w w' := by
  have HX : Hid (∀ w, Calls Tryd.prog 107 #[.string t, .string ⟨#[47]⟩] w fun e w' => e = .returned (.int .i64 (-1)) ∧ w' = w) := fun w => by
    have := Tryd.stringslite_Index_one t 47 w
    rw [idx_bt_no t hn] at this
    exact this
  clear hn
  go_enter Tryd.func100, Tryd.ntmps100
  go_wp2_with fail
  refine (HX.out _).mono ?_
  rintro e w1 ⟨rfl, hw⟩
  subst hw
  go_wp2
  go_ret3
  exact ⟨rfl, Below.refl _ _⟩
theorem strCut_of (t A R : ByteArray) (q : Bool) (w : World) (h : ∀ w, Calls Tryd.prog 100 #[.string t, .string ⟨#[47]⟩] w fun e w' => e = .returned (.tuple #[.string A, .string R, .bool q]) ∧ Below w.heap.size w w') :
    Calls Tryd.prog 78 #[.string t, .string ⟨#[47]⟩] w fun e w' => e = .returned (.tuple #[.string A, .string R, .bool q]) ∧ Below w.heap.size w w' := by
  have HX : Hid (∀ w, Calls Tryd.prog 100 #[.string t, .string ⟨#[47]⟩] w fun e w' => e = .returned (.tuple #[.string A, .string R, .bool q]) ∧ Below w.heap.size w w') := h
  clear h
  go_enter Tryd.func78, Tryd.ntmps78
  go_wp2_with fail
  refine (HX.out _).mono ?_
  rintro e w1 ⟨rfl, b1⟩
  have B1 : Hid (Below w.heap.size w w1) := b1
  clear b1
  go_wp2
  go_ret3
  exact ⟨rfl, B1.out⟩

theorem set_two {w2 : World} {q : Nat} {u0 u1 : Value} (v0 v1 : Value) (z0 : w2.cell? ⟨q, 0, none⟩ = some u0) (z1 : w2.cell? ⟨q, 1, none⟩ = some u1) :
    ((w2.setCell ⟨q, 0, none⟩ v0).setCell ⟨q, 1, none⟩ v1).cell? ⟨q, 0, none⟩ = some v0 ∧ ((w2.setCell ⟨q, 0, none⟩ v0).setCell ⟨q, 1, none⟩ v1).cell? ⟨q, 1, none⟩ = some v1 ∧ Below q w2 ((w2.setCell ⟨q, 0, none⟩ v0).setCell ⟨q, 1, none⟩ v1) := by
  have n1 : (⟨q, 0, none⟩ : Addr) ≠ ⟨q, 1, none⟩ := fun h => by cases h
  have a1 : (w2.setCell ⟨q, 0, none⟩ v0).cell? ⟨q, 1, none⟩ = some u1 := by rw [World.cell?_setCell_other _ _ _ _ n1]; exact z1
  refine ⟨?_, World.cell?_setCell_same _ _ _ a1, ⟨rfl, rfl, rfl, by simp, fun k hk => ?_⟩⟩
  · rw [World.cell?_setCell_other _ _ _ _ (Ne.symm n1)]
    exact World.cell?_setCell_same _ _ _ z0
  · rw [Below.heap_setCell _ _ _ _ (by show k ≠ q; omega), Below.heap_setCell _ _ _ _ (by show k ≠ q; omega)]

/-- What both answer of a text cut in two. -/
def rdN (A R : ByteArray) : Bool := raB A && rnB R && nB (raV A) (rnV R)
theorem implReadNet_cut (t A R : ByteArray) (q : Bool) (m : Int) (w : World) (ht : t.size ≤ 65536) (hA : A.size ≤ 65536) (hR : R.size ≤ 65536) (hc : ∀ w, Calls Tryd.prog 78 #[.string t, .string ⟨#[47]⟩] w fun e w' => e = .returned (.tuple #[.string A, .string R, .bool q]) ∧ Below w.heap.size w w')
    (hm : w.cell? ⟨0, 0, none⟩ = some (.int .i64 m)) :
    Calls Tryd.prog 44 #[.string t] w fun e w' => e = .returned (.tuple #[.agg #[.int .i64 (if rdN A R then raV A else 0), .int .i64 (if rdN A R then rnV R else 0)], .int .i64 (if rdN A R then 0 else 3)]) ∧ Below w.heap.size w w' := by
  have HC : Hid (∀ w, Calls Tryd.prog 78 #[.string t, .string ⟨#[47]⟩] w fun e w' => e = .returned (.tuple #[.string A, .string R, .bool q]) ∧ Below w.heap.size w w') := hc
  have eN : raN A = raV A := if_neg (by omega)
  have eC : raC A = raK A := if_neg (by omega)
  have HA : Hid (∀ w, w.cell? ⟨0, 0, none⟩ = some (.int .i64 m) → Calls Tryd.prog 79 #[.string A] w fun e w' => e = .returned (.tuple #[.int .i64 (raV A), .int .i64 (raK A)]) ∧ Below w.heap.size w w') := fun w hm => by
    have := implReadAddress_any A m w hm (by omega)
    rw [eN, eC] at this
    exact this
  have HN : Hid (∀ w, Calls Tryd.prog 45 #[.string R] w fun e w' => e = .returned (.tuple #[.int .i64 (rnV R), .bool (rnB R)]) ∧ w' = w) := fun w => readNumber_any R w (by omega)
  have HO : Hid (∀ w, Calls Tryd.prog 80 #[.agg #[.int .i64 (raV A), .int .i64 (rnV R)]] w fun e w' => e = .returned (.bool (nB (raV A) (rnV R))) ∧ Grw w w') := fun w => implNetOK_any _ _ w
  have ER : Hid (rdN A R = (raB A && rnB R && nB (raV A) (rnV R))) := rfl
  have HM : Hid (∀ w', Below w.heap.size w w' → w'.cell? ⟨0, 0, none⟩ = some (.int .i64 m)) := fun w' hb => by
    rw [hb.cell (World.block_lt_of_cell? w _ hm)]; exact hm
  clear hc eN eC hm
  generalize rdN A R = rd at ER ⊢
  generalize nB (raV A) (rnV R) = nb at HO ER
  generalize rnB R = rb at HN ER
  generalize rnV R = rv at HN HO ⊢
  have EK : Hid (raK A = if raB A then 0 else 3) := rfl
  generalize raV A = av at HA HO ⊢
  generalize raK A = ak at HA EK
  generalize raB A = ab at ER EK
  go_enter Tryd.func44, Tryd.ntmps44
  go_wp2_with fail
  refine (HC.out _).mono ?_
  rintro e w1 ⟨rfl, b1⟩
  have X1 : Hid (Below w.heap.size w w1 ∧ w.heap.size < w1.heap.size ∧ w1.cell? ⟨w.heap.size, 0, none⟩ = some (.int .i64 0) ∧ w1.cell? ⟨w.heap.size, 1, none⟩ = some (.int .i64 0) ∧ ∀ i, w1.frozen? ⟨w.heap.size, i, none⟩ = false) :=
    ⟨((Below.refl _ _).alloc (Nat.le_refl _) _).trans (b1.mono (by simp)), by have := b1.size; simp at this; omega, by rw [b1.cell (by simp)]; simp, by rw [b1.cell (by simp)]; simp, fun i => by rw [b1.frozen (by simp)]; simp⟩
  clear b1
  go_wp2_with fail
  refine (HA.out _ (HM.out _ X1.out.1)).mono ?_
  rintro e w2 ⟨rfl, b2⟩
  have X2 : Hid (Below w.heap.size w w2 ∧ w.heap.size < w2.heap.size) := ⟨X1.out.1.trans (b2.mono (Nat.le_of_lt X1.out.2.1)), Nat.lt_of_lt_of_le X1.out.2.1 b2.size⟩
  have z0 : w2.cell? ⟨w.heap.size, 0, none⟩ = some (.int .i64 0) := by rw [b2.cell (by exact X1.out.2.1)]; exact X1.out.2.2.1
  have z1 : w2.cell? ⟨w.heap.size, 1, none⟩ = some (.int .i64 0) := by rw [b2.cell (by exact X1.out.2.1)]; exact X1.out.2.2.2.1
  have f0 : ∀ i, w2.frozen? ⟨w.heap.size, i, none⟩ = false := fun i => by rw [b2.frozen (by exact X1.out.2.1)]; exact X1.out.2.2.2.2 i
  clear b2 X1
  cases ab with
  | false =>
    have e1 : ak = 3 := EK.out
    have e2 : rd = false := by rw [ER.out]; simp
    subst e1 e2
    obtain ⟨W, hW⟩ : ∃ W, W = (w2.setCell ⟨w.heap.size, 0, none⟩ (.int .i64 0)).setCell ⟨w.heap.size, 1, none⟩ (.int .i64 0) := ⟨_, rfl⟩
    have st := set_two (.int .i64 0) (.int .i64 0) z0 z1
    rw [← hW] at st
    have r0 := st.1
    have r1 := st.2.1
    have XW : Hid (Below w.heap.size w W) := X2.out.1.trans st.2.2
    clear st
    go_wp2
    rw [← hW]
    clear hW
    (try simp only [Exit.inBlock, Exit.then])
    refine bodyPost_ret (v := .tuple #[.agg #[.int .i64 0, .int .i64 0], .int .i64 3]) (by simp [results, Tryd.results44, go_sem, r0, r1]; try rfl) rfl ?_
    exact ⟨rfl, XW.out⟩
  | true =>
    have e1 : ak = 0 := EK.out
    subst e1
    go_wp2_with fail
    refine (HN.out _).mono ?_
    rintro e w3 ⟨rfl, hw⟩
    subst hw
    cases rb with
    | false =>
      have e2 : rd = false := by rw [ER.out]; simp
      subst e2
      obtain ⟨W, hW⟩ : ∃ W, W = (w3.setCell ⟨w.heap.size, 0, none⟩ (.int .i64 0)).setCell ⟨w.heap.size, 1, none⟩ (.int .i64 0) := ⟨_, rfl⟩
      have st := set_two (.int .i64 0) (.int .i64 0) z0 z1
      rw [← hW] at st
      have r0 := st.1
      have r1 := st.2.1
      have XW : Hid (Below w.heap.size w W) := X2.out.1.trans st.2.2
      clear st
      go_wp2
      rw [← hW]
      clear hW
      (try simp only [Exit.inBlock, Exit.then])
      refine bodyPost_ret (v := .tuple #[.agg #[.int .i64 0, .int .i64 0], .int .i64 3]) (by simp [results, Tryd.results44, go_sem, r0, r1]; try rfl) rfl ?_
      exact ⟨rfl, XW.out⟩
    | true =>
      go_wp2_with fail
      refine (HO.out _).mono ?_
      rintro e w4 ⟨rfl, g4⟩
      have b4 := g4.below
      have hl3 : w.heap.size < w3.heap.size := X2.out.2
      have z0 : w4.cell? ⟨w.heap.size, 0, none⟩ = some (.int .i64 0) := by rw [b4.cell (by simp; omega), World.cell?_alloc_lt _ _ _ (by exact hl3)]; exact z0
      have z1 : w4.cell? ⟨w.heap.size, 1, none⟩ = some (.int .i64 0) := by rw [b4.cell (by simp; omega), World.cell?_alloc_lt _ _ _ (by exact hl3)]; exact z1
      have f0 : ∀ i, w4.frozen? ⟨w.heap.size, i, none⟩ = false := fun i => by rw [(((Below.refl w3.heap.size w3).alloc (Nat.le_refl _) _).trans (b4.mono (by simp))).frozen (p := ⟨w.heap.size, i, none⟩) hl3]; exact f0 i
      have y0 : w4.cell? ⟨w3.heap.size, 0, none⟩ = some (.int .i64 av) := by rw [b4.cell (by simp)]; simp
      have y1 : w4.cell? ⟨w3.heap.size, 1, none⟩ = some (.int .i64 rv) := by rw [b4.cell (by simp)]; simp
      have X4 : Hid (Below w.heap.size w w4) := (X2.out.1.alloc (Nat.le_of_lt hl3) _).trans (b4.mono (by simp; omega))
      clear b4 g4
      cases nb with
      | false =>
        have e2 : rd = false := by rw [ER.out]; simp
        subst e2
        obtain ⟨W, hW⟩ : ∃ W, W = (w4.setCell ⟨w.heap.size, 0, none⟩ (.int .i64 0)).setCell ⟨w.heap.size, 1, none⟩ (.int .i64 0) := ⟨_, rfl⟩
        have st := set_two (.int .i64 0) (.int .i64 0) z0 z1
        rw [← hW] at st
        have r0 := st.1
        have r1 := st.2.1
        have XW : Hid (Below w.heap.size w W) := X4.out.trans st.2.2
        clear st
        go_wp2
        rw [← hW]
        clear hW
        (try simp only [Exit.inBlock, Exit.then])
        refine bodyPost_ret (v := .tuple #[.agg #[.int .i64 0, .int .i64 0], .int .i64 3]) (by simp [results, Tryd.results44, go_sem, r0, r1]; try rfl) rfl ?_
        exact ⟨rfl, XW.out⟩
      | true =>
        have e2 : rd = true := by rw [ER.out]; simp
        subst e2
        obtain ⟨W, hW⟩ : ∃ W, W = (w4.setCell ⟨w.heap.size, 0, none⟩ (.int .i64 av)).setCell ⟨w.heap.size, 1, none⟩ (.int .i64 rv) := ⟨_, rfl⟩
        have st := set_two (.int .i64 av) (.int .i64 rv) z0 z1
        rw [← hW] at st
        have r0 := st.1
        have r1 := st.2.1
        have XW : Hid (Below w.heap.size w W) := X4.out.trans st.2.2
        clear st
        go_wp2
        rw [← hW]
        clear hW
        (try simp only [Exit.inBlock, Exit.then])
        refine bodyPost_ret (v := .tuple #[.agg #[.int .i64 av, .int .i64 rv], .int .i64 0]) (by simp [results, Tryd.results44, go_sem, r0, r1]; try rfl) rfl ?_
        exact ⟨rfl, XW.out⟩
end Go.Proofs.YtimhkeebgogfoaaDoor
