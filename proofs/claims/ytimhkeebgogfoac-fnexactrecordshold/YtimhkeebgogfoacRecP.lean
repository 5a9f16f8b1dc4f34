/- Records that hold: by all pairs, and by a map from an Id to the last record of it. Nothing of the program is imported. -/
import Derived.Test.YtimhkeebgogfoacGuV
import Derived.Maps.Own
import Derived.Maps.OwnSet
import Derived.Maps.Views
namespace Go.Proofs.Ytimhkeebgogfoac
open Go.RowKit Go.PlainAid Go.Maps
set_option linter.unusedVariables false

/-- What the records ahead of k say of the record at k. -/
def recAt (rs : List RecV) (k : Nat) (r : RecV) : Prop :=
  (∀ j e, j < k → rs[j]? = some e → e.id = r.id → e.st = false ∧ r.st = true ∧ e.tm ≤ r.tm) ∧ (r.st = true ↔ ∃ j e, j < k ∧ rs[j]? = some e ∧ e.id = r.id)
def recOk (rs : List RecV) (k : Nat) : Prop := ∀ i r, i < k → rs[i]? = some r → recAt rs i r
noncomputable def recB (rs : List RecV) : Bool := @decide (recOk rs rs.length) (Classical.propDecidable _)
theorem recB_yes {rs : List RecV} (h : recOk rs rs.length) : recB rs = true := by
  unfold recB
  exact @decide_eq_true _ (Classical.propDecidable _) h
theorem recB_no {rs : List RecV} {k : Nat} {r : RecV} (hr : rs[k]? = some r) (h : ¬ recAt rs k r) : recB rs = false := by
  unfold recB
  exact @decide_eq_false _ (Classical.propDecidable _) (fun h' => h (h' k r (List.getElem?_eq_some_iff.1 hr).1 hr))
theorem recOk_zero (rs : List RecV) : recOk rs 0 := fun i r hi => absurd hi (by omega)
theorem recOk_step {rs : List RecV} {k : Nat} {r : RecV} (h : recOk rs k) (hr : rs[k]? = some r) (hk : recAt rs k r) : recOk rs (k + 1) := by
  intro i e hi he
  by_cases h1 : i < k
  · exact h i e h1 he
  · obtain rfl : i = k := by omega
    rw [hr] at he
    cases he
    exact hk
/-- The last record of an Id ahead of k. -/
def lastAt (rs : List RecV) (k : Nat) (n : Int) (e : RecV) : Prop := ∃ j, j < k ∧ rs[j]? = some e ∧ e.id = n ∧ ∀ i f, j < i → i < k → rs[i]? = some f → f.id ≠ n
theorem last_says {rs : List RecV} {k : Nat} {r e : RecV} (h : recOk rs k) (hr : rs[k]? = some r) (hl : lastAt rs k r.id e) : recAt rs k r ↔ (e.st = false ∧ r.st = true ∧ e.tm ≤ r.tm) := by
  obtain ⟨j, hj, he, hid, hn⟩ := hl
  constructor
  · intro h1
    exact h1.1 j e hj he hid
  · rintro ⟨h1, h2, h3⟩
    refine ⟨fun i f hi hf hfi => ?_, ⟨fun _ => ⟨j, e, hj, he, hid⟩, fun _ => h2⟩⟩
    have hij : ¬ j < i := fun hlt => hn i f hlt hi hf hfi
    by_cases hie : i = j
    · subst hie
      rw [he] at hf
      cases hf
      exact ⟨h1, h2, h3⟩
    · have := (h j e hj he).2.2 ⟨i, f, by omega, hf, by rw [hfi, hid]⟩
      rw [h1] at this
      cases this
theorem none_says {rs : List RecV} {k : Nat} {r : RecV} (hn : ∀ i f, i < k → rs[i]? = some f → f.id ≠ r.id) : recAt rs k r ↔ r.st = false := by
  constructor
  · intro h1
    cases hs : r.st with
    | false => rfl
    | true =>
      obtain ⟨j, e, hj, he, hid⟩ := h1.2.1 hs
      exact absurd hid (hn j e hj he)
  · intro h1
    refine ⟨fun j e hj he hid => absurd hid (hn j e hj he), ⟨(fun h => by rw [h1] at h; cases h), (fun ⟨j, e, hj, he, hid⟩ => absurd hid (hn j e hj he))⟩⟩

section Mp
variable {H : Type}
/-- How the value of a span reads. -/
def spanElem (v : Value) : Option (DataW H × List MemPlace) :=
  match v with
  | .agg cs => (match cs.toList with
    | [.int .i64 a, .bool b] => some (.agg [.lit (.int .i64 a), .lit (.bool b)], [])
    | _ => none)
  | _ => none
theorem spanElem_mk (a : Int) (b : Bool) : spanElem (H := H) (.agg #[.int .i64 a, .bool b]) = some (.agg [.lit (.int .i64 a), .lit (.bool b)], []) := rfl
theorem spanElem_inv {v : Value} {a : Int} {b : Bool} {ps : List MemPlace} (h : spanElem (H := H) v = some (.agg [.lit (.int .i64 a), .lit (.bool b)], ps)) : v = .agg #[.int .i64 a, .bool b] := by
  unfold spanElem at h
  split at h
  · rename_i cs
    obtain ⟨l⟩ := cs
    dsimp only at h
    split at h
    · simp only [Option.some.injEq, Prod.mk.injEq, DataW.agg.injEq, List.cons.injEq, DataW.lit.injEq, Lit.int.injEq, Lit.bool.injEq, true_and, and_true] at h
      obtain ⟨⟨rfl, rfl⟩, -⟩ := h
      rfl
    · cases h
  · cases h
def spanD (e : RecV) : DataW H := .agg [.lit (.int .i64 e.tm), .lit (.bool e.st)]
def recD (rs : List RecV) : DataW H := rs.foldl (fun m e => m.put (.int .i64 e.id) (spanD e)) (.map [])
theorem recD_snoc (rs : List RecV) (e : RecV) : recD (H := H) (rs ++ [e]) = (recD rs).put (.int .i64 e.id) (spanD e) := by simp [recD, List.foldl_append]
theorem recD_take {rs : List RecV} {k : Nat} {e : RecV} (h : rs[k]? = some e) : recD (H := H) (rs.take (k + 1)) = (recD (rs.take k)).put (.int .i64 e.id) (spanD e) := by
  rw [← recD_snoc]
  congr 1
  rw [List.take_add_one, h]
  rfl
theorem recD_isMap (rs : List RecV) : ∀ k, IsMap (recD (H := H) (rs.take k))
  | 0 => by simp [recD]; exact isMap_empty
  | k + 1 => by
    cases h : rs[k]? with
    | none =>
      have hl : rs.length ≤ k := by simpa using h
      have := recD_isMap rs k
      rw [List.take_of_length_le hl] at this
      rw [List.take_of_length_le (by omega)]
      exact this
    | some e =>
      rw [recD_take h]
      exact (recD_isMap rs k).put _ _
theorem lit_ne {a b : Int} (h : a ≠ b) : (Lit.int .i64 a : Lit) ≠ .int .i64 b := fun e => h (by injection e)
/-- What the map says of an Id. -/
theorem recD_says (rs : List RecV) (n : Int) : ∀ k, k ≤ rs.length →
    (has (recD (H := H) (rs.take k)) (.int .i64 n) = false ∧ (∀ i f, i < k → rs[i]? = some f → f.id ≠ n)) ∨ (has (recD (H := H) (rs.take k)) (.int .i64 n) = true ∧ ∃ e, lastAt rs k n e ∧ ∀ z, (recD (H := H) (rs.take k)).atKey (.int .i64 n) z = spanD e)
  | 0, _ => .inl ⟨by simp [recD, has_eq], fun i f hi => absurd hi (by omega)⟩
  | k + 1, hk => by
    obtain ⟨e, he⟩ : ∃ e, rs[k]? = some e := ⟨_, List.getElem?_eq_getElem (by omega)⟩
    rw [recD_take he]
    by_cases hn : e.id = n
    · subst hn
      refine .inr ⟨has_put_same (k := .int .i64 e.id) (recD_isMap rs k) trivial _, e, ⟨k, by omega, he, rfl, fun i f h1 h2 => absurd h1 (by omega)⟩, fun z => atKey_put_same (k := .int .i64 e.id) (recD_isMap rs k) trivial _ _⟩
    · have hne : (Lit.int .i64 n : Lit) ≠ .int .i64 e.id := lit_ne (fun h => hn h.symm)
      rcases recD_says rs n k (by omega) with ⟨h1, h2⟩ | ⟨h1, f, ⟨j, hj, hf, hid, hl⟩, h3⟩
      · refine .inl ⟨(has_put_other hne _).trans h1, fun i f hi hf => ?_⟩
        by_cases hik : i < k
        · exact h2 i f hik hf
        · obtain rfl : i = k := by omega
          rw [he] at hf
          cases hf
          exact hn
      · refine .inr ⟨(has_put_other hne _).trans h1, f, ⟨j, by omega, hf, hid, fun i g h4 h5 hg => ?_⟩, fun z => (atKey_put_other hne _ _).trans (h3 z)⟩
        by_cases hik : i < k
        · exact hl i g h4 hik hg
        · obtain rfl : i = k := by omega
          rw [he] at hg
          cases hg
          exact hn
end Mp
end Go.Proofs.Ytimhkeebgogfoac
