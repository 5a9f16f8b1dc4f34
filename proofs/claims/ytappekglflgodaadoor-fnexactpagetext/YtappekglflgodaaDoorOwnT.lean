/- Rows of one's own of flat structs: the last fields of an element stored; a row joined. Nothing of the program is imported. -/
import Derived.Test.YtappekglflgodaaDoorOwnS
import Derived.Test.YtappekglflgodaaDoorGrw
namespace Go.Proofs.YtappekglflgodaaDoor
open Go.RowKit Go.PlainAid
set_option linter.unusedVariables false

theorem flatS_tail {α : Type} {c : α → List Value} {K : Nat} (hK : ∀ x, (c x).length = K) (xs : List α) (i : Nat) (x y : α) (j : Nat) (hx : xs[i]? = some x) (hj : j ≤ K) (hy : (c y).take j = (c x).take j) : flatS c (xs.set i y) = sets (flatS c xs) (i * K + j) ((c y).drop j) := by
  have hi := (List.getElem?_eq_some_iff.1 hx).1
  obtain ⟨A, x', C, rfl, rfl⟩ : ∃ A x C, xs = A ++ x :: C ∧ A.length = i := ⟨xs.take i, xs[i], xs.drop (i + 1), by simp, by simp; omega⟩
  have ex : x' = x := by simpa using hx
  subst ex
  have e : (A ++ x' :: C).set A.length y = A ++ y :: C := by simp
  have h1 : flatS c (A ++ x' :: C) = (flatS c A ++ (c x').take j) ++ ((c x').drop j ++ flatS c C) := by
    rw [flatS_append, flatS_cons, List.append_assoc, ← List.append_assoc (List.take j (c x')), List.take_append_drop]
  have h2 : A.length * K + j = (flatS c A ++ (c x').take j).length := by
    rw [List.length_append, flatS_len hK, List.length_take, hK]
    omega
  rw [e, h1, h2, sets_mid _ _ _ _ (by rw [List.length_drop, List.length_drop, hK, hK]), flatS_append, flatS_cons, ← hy]
  rw [List.append_assoc, ← List.append_assoc (List.take j (c y)), List.take_append_drop]
/-- The fields of an element from j on, stored. -/
theorem OwnS.tail {α : Type} {c : α → List Value} {K : Nat} {e : TypeId} {w : World} {B : Nat} {xs : List α} {g n cap : Nat} (h : OwnS c K e w B (.slice (some ⟨g, 0, none⟩) n cap) xs) (hK : ∀ x, (c x).length = K) {i j : Nat} {x : α} (y : α) (hx : xs[i]? = some x) (hj : j ≤ K) (hy : (c y).take j = (c x).take j) :
    OwnS c K e (wsets w g (i * K + j) ((c y).drop j)) B (.slice (some ⟨g, 0, none⟩) n cap) (xs.set i y) ∧ w.grownBy (wsets w g (i * K + j) ((c y).drop j)) (some g) := by
  obtain rfl := h.len
  have := owns_sets ((c y).drop j) w _ (i * K + j) h
  refine ⟨?_, this.2⟩
  unfold OwnS
  rw [flatS_tail hK xs i x y j hx hj hy, List.length_set]
  exact this.1
theorem Grw.grown {w w' : World} (h : Grw w w') (r : Option Nat) : w.grownBy w' r := by
  have b := h.below
  obtain ⟨q, os, rfl⟩ := h
  exact ⟨rfl, rfl, rfl, b.size, fun k hk _ => b.block k hk⟩
/-- What is appended. -/
theorem OwnS.join {α : Type} {c : α → List Value} {K : Nat} {e : TypeId} {w w' : World} {B : Nat} {v v' : Value} {xs ys : List α} (h : OwnS c K e w B v xs) (hB : B ≤ w.heap.size) (h1 : w'.ownsRow B e K v' (xs.length + ys.length) (flatS c xs ++ flatS c ys)) (h2 : w.grownBy w' v.ownBlock) :
    OwnS c K e w' B v' (xs ++ ys) ∧ Below B w w' := by
  refine ⟨?_, (Below.refl B w).grown h2 hB (fun k hk => (h.lt k hk).1)⟩
  unfold OwnS
  rw [flatS_append, List.length_append]
  exact h1
end Go.Proofs.YtappekglflgodaaDoor
