/- A timer put into its place among right ones is what sorting them with it gives. -/
import Derived.Test.YtbbjelkicenbhaaSortT
import Derived.Test.YtbbjelkicenbhaaTimD
namespace Go.Proofs.Ytbbjelkicenbhaa
open Go.RowKit Go.PlainAid Go.Sort
set_option linter.unusedVariables false
set_option maxRecDepth 20000

theorem ltT_trans {x y z : Int × Int} (h1 : ltT x y) (h2 : ltT y z) : ltT x z := by unfold ltT at *; omega
theorem good_lt {zs : List (Int × Int)} {n : Nat} (h : goodTo zs n) : ∀ d i, i + (d + 1) < n → ltT (zs.getD i (0, 0)) (zs.getD (i + (d + 1)) (0, 0))
  | 0, i, hi => by
    have := (h (i + 1) hi).2.1 (by omega)
    rwa [show i + 1 - 1 = i by omega] at this
  | d + 1, i, hi => by
    have h1 := good_lt h d i (by omega)
    have h2 := (h (i + (d + 1 + 1)) hi).2.1 (by omega)
    rw [show i + (d + 1 + 1) - 1 = i + (d + 1) by omega] at h2
    exact ltT_trans h1 h2
theorem good_pw {zs : List (Int × Int)} (h : goodTo zs zs.length) : zs.Pairwise ltT := by
  rw [List.pairwise_iff_getElem]
  intro i j hi hj hij
  have := good_lt h (j - i - 1) i (by omega)
  rw [show i + (j - i - 1 + 1) = j by omega] at this
  rwa [List.getD_eq_getElem?_getD, List.getD_eq_getElem?_getD, List.getElem?_eq_getElem hi, List.getElem?_eq_getElem hj] at this
theorem wo_pw {zs : List (Int × Int)} (h : goodTo zs zs.length) (id : Int) : (wo zs id zs.length).Pairwise ltT := by
  unfold wo
  rw [List.take_of_length_le (Nat.le_refl _)]
  exact (good_pw h).filter _
theorem wo_full {zs : List (Int × Int)} {id : Int} (h : (wo zs id zs.length).length = zs.length) : wo zs id zs.length = zs := by
  unfold wo at *
  rw [List.take_of_length_le (Nat.le_refl _)] at *
  exact List.filter_eq_self.2 (List.length_filter_eq_length_iff.1 h)

/-- A timer put in at its place. -/
theorem ins_sorted {R : List (Int × Int)} {t : Int × Int} {k : Nat} (hR : R.Pairwise ltT) (h1 : ∀ x ∈ R.take k, ltT x t) (h2 : ∀ x ∈ R.drop k, ¬ ltT x t) : R.take k ++ [t] ++ R.drop k = sortedT (R ++ [t]) := by
  have hsplit : R.take k ++ R.drop k = R := List.take_append_drop k R
  have hpw : (R.take k ++ R.drop k).Pairwise ltT := by rw [hsplit]; exact hR
  rw [List.pairwise_append] at hpw
  apply List.Perm.eq_of_pairwise (le := fun a b => (!(ltOf cmpT) b a) = true)
  · intro a b _ _ ha hb
    simp only [Bool.not_eq_true'] at ha hb
    exact oneT a b hb ha
  · have nb : ∀ {a b : Int × Int}, ¬ ltT b a → (!(ltOf cmpT) b a) = true := fun h => by rw [Bool.not_eq_true']; exact (ltOf_cmpT_n _ _).2 h
    rw [List.append_assoc, List.pairwise_append]
    refine ⟨hpw.1.imp (fun h => nb (not_back h)), ?_, ?_⟩
    · rw [List.singleton_append, List.pairwise_cons]
      exact ⟨fun b hb => nb (h2 b hb), hpw.2.1.imp (fun h => nb (not_back h))⟩
    · intro a ha b hb
      rw [List.singleton_append, List.mem_cons] at hb
      rcases hb with rfl | hb
      · exact nb (not_back (h1 a ha))
      · exact nb (not_back (hpw.2.2 a ha b hb))
  · unfold sortedT
    exact List.pairwise_mergeSort (fun a b c h1 h2 => by
      simp only [Bool.not_eq_true'] at *
      exact swoT.ntrans c b a h2 h1) (fun a b => by
      cases h : ltOf cmpT b a
      · simp
      · have : ltOf cmpT a b = false := (ltOf_cmpT_n _ _).2 (not_back ((ltOf_cmpT _ _).1 h))
        simp [this]) _
  · refine List.Perm.trans ?_ (List.mergeSort_perm _ _).symm
    rw [List.append_assoc]
    have p1 : (R.take k ++ ([t] ++ R.drop k)).Perm (R.take k ++ (R.drop k ++ [t])) := List.Perm.append_left _ List.perm_append_comm
    have e : R.take k ++ (R.drop k ++ [t]) = R ++ [t] := by rw [← List.append_assoc, hsplit]
    rw [e] at p1
    exact p1

/-- One timer alone is right just if its numbers are. -/
theorem tmB_one (t : Int × Int) : tmB [t] = dec (okT t) := by
  unfold tmB dec
  apply decide_eq_decide.2
  constructor
  · rintro ⟨h, _⟩; exact (h 0 (by simp)).1
  · intro h
    refine ⟨fun i hi => ?_, by simp⟩
    have : i = 0 := by simpa using hi
    subst this
    exact ⟨h, fun h0 => absurd h0 (by omega), fun j hj => absurd hj (by omega)⟩

/-- What TimerPut answers. -/
noncomputable def tpC (zs : List (Int × Int)) (t : Int × Int) : Int := if 4096 < zs.length then 2 else if tmB zs = false then 1 else if dec (okT t) = false then 1 else if (wo zs t.2 zs.length).length = 20 then 7 else 0
noncomputable def tpL (zs : List (Int × Int)) (t : Int × Int) : List (Int × Int) := if 4096 < zs.length then [] else if tmB zs = false then [] else if dec (okT t) = false then [] else if (wo zs t.2 zs.length).length = 20 then wo zs t.2 zs.length else sortedT (wo zs t.2 zs.length ++ [t])
end Go.Proofs.Ytbbjelkicenbhaa
