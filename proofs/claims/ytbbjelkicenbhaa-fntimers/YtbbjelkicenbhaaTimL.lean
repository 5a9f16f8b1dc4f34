/- What FnTimers says, of lists alone. -/
import Derived.Test.YtbbjelkicenbhaaTimP0
import Derived.Test.YtbbjelkicenbhaaTimU
import Derived.Test.YtbbjelkicenbhaaTimDr
namespace Go.Proofs.Ytbbjelkicenbhaa
open Go.RowKit Go.PlainAid Go.Sort
set_option linter.unusedVariables false
set_option maxRecDepth 20000

/-- Right timers, as a list. -/
def Gd (L : List (Int × Int)) : Prop := (∀ x ∈ L, okT x) ∧ L.Pairwise ltT ∧ (L.map Prod.snd).Nodup
theorem getD_mem {L : List (Int × Int)} {i : Nat} (hi : i < L.length) : L.getD i (0, 0) ∈ L := by
  rw [List.getD_eq_getElem?_getD, List.getElem?_eq_getElem hi]
  exact List.getElem_mem hi
theorem getD_at {L : List (Int × Int)} {i : Nat} (hi : i < L.length) : L.getD i (0, 0) = L[i] := by
  rw [List.getD_eq_getElem?_getD, List.getElem?_eq_getElem hi]
  rfl
theorem Gd.good {L : List (Int × Int)} (h : Gd L) : goodTo L L.length := by
  intro i hi
  refine ⟨h.1 _ (getD_mem hi), fun h0 => ?_, fun j hj e => ?_⟩
  · rw [getD_at hi, getD_at (by omega)]
    exact (List.pairwise_iff_getElem.1 h.2.1) (i - 1) i (by omega) hi (by omega)
  · have hn := h.2.2
    rw [List.Nodup, List.pairwise_iff_getElem] at hn
    have := hn j i (by simp; omega) (by simpa using hi) hj
    rw [getD_at hi, getD_at (by omega)] at e
    simp at this
    exact this e
theorem good_Gd {L : List (Int × Int)} (h : goodTo L L.length) : Gd L := by
  refine ⟨fun x hx => ?_, good_pw h, ?_⟩
  · obtain ⟨i, hi, rfl⟩ := List.getElem_of_mem hx
    have := (h i hi).1
    rwa [getD_at hi] at this
  · rw [List.Nodup, List.pairwise_iff_getElem]
    intro i j hi hj hij
    have hj' : j < L.length := by simpa using hj
    have := (h j hj').2.2 i hij
    rw [getD_at hj', getD_at (by omega)] at this
    simpa using this
theorem Gd.tm {L : List (Int × Int)} (h : Gd L) (hl : L.length ≤ 20) : tmB L = true := dec_y ⟨h.good, hl⟩
/-- Sorted with a new one. -/
theorem sortedT_perm (L : List (Int × Int)) : (sortedT L).Perm L := List.mergeSort_perm _ _
theorem sortedT_le (L : List (Int × Int)) : (sortedT L).Pairwise (fun a b => ¬ ltT b a) := by
  have := List.pairwise_mergeSort (le := fun x y => !(ltOf cmpT) y x) (fun a b c h1 h2 => by
      simp only [Bool.not_eq_true'] at *
      exact swoT.ntrans c b a h2 h1) (fun a b => by
      cases h : ltOf cmpT b a
      · simp
      · have : ltOf cmpT a b = false := (ltOf_cmpT_n _ _).2 (not_back ((ltOf_cmpT _ _).1 h))
        simp [this]) L
  exact this.imp (fun h => by
    simp only [Bool.not_eq_true'] at h
    exact (ltOf_cmpT_n _ _).1 h)
theorem Gd.put {L : List (Int × Int)} {t : Int × Int} (h : Gd L) (ht : okT t) (hn : ∀ x ∈ L, x.2 ≠ t.2) : Gd (sortedT (L ++ [t])) := by
  have hp := sortedT_perm (L ++ [t])
  have hnd : ((sortedT (L ++ [t])).map Prod.snd).Nodup := by
    refine (hp.map Prod.snd).nodup_iff.2 ?_
    rw [List.map_append, List.nodup_append]
    refine ⟨h.2.2, by simp, ?_⟩
    intro a ha b hb
    obtain ⟨x, hx, rfl⟩ := List.mem_map.1 ha
    simp at hb
    subst hb
    exact hn x hx
  refine ⟨fun x hx => ?_, ?_, hnd⟩
  · have := hp.mem_iff.1 hx
    rw [List.mem_append, List.mem_singleton] at this
    rcases this with h' | rfl
    · exact h.1 x h'
    · exact ht
  · have h1 := sortedT_le (L ++ [t])
    have h2 : (sortedT (L ++ [t])).Pairwise (fun a b => a.2 ≠ b.2) := by
      rw [List.Nodup, List.pairwise_map] at hnd
      exact hnd
    exact (h1.and h2).imp (fun hh => ltT_of hh.1 hh.2)
/-- Without an Id. -/
theorem wo_filter (L : List (Int × Int)) (id : Int) : wo L id L.length = L.filter (fun p => p.2 != id) := by
  unfold wo; rw [List.take_of_length_le (Nat.le_refl _)]
theorem wo_none {L : List (Int × Int)} {id : Int} (h : ∀ x ∈ L, x.2 ≠ id) : wo L id L.length = L := by
  rw [wo_filter]
  exact List.filter_eq_self.2 (fun x hx => by simpa using h x hx)
theorem Gd.wo {L : List (Int × Int)} (h : Gd L) (id : Int) : Gd (wo L id L.length) := by
  rw [wo_filter]
  refine ⟨fun x hx => h.1 x (List.mem_filter.1 hx).1, h.2.1.filter _, ?_⟩
  have h2 := h.2.2
  rw [List.Nodup, List.pairwise_map] at h2 ⊢
  exact h2.filter _
theorem wo_ids {L : List (Int × Int)} {id : Int} : ∀ x ∈ Go.Proofs.Ytbbjelkicenbhaa.wo L id L.length, x.2 ≠ id ∧ x ∈ L := by
  intro x hx
  rw [wo_filter, List.mem_filter] at hx
  exact ⟨by simpa using hx.2, hx.1⟩
/-- What was put in taken out again. -/
theorem put_wo {L : List (Int × Int)} {t : Int × Int} (h : Gd L) (ht : okT t) (hn : ∀ x ∈ L, x.2 ≠ t.2) : Go.Proofs.Ytbbjelkicenbhaa.wo (sortedT (L ++ [t])) t.2 (sortedT (L ++ [t])).length = L := by
  have hg := h.put ht hn
  refine List.Perm.eq_of_pairwise (le := ltT) (fun a b _ _ h1 h2 => absurd h2 (not_back h1)) (hg.wo t.2).2.1 h.2.1 ?_
  rw [wo_filter]
  have hp := (sortedT_perm (L ++ [t])).filter (fun p => p.2 != t.2)
  refine hp.trans ?_
  rw [List.filter_append]
  have e1 : L.filter (fun p => p.2 != t.2) = L := List.filter_eq_self.2 (fun x hx => by simpa using hn x hx)
  rw [e1]
  simp
/-- How often an Id is due. -/
theorem ids_count (L : List (Int × Int)) (t : Int × Int) (now : Int) (hn : ∀ x ∈ L, x.2 ≠ t.2) : (idsTo (sortedT (L ++ [t])) now (sortedT (L ++ [t])).length).count t.2 = if t.1 ≤ now then 1 else 0 := by
  unfold idsTo
  rw [List.take_of_length_le (Nat.le_refl _)]
  have hp := (((sortedT_perm (L ++ [t])).filter (due now)).map Prod.snd).count_eq t.2
  rw [hp, List.filter_append, List.map_append, List.count_append]
  have e1 : ((L.filter (due now)).map Prod.snd).count t.2 = 0 := by
    rw [List.count_eq_zero]
    intro hm
    obtain ⟨x, hx, e⟩ := List.mem_map.1 hm
    exact hn x (List.mem_filter.1 hx).1 e
  rw [e1]
  by_cases h : t.1 ≤ now
  · have e : due now t = true := decide_eq_true h
    rw [if_pos h, List.filter_cons, e]
    simp
  · have e : due now t = false := decide_eq_false h
    rw [if_neg h, List.filter_cons, e]
    simp
theorem part_len (L : List (Int × Int)) (now : Int) : (leftTo L now L.length).length + (idsTo L now L.length).length = L.length := by
  unfold leftTo idsTo
  rw [List.take_of_length_le (Nat.le_refl _), List.length_map]
  induction L with
  | nil => rfl
  | cons x L ih =>
    rw [List.filter_cons, List.filter_cons]
    cases due now x <;> simp at ih ⊢ <;> omega
end Go.Proofs.Ytbbjelkicenbhaa
