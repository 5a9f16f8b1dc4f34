/- Lists that rise, sets by a map, sessions apart: pure facts. Nothing of the program is imported. -/
import Derived.Test.YtmeejholckelgaaGreatGuV
import Derived.Maps.Own
import Derived.Maps.OwnSet
import Derived.Maps.Views
namespace Go.Proofs.YtmeejholckelgaaGreat
open Go.RowKit Go.PlainAid Go.Maps
set_option linter.unusedVariables false

/-- The element at k is right, and rises above the one ahead of it. -/
def risAt {α : Type} (f : α → Bool) (lt : α → α → Bool) (xs : List α) (k : Nat) : Bool := match xs[k]? with
  | some x => f x && (decide (k = 0) || (match xs[k - 1]? with | some y => lt y x | none => false))
  | none => true
def risB {α : Type} (f : α → Bool) (lt : α → α → Bool) (xs : List α) : Bool := (List.range xs.length).all (risAt f lt xs)
section Ris
variable {α : Type} {f : α → Bool} {lt : α → α → Bool} {xs : List α}
theorem risAt_zero {x : α} (h : xs[0]? = some x) : risAt f lt xs 0 = f x := by
  unfold risAt
  rw [h]
  simp
theorem risAt_succ {j : Nat} {x y : α} (h : xs[j + 1]? = some x) (h' : xs[j]? = some y) : risAt f lt xs (j + 1) = (f x && lt y x) := by
  unfold risAt
  rw [h]
  simp [h']
theorem ris_step {g : Nat → Bool} {k : Nat} (h : (List.range k).all g = true) (hf : g k = true) : (List.range (k + 1)).all g = true := by
  rw [List.range_succ, List.all_append, h]
  simp [hf]
theorem ris_no {g : Nat → Bool} {n k : Nat} (hk : k < n) (hf : g k = false) : (List.range n).all g = false := by
  rw [List.all_eq_false]
  exact ⟨k, by simpa using hk, by simp [hf]⟩
theorem ris_end {k : Nat} (hk : xs.length = k) (h : (List.range k).all (risAt f lt xs) = true) : risB f lt xs = true := by
  unfold risB
  rw [hk]
  exact h
theorem risB_iff : risB f lt xs = true ↔ (∀ (i : Nat) (x : α), xs[i]? = some x → f x = true) ∧ ∀ (j : Nat) (x y : α), xs[j + 1]? = some x → xs[j]? = some y → lt y x = true := by
  unfold risB
  rw [List.all_eq_true]
  constructor
  · intro h
    refine ⟨fun i x hx => ?_, fun j x y hx hy => ?_⟩
    · have hi := (List.getElem?_eq_some_iff.1 hx).1
      have := h i (by simpa using hi)
      unfold risAt at this
      rw [hx] at this
      simp at this
      exact this.1
    · have hi := (List.getElem?_eq_some_iff.1 hx).1
      have := h (j + 1) (by simpa using hi)
      rw [risAt_succ hx hy] at this
      simp at this
      exact this.2
  · rintro ⟨h1, h2⟩ i hi
    have hi : i < xs.length := by simpa using hi
    obtain ⟨x, hx⟩ : ∃ x, xs[i]? = some x := ⟨_, List.getElem?_eq_getElem hi⟩
    match i, hx with
    | 0, hx => rw [risAt_zero hx]; exact h1 0 x hx
    | j + 1, hx =>
      obtain ⟨y, hy⟩ : ∃ y, xs[j]? = some y := ⟨_, List.getElem?_eq_getElem (by omega)⟩
      rw [risAt_succ hx hy, h1 _ x hx, h2 j x y hx hy]
      rfl
end Ris

/-- Different numbers. -/
def dstB (l : List Int) : Bool := decide l.Nodup
section Mp
variable {H : Type}
def setI (l : List Int) : DataW H := l.foldl (fun m n => m.put (.int .i64 n) (.agg [])) (.map [])
theorem setI_snoc (l : List Int) (n : Int) : setI (H := H) (l ++ [n]) = (setI l).put (.int .i64 n) (.agg []) := by simp [setI, List.foldl_append]
theorem litI_ne {a b : Int} (h : a ≠ b) : (Lit.int .i64 a : Lit) ≠ .int .i64 b := fun e => h (by injection e)
theorem snoc_ind {α : Type} {P : List α → Prop} (h0 : P []) (h1 : ∀ l x, P l → P (l ++ [x])) : ∀ l : List α, P l := by
  have : ∀ n, ∀ l : List α, l.length = n → P l := by
    intro n
    induction n with
    | zero => intro l hl; rw [List.eq_nil_of_length_eq_zero hl]; exact h0
    | succ n ih =>
      intro l hl
      have hne : l ≠ [] := by intro e; rw [e] at hl; simp at hl
      rw [← List.dropLast_concat_getLast hne]
      exact h1 _ _ (ih _ (by simp [hl]))
  exact fun l => this _ l rfl
theorem setI_tidy (l : List Int) : Tidy (setI (H := H) l) := by
  refine snoc_ind (P := fun l => Tidy (setI (H := H) l)) tidy_empty (fun l n ih => ?_) l
  rw [setI_snoc]
  exact ih.put (k := .int .i64 n) trivial _
theorem setI_has (l : List Int) : ∀ n, has (setI (H := H) l) (.int .i64 n) = decide (n ∈ l) := by
  refine snoc_ind (P := fun l => ∀ n, has (setI (H := H) l) (.int .i64 n) = decide (n ∈ l)) (fun n => ?_) (fun l m ih n => ?_) l
  · simp [setI, has_eq]
  · rw [setI_snoc]
    by_cases h : n = m
    · subst h
      rw [has_put_same (k := .int .i64 n) (setI_tidy l).isMap trivial]
      simp
    · rw [has_put_other (litI_ne h), ih n]
      simp [h]
theorem setI_size (l : List Int) : size (setI (H := H) l) ≤ l.length ∧ (l.Nodup → size (setI (H := H) l) = l.length) ∧ (¬ l.Nodup → size (setI (H := H) l) < l.length) := by
  refine snoc_ind (P := fun l => size (setI (H := H) l) ≤ l.length ∧ (l.Nodup → size (setI (H := H) l) = l.length) ∧ (¬ l.Nodup → size (setI (H := H) l) < l.length)) ?_ (fun l n ih => ?_) l
  · simp [setI, size_eq]
  · rw [setI_snoc, size_put (setI_tidy l), setI_has]
    obtain ⟨h1, h2, h3⟩ := ih
    have hnd : (l ++ [n]).Nodup ↔ l.Nodup ∧ n ∉ l := by
      rw [List.nodup_append]
      simp
      intro _
      constructor
      · intro h hn; exact h n hn rfl
      · intro h a ha e; subst e; exact h ha
    by_cases hn : n ∈ l
    · simp only [hn, decide_true, if_true, List.length_append, List.length_singleton]
      refine ⟨by omega, fun h => absurd hn (hnd.1 h).2, fun _ => by omega⟩
    · simp only [hn, decide_false, Bool.false_eq_true, if_false, List.length_append, List.length_singleton]
      refine ⟨by omega, fun h => ?_, fun h => ?_⟩
      · have := h2 (hnd.1 h).1; omega
      · have := h3 (fun h' => h (hnd.2 ⟨h', hn⟩)); omega
theorem setI_lt (l : List Int) : decide (size (setI (H := H) l) < l.length) = !dstB l := by
  obtain ⟨h1, h2, h3⟩ := setI_size (H := H) l
  unfold dstB
  by_cases h : l.Nodup
  · have := h2 h
    simp [h, this]
  · have := h3 h
    simp [h, this]
end Mp
/-- Two sessions side by side; all of them. -/
def prS (y x : SessV) : Bool := decide (y.id < x.id) && (!decide (y.us = x.us) && (!(y.mc.toList == x.mc.toList) && !decide (y.ip = x.ip)))
def seAt (f : SessV → Bool) (ss : List SessV) (k : Nat) : Bool := match ss[k]? with
  | some x => f x && (ss.take k).all (fun y => prS y x)
  | none => true
def seB (f : SessV → Bool) (ss : List SessV) : Bool := (List.range ss.length).all (seAt f ss)
def ltId (y x : SessV) : Bool := decide (y.id < x.id)
theorem seB_iff {f : SessV → Bool} {ss : List SessV} : seB f ss = true ↔ (∀ (i : Nat) (x : SessV), ss[i]? = some x → f x = true) ∧ ∀ (i k : Nat) (x y : SessV), ss[i]? = some x → ss[k]? = some y → k < i → prS y x = true := by
  unfold seB
  rw [List.all_eq_true]
  constructor
  · intro h
    refine ⟨fun i x hx => ?_, fun i k x y hx hy hki => ?_⟩
    · have hi := (List.getElem?_eq_some_iff.1 hx).1
      have := h i (by simpa using hi)
      unfold seAt at this
      rw [hx] at this
      simp only [Bool.and_eq_true] at this
      exact this.1
    · have hi := (List.getElem?_eq_some_iff.1 hx).1
      have := h i (by simpa using hi)
      unfold seAt at this
      rw [hx] at this
      simp only [Bool.and_eq_true, List.all_eq_true] at this
      refine this.2 y ?_
      rw [List.mem_iff_getElem?]
      exact ⟨k, by rw [List.getElem?_take, if_pos hki]; exact hy⟩
  · rintro ⟨h1, h2⟩ i hi
    have hi : i < ss.length := by simpa using hi
    obtain ⟨x, hx⟩ : ∃ x, ss[i]? = some x := ⟨_, List.getElem?_eq_getElem hi⟩
    unfold seAt
    rw [hx]
    simp only [Bool.and_eq_true, List.all_eq_true]
    refine ⟨h1 i x hx, fun y hy => ?_⟩
    rw [List.mem_iff_getElem?] at hy
    obtain ⟨k, hk⟩ := hy
    rw [List.getElem?_take] at hk
    split at hk
    · exact h2 i k x y hx hk (by assumption)
    · cases hk
theorem nodup_at {l : List Int} : l.Nodup ↔ ∀ (i k : Nat) (x y : Int), l[i]? = some x → l[k]? = some y → k < i → y ≠ x := by
  rw [List.nodup_iff_pairwise_ne, List.pairwise_iff_getElem]
  constructor
  · intro h i k x y hx hy hki
    obtain ⟨hi, rfl⟩ := List.getElem?_eq_some_iff.1 hx
    obtain ⟨hk, rfl⟩ := List.getElem?_eq_some_iff.1 hy
    exact h k i hk hi hki
  · intro h i j hi hj hij
    exact h j i _ _ (List.getElem?_eq_getElem hj) (List.getElem?_eq_getElem hi) hij
/-- By their neighbours and by sets. -/
theorem se_apart (f : SessV → Bool) (mn : SessV → Int) (ss : List SessV) (hm : ∀ x y, f x = true → f y = true → (mn x = mn y ↔ x.mc.toList = y.mc.toList)) :
    (risB f ltId ss && (dstB (ss.map (·.us)) && (dstB (ss.map mn) && dstB (ss.map (·.ip))))) = seB f ss := by
  rw [Bool.eq_iff_iff]
  simp only [Bool.and_eq_true]
  rw [risB_iff, seB_iff]
  unfold dstB
  simp only [decide_eq_true_eq]
  rw [nodup_at, nodup_at, nodup_at]
  constructor
  · rintro ⟨⟨h1, h2⟩, h3, h4, h5⟩
    have up : ∀ (d k : Nat) (x y : SessV), ss[k + d + 1]? = some x → ss[k]? = some y → y.id < x.id := by
      intro d
      induction d with
      | zero =>
        intro k x y hx hy
        have := h2 k x y hx hy
        unfold ltId at this
        simpa using this
      | succ d ih =>
        intro k x y hx hy
        obtain ⟨z, hz⟩ : ∃ z, ss[k + d + 1]? = some z := ⟨_, List.getElem?_eq_getElem (by have := (List.getElem?_eq_some_iff.1 hx).1; omega)⟩
        have a := ih k z y hz hy
        have b := h2 (k + d + 1) x z (by rw [← hx]; congr 1) hz
        unfold ltId at b
        simp at b
        omega
    refine ⟨h1, fun i k x y hx hy hki => ?_⟩
    have e1 := up (i - k - 1) k x y (by rw [← hx]; congr 1; omega) hy
    have e2 := h3 i k x.us y.us (by rw [List.getElem?_map, hx]; rfl) (by rw [List.getElem?_map, hy]; rfl) hki
    have e3 := h4 i k (mn x) (mn y) (by rw [List.getElem?_map, hx]; rfl) (by rw [List.getElem?_map, hy]; rfl) hki
    have e4 := h5 i k x.ip y.ip (by rw [List.getElem?_map, hx]; rfl) (by rw [List.getElem?_map, hy]; rfl) hki
    have e5 : y.mc.toList ≠ x.mc.toList := fun e => e3 ((hm y x (h1 k y hy) (h1 i x hx)).2 e)
    unfold prS
    simp [e1, e2, e4, e5]
  · rintro ⟨h1, h2⟩
    have pr : ∀ (i k : Nat) (x y : SessV), ss[i]? = some x → ss[k]? = some y → k < i → y.id < x.id ∧ y.us ≠ x.us ∧ y.mc.toList ≠ x.mc.toList ∧ y.ip ≠ x.ip := by
      intro i k x y hx hy hki
      have := h2 i k x y hx hy hki
      unfold prS at this
      simp at this
      exact this
    have mp : ∀ (g : SessV → Int) (i : Nat) (a : Int), (ss.map g)[i]? = some a → ∃ x, ss[i]? = some x ∧ g x = a := by
      intro g i a h
      rw [List.getElem?_map] at h
      cases hx : ss[i]? with
      | none => rw [hx] at h; cases h
      | some x => rw [hx] at h; exact ⟨x, rfl, by simpa using h⟩
    refine ⟨⟨h1, fun j x y hx hy => ?_⟩, fun i k a b ha hb hki => ?_, fun i k a b ha hb hki => ?_, fun i k a b ha hb hki => ?_⟩
    · have := (pr (j + 1) j x y hx hy (by omega)).1
      unfold ltId
      simpa using this
    · obtain ⟨x, hx, rfl⟩ := mp _ i a ha
      obtain ⟨y, hy, rfl⟩ := mp _ k b hb
      exact (pr i k x y hx hy hki).2.1
    · obtain ⟨x, hx, rfl⟩ := mp _ i a ha
      obtain ⟨y, hy, rfl⟩ := mp _ k b hb
      exact fun e => (pr i k x y hx hy hki).2.2.1 ((hm y x (h1 k y hy) (h1 i x hx)).1 e)
    · obtain ⟨x, hx, rfl⟩ := mp _ i a ha
      obtain ⟨y, hy, rfl⟩ := mp _ k b hb
      exact (pr i k x y hx hy hki).2.2.2
end Go.Proofs.YtmeejholckelgaaGreat
