/- Sorting that keeps the order of alike ones, of index functions and lists alone: the same values of each key in the same order, blocks exchanged, halves merged. Nothing of the program is imported. -/
import Derived.WalkKit
namespace Go.Proofs.Ytfcdobicilediaa.Fo
set_option linter.unusedVariables false

def seg {α : Type} (f : Nat → α) (a b : Nat) : List α := (List.range' a (b - a)).map f
theorem seg_append {α : Type} (f : Nat → α) {a m b : Nat} (h1 : a ≤ m) (h2 : m ≤ b) : seg f a b = seg f a m ++ seg f m b := by
  unfold seg
  rw [← List.map_append]
  congr 1
  have e : m = a + (m - a) := by omega
  have : List.range' a (m - a) ++ List.range' m (b - m) = List.range' a (m - a + (b - m)) := by
    conv => lhs; rw [show List.range' m (b - m) = List.range' (a + (m - a)) (b - m) by rw [← e]]
    rw [List.range'_append_1]
  rw [this]
  congr 1
  omega
theorem seg_congr {α : Type} {f g : Nat → α} {a b : Nat} (h : ∀ x, a ≤ x → x < b → f x = g x) : seg f a b = seg g a b := by
  unfold seg
  apply List.map_congr_left
  intro x hx
  rw [List.mem_range'_1] at hx
  exact h x hx.1 (by omega)
theorem seg_shift {α : Type} {f g : Nat → α} {a b c d : Nat} (hl : b - a = d - c) (h : ∀ i, i < b - a → f (a + i) = g (c + i)) : seg f a b = seg g c d := by
  unfold seg
  apply List.ext_getElem?
  intro i
  by_cases hi : i < b - a
  · rw [List.getElem?_map, List.getElem?_map, List.getElem?_eq_getElem (by simpa using hi), List.getElem?_eq_getElem (by simp; omega)]
    simp [h i hi]
  · rw [List.getElem?_eq_none (by simp; omega), List.getElem?_eq_none (by simp; omega)]
theorem mem_seg {α : Type} {f : Nat → α} {a b : Nat} {x : α} : x ∈ seg f a b ↔ ∃ i, a ≤ i ∧ i < b ∧ f i = x := by
  unfold seg
  simp only [List.mem_map, List.mem_range'_1]
  constructor
  · rintro ⟨i, hi, rfl⟩; exact ⟨i, hi.1, by omega, rfl⟩
  · rintro ⟨i, h1, h2, rfl⟩; exact ⟨i, ⟨h1, by omega⟩, rfl⟩
theorem seg_len {α : Type} (f : Nat → α) (a b : Nat) : (seg f a b).length = b - a := by unfold seg; simp
theorem seg_none {α : Type} (f : Nat → α) {a b : Nat} (h : b ≤ a) : seg f a b = [] := by unfold seg; rw [show b - a = 0 by omega]; rfl

/-- The same values, and those of one key in the same order. -/
def St {α : Type} (K : α → Int) (R l : List α) : Prop := ∀ k, R.filter (fun x => K x == k) = l.filter (fun x => K x == k)
theorem St.rfl' {α : Type} (K : α → Int) (l : List α) : St K l l := fun _ => rfl
theorem St.symm {α : Type} {K : α → Int} {R l : List α} (h : St K R l) : St K l R := fun k => (h k).symm
theorem St.trans {α : Type} {K : α → Int} {R S l : List α} (h : St K R S) (h2 : St K S l) : St K R l := fun k => (h k).trans (h2 k)
theorem St.append {α : Type} {K : α → Int} {R l S m : List α} (h : St K R l) (h2 : St K S m) : St K (R ++ S) (l ++ m) := fun k => by
  rw [List.filter_append, List.filter_append, h k, h2 k]
theorem St.mem {α : Type} {K : α → Int} {R l : List α} (h : St K R l) (x : α) : x ∈ R ↔ x ∈ l := by
  have e := h (K x)
  have m1 : x ∈ R ↔ x ∈ R.filter (fun y => K y == K x) := by simp
  have m2 : x ∈ l ↔ x ∈ l.filter (fun y => K y == K x) := by simp
  rw [m1, m2, e]
theorem st_turn {α : Type} {K : α → Int} {U V : List α} (h : ∀ u ∈ U, ∀ v ∈ V, K v < K u) : St K (V ++ U) (U ++ V) := fun k => by
  rw [List.filter_append, List.filter_append]
  by_cases hu : ∃ u ∈ U, K u = k
  · obtain ⟨u, hu, rfl⟩ := hu
    have : V.filter (fun x => K x == K u) = [] := by
      rw [List.filter_eq_nil_iff]
      intro v hv hk
      have := h u hu v hv
      have : K v = K u := by simpa using hk
      omega
    rw [this]; simp
  · have : U.filter (fun x => K x == k) = [] := by
      rw [List.filter_eq_nil_iff]
      intro u hu' hk
      exact hu ⟨u, hu', by simpa using hk⟩
    rw [this]; simp
theorem st_unique {α : Type} {K : α → Int} : ∀ (R S : List α), R.Pairwise (fun x y => K x ≤ K y) → S.Pairwise (fun x y => K x ≤ K y) → St K R S → R = S := by
  intro R
  induction R with
  | nil =>
    intro S _ _ h
    cases S with
    | nil => rfl
    | cons s S => exact absurd ((h.mem s).2 List.mem_cons_self) (by simp)
  | cons r R ih =>
    intro S hR hS h
    cases S with
    | nil => exact absurd ((h.mem r).1 List.mem_cons_self) (by simp)
    | cons s S =>
      rw [List.pairwise_cons] at hR hS
      have h1 : K r ≤ K s := by
        rcases List.mem_cons.1 ((h.mem s).2 List.mem_cons_self) with e | e
        · rw [e]; exact Int.le_refl _
        · exact hR.1 s e
      have h2 : K s ≤ K r := by
        rcases List.mem_cons.1 ((h.mem r).1 List.mem_cons_self) with e | e
        · rw [e]; exact Int.le_refl _
        · exact hS.1 r e
      have hk : K s = K r := by omega
      have e := h (K r)
      rw [List.filter_cons_of_pos (by simp), List.filter_cons_of_pos (by simp [hk])] at e
      have e1 : r = s := (List.cons.inj e).1
      subst e1
      congr 1
      apply ih S hR.2 hS.2
      intro k
      have e := h k
      by_cases hk : K r = k
      · rw [List.filter_cons_of_pos (by simp [hk]), List.filter_cons_of_pos (by simp [hk])] at e
        exact (List.cons.inj e).2
      · rw [List.filter_cons_of_neg (by simp [hk]), List.filter_cons_of_neg (by simp [hk])] at e
        exact e

/-- Blocks exchanged: from a on those of [m, b), then those of [a, m). -/
def rotF {α : Type} (f : Nat → α) (a m b x : Nat) : α := if a ≤ x ∧ x < a + (b - m) then f (x + (m - a)) else if a + (b - m) ≤ x ∧ x < b then f (x - (b - m)) else f x
/-- n values from a on exchanged with those from b on. -/
def swF {α : Type} (f : Nat → α) (a b n x : Nat) : α := if a ≤ x ∧ x < a + n then f (x + (b - a)) else if b ≤ x ∧ x < b + n then f (x - (b - a)) else f x

theorem rot_more {α : Type} (f : Nat → α) {m i j : Nat} (hi : i ≤ m) (hij : j < i) : rotF (swF f (m - i) m j) (m - (i - j)) m (m + j) = rotF f (m - i) m (m + j) := by
  funext x
  unfold rotF swF
  (repeat' split) <;> first | (exfalso; omega) | rfl | (congr 1; omega)
theorem rot_less {α : Type} (f : Nat → α) {m i j : Nat} (hi : i ≤ m) (hij : i < j) : rotF (swF f (m - i) (m + j - i) i) (m - i) m (m + (j - i)) = rotF f (m - i) m (m + j) := by
  funext x
  unfold rotF swF
  (repeat' split) <;> first | (exfalso; omega) | rfl | (congr 1; omega)
theorem rot_even {α : Type} (f : Nat → α) {m i : Nat} (hi : i ≤ m) : swF f (m - i) m i = rotF f (m - i) m (m + i) := by
  funext x
  unfold rotF swF
  (repeat' split) <;> first | (exfalso; omega) | rfl | (congr 1; omega)
theorem rot_none {α : Type} (f : Nat → α) (a m b : Nat) (h : m ≤ a ∨ b ≤ m) (h2 : a ≤ m) (h3 : m ≤ b) : rotF f a m b = f := by
  funext x
  unfold rotF
  (repeat' split) <;> first | (exfalso; omega) | rfl | (congr 1; omega)

def Rises {α : Type} (K : α → Int) (f : Nat → α) (a b : Nat) : Prop := ∀ x y, a ≤ x → x < y → y < b → K (f x) ≤ K (f y)

theorem rot_segs {α : Type} (f : Nat → α) {a s m e b : Nat} (h1 : a ≤ s) (h2 : s ≤ m) (h3 : m ≤ e) (h4 : e ≤ b) :
    seg (rotF f s m e) a b = (seg f a s ++ seg f m e) ++ (seg f s m ++ seg f e b) := by
  rw [seg_append _ h1 (by omega : s ≤ b), seg_append _ (show s ≤ s + (e - m) by omega) (show s + (e - m) ≤ b by omega), seg_append _ (show s + (e - m) ≤ e by omega) h4, List.append_assoc]
  congr 1
  · exact seg_congr fun x h1 h2 => by unfold rotF; (repeat' split) <;> first | rfl | (exfalso; omega)
  congr 1
  · refine seg_shift (by omega) fun i hi => ?_
    unfold rotF; (repeat' split) <;> first | (exfalso; omega) | (congr 1; omega)
  congr 1
  · refine seg_shift (by omega) fun i hi => ?_
    unfold rotF; (repeat' split) <;> first | (exfalso; omega) | (congr 1; omega)
  · exact seg_congr fun x h1 h2 => by unfold rotF; (repeat' split) <;> first | rfl | (exfalso; omega)
theorem rot_st {α : Type} {K : α → Int} (f : Nat → α) {a s m e b : Nat} (h1 : a ≤ s) (h2 : s ≤ m) (h3 : m ≤ e) (h4 : e ≤ b) (hc : ∀ u v, s ≤ u → u < m → m ≤ v → v < e → K (f v) < K (f u)) :
    St K (seg (rotF f s m e) a b) (seg f a b) := by
  rw [rot_segs f h1 h2 h3 h4, seg_append f h1 (show s ≤ b by omega), seg_append f (show s ≤ e by omega) h4, seg_append f h2 h3]
  rw [List.append_assoc]
  refine (St.rfl' K _).append ?_
  rw [← List.append_assoc]
  refine St.append ?_ (St.rfl' K _)
  apply st_turn
  intro u hu v hv
  obtain ⟨i, i1, i2, rfl⟩ := mem_seg.1 hu
  obtain ⟨j, j1, j2, rfl⟩ := mem_seg.1 hv
  exact hc i j i1 i2 j1 j2

theorem rises_iff {α : Type} {K : α → Int} (f : Nat → α) (a b : Nat) : Rises K f a b ↔ (seg f a b).Pairwise (fun x y => K x ≤ K y) := by
  unfold seg Rises
  rw [List.pairwise_map, List.pairwise_iff_getElem]
  constructor
  · intro h i j hi hj hij
    simp only [List.length_range'] at hi hj
    simp only [List.getElem_range', Nat.one_mul]
    exact h _ _ (by omega) (by omega) (by omega)
  · intro h x y h1 h2 h3
    have := h (x - a) (y - a) (by simp; omega) (by simp; omega) (by omega)
    simp only [List.getElem_range', Nat.one_mul] at this
    rw [show a + (x - a) = x by omega, show a + (y - a) = y by omega] at this
    exact this
theorem rises_seg {α : Type} {K : α → Int} {f g : Nat → α} {a b c d : Nat} (h : seg f a b = seg g c d) (hr : Rises K f a b) : Rises K g c d := by
  rw [rises_iff] at *; rw [← h]; exact hr
theorem rises_sub {α : Type} {K : α → Int} {f : Nat → α} {a b c d : Nat} (h1 : a ≤ c) (h2 : d ≤ b) (h : Rises K f a b) : Rises K f c d := fun x y hx hxy hy => h x y (by omega) hxy (by omega)

/-- What a merge gives. -/
structure Merged {α : Type} (K : α → Int) (f g : Nat → α) (a b : Nat) : Prop where
  out : ∀ x, (x < a ∨ b ≤ x) → g x = f x
  st : St K (seg g a b) (seg f a b)
  up : Rises K g a b

/-- Two halves merged by themselves, where nothing of the second is below the first. -/
theorem merged_two {α : Type} {K : α → Int} {f g h : Nat → α} {a mid b : Nat} (ha : a ≤ mid) (hb : mid ≤ b) (hle : ∀ x y, a ≤ x → x < mid → mid ≤ y → y < b → K (f x) ≤ K (f y)) (m1 : Merged K f g a mid) (m2 : Merged K g h mid b) : Merged K f h a b := by
  have e1 : seg h a mid = seg g a mid := seg_congr fun x h1 h2 => m2.out x (Or.inl h2)
  have e2 : seg g mid b = seg f mid b := seg_congr fun x h1 h2 => m1.out x (Or.inr h1)
  refine ⟨fun x hx => ?_, ?_, ?_⟩
  · rw [m2.out x (by omega), m1.out x (by omega)]
  · rw [seg_append h ha hb, seg_append f ha hb, e1]
    refine m1.st.append ?_
    rw [← e2]
    exact m2.st
  · intro x y hx hxy hy
    by_cases hym : y < mid
    · rw [m2.out x (Or.inl (by omega)), m2.out y (Or.inl hym)]
      exact m1.up x y hx hxy hym
    by_cases hxm : mid ≤ x
    · exact m2.up x y hxm hxy hy
    have hx1 : h x ∈ seg f a mid := by
      rw [← m1.st.mem, ← e1]
      exact mem_seg.2 ⟨x, hx, by omega, rfl⟩
    have hy1 : h y ∈ seg f mid b := by
      rw [← e2, ← m2.st.mem]
      exact mem_seg.2 ⟨y, by omega, hy, rfl⟩
    obtain ⟨i, i1, i2, i3⟩ := mem_seg.1 hx1
    obtain ⟨j, j1, j2, j3⟩ := mem_seg.1 hy1
    rw [← i3, ← j3]
    exact hle i j i1 i2 j1 j2

/-- Cut, exchanged, merged by halves. -/
theorem merged_rot {α : Type} {K : α → Int} {f g h : Nat → α} {a s m e b mid : Nat} (h1 : a ≤ s) (h2 : s ≤ m) (h3 : m ≤ e) (h4 : e ≤ b) (hm : mid = s + (e - m))
    (ru : Rises K f a m) (rv : Rises K f m b) (c1 : ∀ u v, a ≤ u → u < s → e ≤ v → v < b → K (f u) ≤ K (f v)) (c2 : ∀ u v, s ≤ u → u < m → m ≤ v → v < e → K (f v) < K (f u))
    (m1 : Merged K (rotF f s m e) g a mid) (m2 : Merged K g h mid b) : Merged K f h a b := by
  have hall := merged_two (K := K) (f := rotF f s m e) (g := g) (h := h) (a := a) (mid := mid) (b := b) (by omega) (by omega) (fun x y hx hxm hy hyb => by
    have p1 : rotF f s m e x ∈ seg f a s ++ seg f m e := by
      have e1 : seg (rotF f s m e) a mid = seg f a s ++ seg f m e := by
        have t1 := rot_segs f h1 h2 h3 h4
        rw [seg_append (rotF f s m e) (show a ≤ mid by omega) (show mid ≤ b by omega)] at t1
        exact (List.append_inj t1 (by rw [seg_len, List.length_append, seg_len, seg_len]; omega)).1
      rw [← e1]; exact mem_seg.2 ⟨x, hx, hxm, rfl⟩
    have p2 : rotF f s m e y ∈ seg f s m ++ seg f e b := by
      have e1 : seg (rotF f s m e) mid b = seg f s m ++ seg f e b := by
        have t1 := rot_segs f h1 h2 h3 h4
        rw [seg_append (rotF f s m e) (show a ≤ mid by omega) (show mid ≤ b by omega)] at t1
        exact (List.append_inj t1 (by rw [seg_len, List.length_append, seg_len, seg_len]; omega)).2
      rw [← e1]; exact mem_seg.2 ⟨y, hy, hyb, rfl⟩
    rw [List.mem_append] at p1 p2
    rcases p1 with p1 | p1 <;> rcases p2 with p2 | p2 <;> obtain ⟨i, i1, i2, i3⟩ := mem_seg.1 p1 <;> obtain ⟨j, j1, j2, j3⟩ := mem_seg.1 p2 <;> rw [← i3, ← j3]
    · exact ru i j i1 (by omega) j2
    · exact c1 i j i1 i2 j1 j2
    · have := c2 j i j1 j2 i1 i2; omega
    · exact rv i j i1 (by omega) j2) m1 m2
  refine ⟨fun x hx => ?_, hall.st.trans (rot_st f h1 h2 h3 h4 c2), hall.up⟩
  rw [hall.out x hx]
  unfold rotF; (repeat' split) <;> first | rfl | (exfalso; omega)
/-- The halves that are there to be merged rise. -/
theorem rot_rises {α : Type} {K : α → Int} {f : Nat → α} {a s m e b mid : Nat} (h1 : a ≤ s) (h2 : s ≤ m) (h3 : m ≤ e) (h4 : e ≤ b) (hm : mid = s + (e - m)) (ru : Rises K f a m) (rv : Rises K f m b) :
    Rises K (rotF f s m e) a s ∧ Rises K (rotF f s m e) s mid ∧ Rises K (rotF f s m e) mid e ∧ Rises K (rotF f s m e) e b := by
  refine ⟨?_, ?_, ?_, ?_⟩
  · refine rises_seg (f := f) (a := a) (b := s) (seg_congr fun x h1 h2 => ?_) (rises_sub (Nat.le_refl _) h2 ru)
    unfold rotF; (repeat' split) <;> first | rfl | (exfalso; omega)
  · refine rises_seg (f := f) (a := m) (b := e) (seg_shift (by omega) fun i hi => ?_) (rises_sub (Nat.le_refl _) h4 rv)
    unfold rotF; (repeat' split) <;> first | (exfalso; omega) | (congr 1; omega)
  · refine rises_seg (f := f) (a := s) (b := m) (seg_shift (by omega) fun i hi => ?_) (rises_sub h1 (Nat.le_refl _) ru)
    unfold rotF; (repeat' split) <;> first | (exfalso; omega) | (congr 1; omega)
  · refine rises_seg (f := f) (a := e) (b := b) (seg_congr fun x h1 h2 => ?_) (rises_sub h3 (Nat.le_refl _) rv)
    unfold rotF; (repeat' split) <;> first | rfl | (exfalso; omega)
/-- Nothing is to be merged where one of both has nothing. -/
theorem merged_none {α : Type} {K : α → Int} {f : Nat → α} {a s b : Nat} (h : s ≤ a ∨ b ≤ s) (r1 : Rises K f a s) (r2 : Rises K f s b) : Merged K f f a b := by
  refine ⟨fun _ _ => rfl, St.rfl' K _, ?_⟩
  rcases h with h | h
  · exact rises_sub h (Nat.le_refl _) r2
  · exact rises_sub (Nat.le_refl _) h r1
end Go.Proofs.Ytfcdobicilediaa.Fo
