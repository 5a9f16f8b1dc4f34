/- Lists that rise, sets by a map, sessions apart: pure facts. Nothing of the program is imported. Small tests of the program's chapter of guests: between, causes, bytes, credit, times; short names of the model. Right guests, as pure words. The place of the first one that fits, as pure words. guestsFault of the program and l08Ask of the model. l08Ask, l08Session, l08End of the model. A session of right guests ended, as pure words. Guests copied by the laws into rows of one's own. What the laws do with guests, in packed words. A user of a name, as pure words. Nothing of the program is used. The sum of zip files as plain numbers: eight single steps a byte are two steps of four bits by the table. Nothing of the program is imported. A hash as plain numbers: words of 32 bits, turned, added, mixed; blocks; the text behind which a mark, noughts and its length stand. Nothing of the program is imported. Rows of words in memory. A word of 32 bits turned: the program's turnRight and turnSum, the model's l04Turn. The program's spreadBlock: the words of a block, and those that are made of them. The program's mixBlock: 64 rounds over a state of eight words. The program's mixBlocks: from a state on, block by block. The text that is hashed, with what stands behind it; the hash's text: lists of numbers. A row of bytes, whatever it is, behind a row of one's own. The program's lastBlocks and text. -/
import Derived.Maps.Own
import Derived.Maps.OwnSet
import Derived.Maps.Views
import Derived.Test.YtnlepjcjakghcaaGreatDoorJ9
namespace Go.Proofs.YtnlepjcjakghcaaGreatDoor
open Go.RowKit Go.PlainAid Go.Maps
set_option linter.unusedVariables false

/-- The element at k is right, and rises above the one ahead of it. -/
def risAt {α : Type} (f : α → Bool) (lt : α → α → Bool) (xs : List α) (k : Nat) : Bool := match xs[k]? with
  | some x => f x && (decide (k = 0) || (match xs[k - 1]? with | some y => lt y x | none => false))
  | none => true
def risB {α : Type} (f : α → Bool) (lt : α → α → Bool) (xs : List α) : Bool := (List.range xs.length).all (risAt f lt xs)
section Ris
variable {α : Type} {f : α → Bool} {lt : α → α → Bool} {xs : List α}
theorem risAt_zero {x : α} (h : xs[0]? = some x) : risAt f lt xs 0 = f x := by
  unfold risAt
  rw [h]
  simp
theorem risAt_succ {j : Nat} {x y : α} (h : xs[j + 1]? = some x) (h' : xs[j]? = some y) : risAt f lt xs (j + 1) = (f x && lt y x) := by
  unfold risAt
  rw [h]
  simp [h']
theorem ris_step {g : Nat → Bool} {k : Nat} (h : (List.range k).all g = true) (hf : g k = true) : (List.range (k + 1)).all g = true := by
  rw [List.range_succ, List.all_append, h]
  simp [hf]
theorem ris_no {g : Nat → Bool} {n k : Nat} (hk : k < n) (hf : g k = false) : (List.range n).all g = false := by
  rw [List.all_eq_false]
  exact ⟨k, by simpa using hk, by simp [hf]⟩
theorem ris_end {k : Nat} (hk : xs.length = k) (h : (List.range k).all (risAt f lt xs) = true) : risB f lt xs = true := by
  unfold risB
  rw [hk]
  exact h
theorem risB_iff : risB f lt xs = true ↔ (∀ (i : Nat) (x : α), xs[i]? = some x → f x = true) ∧ ∀ (j : Nat) (x y : α), xs[j + 1]? = some x → xs[j]? = some y → lt y x = true := by
  unfold risB
  rw [List.all_eq_true]
  constructor
  · intro h
    refine ⟨fun i x hx => ?_, fun j x y hx hy => ?_⟩
    · have hi := (List.getElem?_eq_some_iff.1 hx).1
      have := h i (by simpa using hi)
      unfold risAt at this
      rw [hx] at this
      simp at this
      exact this.1
    · have hi := (List.getElem?_eq_some_iff.1 hx).1
      have := h (j + 1) (by simpa using hi)
      rw [risAt_succ hx hy] at this
      simp at this
      exact this.2
  · rintro ⟨h1, h2⟩ i hi
    have hi : i < xs.length := by simpa using hi
    obtain ⟨x, hx⟩ : ∃ x, xs[i]? = some x := ⟨_, List.getElem?_eq_getElem hi⟩
    match i, hx with
    | 0, hx => rw [risAt_zero hx]; exact h1 0 x hx
    | j + 1, hx =>
      obtain ⟨y, hy⟩ : ∃ y, xs[j]? = some y := ⟨_, List.getElem?_eq_getElem (by omega)⟩
      rw [risAt_succ hx hy, h1 _ x hx, h2 j x y hx hy]
      rfl
end Ris

/-- Different numbers. -/
def dstB (l : List Int) : Bool := decide l.Nodup
section Mp
variable {H : Type}
def setI (l : List Int) : DataW H := l.foldl (fun m n => m.put (.int .i64 n) (.agg [])) (.map [])
theorem setI_snoc (l : List Int) (n : Int) : setI (H := H) (l ++ [n]) = (setI l).put (.int .i64 n) (.agg []) := by simp [setI, List.foldl_append]
theorem litI_ne {a b : Int} (h : a ≠ b) : (Lit.int .i64 a : Lit) ≠ .int .i64 b := fun e => h (by injection e)
theorem snoc_ind {α : Type} {P : List α → Prop} (h0 : P []) (h1 : ∀ l x, P l → P (l ++ [x])) : ∀ l : List α, P l := by
  have : ∀ n, ∀ l : List α, l.length = n → P l := by
    intro n
    induction n with
    | zero => intro l hl; rw [List.eq_nil_of_length_eq_zero hl]; exact h0
    | succ n ih =>
      intro l hl
      have hne : l ≠ [] := by intro e; rw [e] at hl; simp at hl
      rw [← List.dropLast_concat_getLast hne]
      exact h1 _ _ (ih _ (by simp [hl]))
  exact fun l => this _ l rfl
theorem setI_tidy (l : List Int) : Tidy (setI (H := H) l) := by
  refine snoc_ind (P := fun l => Tidy (setI (H := H) l)) tidy_empty (fun l n ih => ?_) l
  rw [setI_snoc]
  exact ih.put (k := .int .i64 n) trivial _
theorem setI_has (l : List Int) : ∀ n, has (setI (H := H) l) (.int .i64 n) = decide (n ∈ l) := by
  refine snoc_ind (P := fun l => ∀ n, has (setI (H := H) l) (.int .i64 n) = decide (n ∈ l)) (fun n => ?_) (fun l m ih n => ?_) l
  · simp [setI, has_eq]
  · rw [setI_snoc]
    by_cases h : n = m
    · subst h
      rw [has_put_same (k := .int .i64 n) (setI_tidy l).isMap trivial]
      simp
    · rw [has_put_other (litI_ne h), ih n]
      simp [h]
theorem setI_size (l : List Int) : size (setI (H := H) l) ≤ l.length ∧ (l.Nodup → size (setI (H := H) l) = l.length) ∧ (¬ l.Nodup → size (setI (H := H) l) < l.length) := by
  refine snoc_ind (P := fun l => size (setI (H := H) l) ≤ l.length ∧ (l.Nodup → size (setI (H := H) l) = l.length) ∧ (¬ l.Nodup → size (setI (H := H) l) < l.length)) ?_ (fun l n ih => ?_) l
  · simp [setI, size_eq]
  · rw [setI_snoc, size_put (setI_tidy l), setI_has]
    obtain ⟨h1, h2, h3⟩ := ih
    have hnd : (l ++ [n]).Nodup ↔ l.Nodup ∧ n ∉ l := by
      rw [List.nodup_append]
      simp
      intro _
      constructor
      · intro h hn; exact h n hn rfl
      · intro h a ha e; subst e; exact h ha
    by_cases hn : n ∈ l
    · simp only [hn, decide_true, if_true, List.length_append, List.length_singleton]
      refine ⟨by omega, fun h => absurd hn (hnd.1 h).2, fun _ => by omega⟩
    · simp only [hn, decide_false, Bool.false_eq_true, if_false, List.length_append, List.length_singleton]
      refine ⟨by omega, fun h => ?_, fun h => ?_⟩
      · have := h2 (hnd.1 h).1; omega
      · have := h3 (fun h' => h (hnd.2 ⟨h', hn⟩)); omega
theorem setI_lt (l : List Int) : decide (size (setI (H := H) l) < l.length) = !dstB l := by
  obtain ⟨h1, h2, h3⟩ := setI_size (H := H) l
  unfold dstB
  by_cases h : l.Nodup
  · have := h2 h
    simp [h, this]
  · have := h3 h
    simp [h, this]
end Mp
/-- Two sessions side by side; all of them. -/
def prS (y x : SessV) : Bool := decide (y.id < x.id) && (!decide (y.us = x.us) && (!(y.mc.toList == x.mc.toList) && !decide (y.ip = x.ip)))
def seAt (f : SessV → Bool) (ss : List SessV) (k : Nat) : Bool := match ss[k]? with
  | some x => f x && (ss.take k).all (fun y => prS y x)
  | none => true
def seB (f : SessV → Bool) (ss : List SessV) : Bool := (List.range ss.length).all (seAt f ss)
def ltId (y x : SessV) : Bool := decide (y.id < x.id)
theorem seB_iff {f : SessV → Bool} {ss : List SessV} : seB f ss = true ↔ (∀ (i : Nat) (x : SessV), ss[i]? = some x → f x = true) ∧ ∀ (i k : Nat) (x y : SessV), ss[i]? = some x → ss[k]? = some y → k < i → prS y x = true := by
  unfold seB
  rw [List.all_eq_true]
  constructor
  · intro h
    refine ⟨fun i x hx => ?_, fun i k x y hx hy hki => ?_⟩
    · have hi := (List.getElem?_eq_some_iff.1 hx).1
      have := h i (by simpa using hi)
      unfold seAt at this
      rw [hx] at this
      simp only [Bool.and_eq_true] at this
      exact this.1
    · have hi := (List.getElem?_eq_some_iff.1 hx).1
      have := h i (by simpa using hi)
      unfold seAt at this
      rw [hx] at this
      simp only [Bool.and_eq_true, List.all_eq_true] at this
      refine this.2 y ?_
      rw [List.mem_iff_getElem?]
      exact ⟨k, by rw [List.getElem?_take, if_pos hki]; exact hy⟩
  · rintro ⟨h1, h2⟩ i hi
    have hi : i < ss.length := by simpa using hi
    obtain ⟨x, hx⟩ : ∃ x, ss[i]? = some x := ⟨_, List.getElem?_eq_getElem hi⟩
    unfold seAt
    rw [hx]
    simp only [Bool.and_eq_true, List.all_eq_true]
    refine ⟨h1 i x hx, fun y hy => ?_⟩
    rw [List.mem_iff_getElem?] at hy
    obtain ⟨k, hk⟩ := hy
    rw [List.getElem?_take] at hk
    split at hk
    · exact h2 i k x y hx hk (by assumption)
    · cases hk
theorem nodup_at {l : List Int} : l.Nodup ↔ ∀ (i k : Nat) (x y : Int), l[i]? = some x → l[k]? = some y → k < i → y ≠ x := by
  rw [List.nodup_iff_pairwise_ne, List.pairwise_iff_getElem]
  constructor
  · intro h i k x y hx hy hki
    obtain ⟨hi, rfl⟩ := List.getElem?_eq_some_iff.1 hx
    obtain ⟨hk, rfl⟩ := List.getElem?_eq_some_iff.1 hy
    exact h k i hk hi hki
  · intro h i j hi hj hij
    exact h j i _ _ (List.getElem?_eq_getElem hj) (List.getElem?_eq_getElem hi) hij
/-- By their neighbours and by sets. -/
theorem se_apart (f : SessV → Bool) (mn : SessV → Int) (ss : List SessV) (hm : ∀ x y, f x = true → f y = true → (mn x = mn y ↔ x.mc.toList = y.mc.toList)) :
    (risB f ltId ss && (dstB (ss.map (·.us)) && (dstB (ss.map mn) && dstB (ss.map (·.ip))))) = seB f ss := by
  rw [Bool.eq_iff_iff]
  simp only [Bool.and_eq_true]
  rw [risB_iff, seB_iff]
  unfold dstB
  simp only [decide_eq_true_eq]
  rw [nodup_at, nodup_at, nodup_at]
  constructor
  · rintro ⟨⟨h1, h2⟩, h3, h4, h5⟩
    have up : ∀ (d k : Nat) (x y : SessV), ss[k + d + 1]? = some x → ss[k]? = some y → y.id < x.id := by
      intro d
      induction d with
      | zero =>
        intro k x y hx hy
        have := h2 k x y hx hy
        unfold ltId at this
        simpa using this
      | succ d ih =>
        intro k x y hx hy
        obtain ⟨z, hz⟩ : ∃ z, ss[k + d + 1]? = some z := ⟨_, List.getElem?_eq_getElem (by have := (List.getElem?_eq_some_iff.1 hx).1; omega)⟩
        have a := ih k z y hz hy
        have b := h2 (k + d + 1) x z (by rw [← hx]; congr 1) hz
        unfold ltId at b
        simp at b
        omega
    refine ⟨h1, fun i k x y hx hy hki => ?_⟩
    have e1 := up (i - k - 1) k x y (by rw [← hx]; congr 1; omega) hy
    have e2 := h3 i k x.us y.us (by rw [List.getElem?_map, hx]; rfl) (by rw [List.getElem?_map, hy]; rfl) hki
    have e3 := h4 i k (mn x) (mn y) (by rw [List.getElem?_map, hx]; rfl) (by rw [List.getElem?_map, hy]; rfl) hki
    have e4 := h5 i k x.ip y.ip (by rw [List.getElem?_map, hx]; rfl) (by rw [List.getElem?_map, hy]; rfl) hki
    have e5 : y.mc.toList ≠ x.mc.toList := fun e => e3 ((hm y x (h1 k y hy) (h1 i x hx)).2 e)
    unfold prS
    simp [e1, e2, e4, e5]
  · rintro ⟨h1, h2⟩
    have pr : ∀ (i k : Nat) (x y : SessV), ss[i]? = some x → ss[k]? = some y → k < i → y.id < x.id ∧ y.us ≠ x.us ∧ y.mc.toList ≠ x.mc.toList ∧ y.ip ≠ x.ip := by
      intro i k x y hx hy hki
      have := h2 i k x y hx hy hki
      unfold prS at this
      simp at this
      exact this
    have mp : ∀ (g : SessV → Int) (i : Nat) (a : Int), (ss.map g)[i]? = some a → ∃ x, ss[i]? = some x ∧ g x = a := by
      intro g i a h
      rw [List.getElem?_map] at h
      cases hx : ss[i]? with
      | none => rw [hx] at h; cases h
      | some x => rw [hx] at h; exact ⟨x, rfl, by simpa using h⟩
    refine ⟨⟨h1, fun j x y hx hy => ?_⟩, fun i k a b ha hb hki => ?_, fun i k a b ha hb hki => ?_, fun i k a b ha hb hki => ?_⟩
    · have := (pr (j + 1) j x y hx hy (by omega)).1
      unfold ltId
      simpa using this
    · obtain ⟨x, hx, rfl⟩ := mp _ i a ha
      obtain ⟨y, hy, rfl⟩ := mp _ k b hb
      exact (pr i k x y hx hy hki).2.1
    · obtain ⟨x, hx, rfl⟩ := mp _ i a ha
      obtain ⟨y, hy, rfl⟩ := mp _ k b hb
      exact fun e => (pr i k x y hx hy hki).2.2.1 ((hm y x (h1 k y hy) (h1 i x hx)).1 e)
    · obtain ⟨x, hx, rfl⟩ := mp _ i a ha
      obtain ⟨y, hy, rfl⟩ := mp _ k b hb
      exact (pr i k x y hx hy hki).2.2.2
end Go.Proofs.YtnlepjcjakghcaaGreatDoor

namespace Go.Proofs.YtnlepjcjakghcaaGreatDoor
open Go.RowKit Go.PlainAid
set_option linter.unusedVariables false
set_option maxRecDepth 20000
theorem between_any (n lo hi : Int) (w : World) : Calls Tryz.prog 35 #[.int .i64 n, .int .i64 lo, .int .i64 hi] w fun e w' => e = .returned (.bool (decide (lo ≤ n ∧ n ≤ hi))) ∧ w' = w := by
  by_cases h1 : lo ≤ n
  · by_cases h2 : n ≤ hi
    · go_enter Tryz.func35, Tryz.ntmps35
      go_wp2
      go_ret
      exact ⟨congrArg (fun b => Ending.returned (.bool b)) (by simp [h1, h2]), rfl⟩
    · go_enter Tryz.func35, Tryz.ntmps35
      go_wp2
      go_ret
      exact ⟨congrArg (fun b => Ending.returned (.bool b)) (by simp [h2]), rfl⟩
  · have h1' : decide (lo ≤ n) = false := by simp; omega
    go_enter Tryz.func35, Tryz.ntmps35
    go_wp2
    go_ret
    exact ⟨congrArg (fun b => Ending.returned (.bool b)) (by simp), rfl⟩
theorem causeOK_any (c : Int) (w : World) : Calls Tryz.prog 107 #[.int .i64 c] w fun e w' => e = .returned (.bool (decide (1 ≤ c ∧ c ≤ 6))) ∧ w' = w := by
  have HB : Hid (∀ w, Calls Tryz.prog 35 #[.int .i64 c, .int .i64 1, .int .i64 6] w fun e w' => e = .returned (.bool (decide (1 ≤ c ∧ c ≤ 6))) ∧ w' = w) := fun w => between_any c 1 6 w
  generalize decide (1 ≤ c ∧ c ≤ 6) = z at HB ⊢
  go_enter Tryz.func107, Tryz.ntmps107
  go_wp2_with fail
  refine (HB.out _).mono ?_
  rintro e w1 ⟨rfl, hw⟩
  subst hw
  go_wp2
  go_ret
  exact ⟨rfl, rfl⟩
theorem bytesOK_any (n : Int) (w : World) : Calls Tryz.prog 34 #[.int .i64 n] w fun e w' => e = .returned (.bool (dec (0 ≤ n ∧ n ≤ 1000000))) ∧ w' = w := by
  have HB : Hid (∀ w, Calls Tryz.prog 35 #[.int .i64 n, .int .i64 0, .int .i64 1000000] w fun e w' => e = .returned (.bool (dec (0 ≤ n ∧ n ≤ 1000000))) ∧ w' = w) := fun w => between_any n 0 1000000 w
  generalize dec (0 ≤ n ∧ n ≤ 1000000) = z at HB ⊢
  go_enter Tryz.func34, Tryz.ntmps34
  go_wp2_with fail
  refine (HB.out _).mono ?_
  rintro e w1 ⟨rfl, hw⟩
  subst hw
  go_wp2
  go_ret
  exact ⟨rfl, rfl⟩
theorem creditOK_any (b l : Int) (w : World) : Calls Tryz.prog 15 #[.int .i64 b, .int .i64 l] w fun e w' => e = .returned (.bool (dec (0 ≤ b ∧ b ≤ 1000000) && dec (0 ≤ l ∧ l ≤ 1000))) ∧ w' = w := by
  have HA : Hid (∀ w, Calls Tryz.prog 34 #[.int .i64 b] w fun e w' => e = .returned (.bool (dec (0 ≤ b ∧ b ≤ 1000000))) ∧ w' = w) := fun w => bytesOK_any b w
  have HB : Hid (∀ w, Calls Tryz.prog 35 #[.int .i64 l, .int .i64 0, .int .i64 1000] w fun e w' => e = .returned (.bool (dec (0 ≤ l ∧ l ≤ 1000))) ∧ w' = w) := fun w => between_any l 0 1000 w
  generalize dec (0 ≤ b ∧ b ≤ 1000000) = y at HA ⊢
  generalize dec (0 ≤ l ∧ l ≤ 1000) = z at HB ⊢
  cases y with
  | false =>
    go_enter Tryz.func15, Tryz.ntmps15
    go_wp2_with fail
    refine (HA.out _).mono ?_
    rintro e w1 ⟨rfl, hw⟩
    subst hw
    go_wp2
    go_ret
    exact ⟨rfl, rfl⟩
  | true =>
    go_enter Tryz.func15, Tryz.ntmps15
    go_wp2_with fail
    refine (HA.out _).mono ?_
    rintro e w1 ⟨rfl, hw⟩
    subst hw
    go_wp2_with fail
    refine (HB.out _).mono ?_
    rintro e w1 ⟨rfl, hw⟩
    subst hw
    go_wp2
    go_ret
    exact ⟨by simp, rfl⟩
theorem timeOK_any (n : Int) (w : World) : Calls Tryz.prog 42 #[.int .i64 n] w fun e w' => e = .returned (.bool (dec (0 ≤ n ∧ n ≤ 100000))) ∧ w' = w := by
  have HB : Hid (∀ w, Calls Tryz.prog 35 #[.int .i64 n, .int .i64 0, .int .i64 100000] w fun e w' => e = .returned (.bool (dec (0 ≤ n ∧ n ≤ 100000))) ∧ w' = w) := fun w => between_any n 0 100000 w
  generalize dec (0 ≤ n ∧ n ≤ 100000) = z at HB ⊢
  go_enter Tryz.func42, Tryz.ntmps42
  go_wp2_with fail
  refine (HB.out _).mono ?_
  rintro e w1 ⟨rfl, hw⟩
  subst hw
  go_wp2
  go_ret
  exact ⟨rfl, rfl⟩
def snB (s : ByteArray) : Bool := nameB (bt s) s.size && dec (s.size ≤ 8)
theorem snB_le {s : ByteArray} (h : snB s = true) : s.size ≤ 8 := by
  unfold snB dec at h
  simp at h
  exact h.2
theorem l08Name_any (s : ByteArray) (w : World) (hs : s.size ≤ 1048576) : Calls Tryz.prog 16 #[.string s] w fun e w' => e = .returned (.bool (snB s)) ∧ w' = w := by
  have HA : Hid (∀ w, Calls Tryz.prog 36 #[.string s] w fun e w' => e = .returned (.bool (nameB (bt s) s.size)) ∧ w' = w) := fun w => specNameOK_any s w hs
  unfold snB
  generalize nameB (bt s) s.size = q at HA ⊢
  by_cases h8 : s.size ≤ 8
  · rw [dec_y h8]
    have hz : (s.size : Int) ≤ 8 := by omega
    cases q <;>
    · go_enter Tryz.func16, Tryz.ntmps16
      go_wp2_with fail
      refine (HA.out _).mono ?_
      rintro e w1 ⟨rfl, hw⟩
      subst hw
      go_wp2
      go_ret
      exact ⟨rfl, rfl⟩
  · rw [dec_n h8]
    have hz : decide ((s.size : Int) ≤ 8) = false := by simp; omega
    cases q <;>
    · go_enter Tryz.func16, Tryz.ntmps16
      go_wp2_with fail
      refine (HA.out _).mono ?_
      rintro e w1 ⟨rfl, hw⟩
      subst hw
      go_wp2
      go_ret
      exact ⟨rfl, rfl⟩
end Go.Proofs.YtnlepjcjakghcaaGreatDoor

namespace Go.Proofs.YtnlepjcjakghcaaGreatDoor
open Go.RowKit Go.PlainAid Go.Proofs.YtnlepjcjakghcaaGreatDoor.Bt Go.Sort
set_option linter.unusedVariables false
set_option maxRecDepth 20000
def rfP (s : ByteArray) (r : RoleV) : Bool := r.nm.toList == s.toList
def roI (ros : List RoleV) (s : ByteArray) : Int := match ros.find? (rfP s) with | some _ => (ros.findIdx (rfP s) : Int) | none => -1
def roH (ros : List RoleV) (s : ByteArray) : Bool := (ros.find? (rfP s)).isSome
def uB (ros : List RoleV) (u : UserV) : Bool := snB u.nm && (dec (u.sa.size ≤ 40) && (dec (u.ha.size = 32) && (roH ros u.ro && (dec (0 ≤ u.bl ∧ u.bl ≤ 1000000) && dec (0 ≤ u.lg ∧ u.lg ≤ 1000)))))
def ltU (y x : UserV) : Bool := ltS y.nm x.nm
def usB (ros : List RoleV) (us : List UserV) : Bool := dec (us.length ≤ 6) && risB (uB ros) ltU us
def sB (nx : Int) (ul : Nat) (ip b : Int) (s : SessV) : Bool :=
  dec (1 ≤ s.id ∧ s.id ≤ nx - 1) && (dec (0 ≤ s.us ∧ s.us ≤ (ul : Int) - 1) && (dec (s.mc.size = 6) && (hB ip b s.ip && (dec (0 ≤ s.ip ∧ s.ip ≤ 4294967295) && (dec (0 ≤ s.be ∧ s.be ≤ 100000) && (dec (s.be ≤ s.la ∧ s.la ≤ 100000) && (dec (1 ≤ s.qu ∧ s.qu ≤ 1000000) && (dec (0 ≤ s.ud ∧ s.ud ≤ s.qu) && (dec (s.be ≤ s.un ∧ s.un ≤ 101000) && dec (1 ≤ s.il ∧ s.il ≤ 1000))))))))))
def faB (f : FailV) : Bool := dec (f.mc.size = 6) && (dec (0 ≤ f.ct ∧ f.ct ≤ 2) && dec (0 ≤ f.un ∧ f.un ≤ 100010))
def ltF (y x : FailV) : Bool := ltS y.mc x.mc
def reB (nx : Int) (r : RecV) : Bool := dec (1 ≤ r.id ∧ r.id ≤ nx - 1) && (dec (0 ≤ r.tm ∧ r.tm ≤ 100000) && (dec (0 ≤ r.bt ∧ r.bt ≤ 1000000) && ((r.st == dec (0 < r.ca)) && (dec (0 ≤ r.ca ∧ r.ca ≤ 6) && (r.st || dec (r.bt = 0))))))
def gokB (ip b gt : Int) (gm wm : ByteArray) (rs : Int) (ps : List PlaceV) (ros : List RoleV) (us : List UserV) (ss : List SessV) (fs : List FailV) (es : List RecV) (nx : Int) : Bool :=
  confB ip b gt gm wm rs ps ros && (dec (1 ≤ nx ∧ nx ≤ 10000) && (usB ros us && ((dec (ss.length ≤ 3) && seB (sB nx us.length ip b) ss) && ((dec (fs.length ≤ 20) && risB faB ltF fs) && (dec (es.length ≤ 60) && es.all (reB nx))))))
/-- What the sizes allow. -/
def SzU (us : List UserV) : Prop := ∀ u ∈ us, u.nm.size ≤ 1048576 ∧ u.sa.size ≤ 1048576 ∧ u.ha.size ≤ 1048576 ∧ u.ro.size ≤ 1048576
theorem bfind_no {α : Type} {p : α → Bool} {xs : List α} {k : Nat} {x : α} (hx : xs[k]? = some x) (h : (xs.take k).find? p = none) (hp : p x = false) : (xs.take (k + 1)).find? p = none := by
  rw [List.take_add_one, hx, List.find?_append, h]
  simp [hp]
theorem bfind_yes {α : Type} {p : α → Bool} {xs : List α} {k : Nat} {x : α} (hx : xs[k]? = some x) (h : (xs.take k).find? p = none) (hp : p x = true) : xs.find? p = some x := by
  have e : xs = xs.take (k + 1) ++ xs.drop (k + 1) := (List.take_append_drop _ _).symm
  rw [e, List.find?_append, List.take_add_one, hx, List.find?_append, h]
  simp [hp]
theorem bfind_at {α : Type} {p : α → Bool} {xs : List α} {k : Nat} {x : α} (hx : xs[k]? = some x) (h : (xs.take k).find? p = none) (hp : p x = true) : xs.findIdx p = k := by
  obtain ⟨hk, rfl⟩ := List.getElem?_eq_some_iff.1 hx
  rw [List.findIdx_eq hk]
  refine ⟨hp, fun j hj => ?_⟩
  rw [List.find?_eq_none] at h
  have := h (xs[j]'(by omega)) (by rw [List.mem_iff_getElem?]; exact ⟨j, by rw [List.getElem?_take, if_pos hj]; exact List.getElem?_eq_getElem _⟩)
  simpa using this
theorem bfind_end {α : Type} {p : α → Bool} {xs : List α} {k : Nat} (hk : xs.length = k) (h : (xs.take k).find? p = none) : xs.find? p = none := by
  rw [List.take_of_length_le (by omega)] at h
  exact h
end Go.Proofs.YtnlepjcjakghcaaGreatDoor

namespace Go.Proofs.YtnlepjcjakghcaaGreatDoor
open Go.RowKit Go.PlainAid Go.Proofs.YtnlepjcjakghcaaGreatDoor.Bt Go.Sort
set_option linter.unusedVariables false
set_option maxRecDepth 20000
/-- The place of the first one, or -1. -/
def ixI {V : Type} (p : V → Bool) (xs : List V) : Int := match xs.find? p with | some _ => (xs.findIdx p : Int) | none => -1
section
variable {V : Type} {p : V → Bool} {xs : List V} {k : Nat} {x : V}
theorem ixI_no (hx : xs[k]? = some x) (h : (xs.take k).find? p = none) (hp : p x = false) : (xs.take (k + 1)).find? p = none := bfind_no hx h hp
theorem ixI_at (hx : xs[k]? = some x) (h : (xs.take k).find? p = none) (hp : p x = true) : ixI p xs = k := by unfold ixI; rw [bfind_yes hx h hp, bfind_at hx h hp]
theorem ixI_end (hk : xs.length = k) (h : (xs.take k).find? p = none) : ixI p xs = -1 := by unfold ixI; rw [bfind_end hk h]
theorem ixI_neg : decide (ixI p xs < 0) = !(xs.any p) := by
  unfold ixI
  cases h : xs.find? p with
  | none =>
    have : xs.any p = false := by
      rw [List.find?_eq_none] at h
      rw [List.any_eq_false]
      intro y hy
      simpa using h y hy
    simp [this]
  | some y =>
    have : xs.any p = true := List.any_eq_true.2 ⟨y, List.mem_of_find?_eq_some h, List.find?_some h⟩
    simp [this]
theorem ixI_pos : decide (0 ≤ ixI p xs) = xs.any p := by
  have h : decide (0 ≤ ixI p xs) = !(decide (ixI p xs < 0)) := by
    by_cases h0 : ixI p xs < 0
    · rw [decide_eq_true h0, decide_eq_false (by omega)]; rfl
    · rw [decide_eq_false h0, decide_eq_true (by omega)]; rfl
  rw [h, ixI_neg]; simp
end
end Go.Proofs.YtnlepjcjakghcaaGreatDoor

namespace Go.Proofs.YtnlepjcjakghcaaGreatDoor
open Go.RowKit Go.PlainAid Go.Proofs.YtnlepjcjakghcaaGreatDoor.Bt Go.Sort
set_option linter.unusedVariables false
set_option maxRecDepth 20000
/-- The code of what all calls with a time ask. -/
def fau2 (z d : Bool) : Int := match z, d with | false, _ => 1 | true, true => 0 | true, false => 4
noncomputable def fauC (z : Bool) (now : Int) : Int := fau2 z (dec (0 ≤ now ∧ now ≤ 100000))
set_option maxHeartbeats 4000000 in
theorem guestsFault_any (ip b gt : Int) (gm wm : ByteArray) (rv : Int) (x y : Option Addr) (lenx capx leny capy : Nat) (ua sa fa ra : Option Addr) (ul uc sl sc fl fc rl rc : Nat) (nx now : Int) (z : Bool) (w : World) (hg : ∀ wx, Below w.heap.size w wx → Calls Tryz.prog 41 #[.agg #[.int .i64 ip, .int .i64 b, .int .i64 gt, .string gm, .string wm, .int .i64 rv, .slice x lenx capx, .slice y leny capy], .agg #[.slice ua ul uc, .slice sa sl sc, .slice fa fl fc, .slice ra rl rc, .int .i64 nx]] wx fun e w' => e = .returned (.bool z) ∧ Below wx.heap.size wx w') :
    Calls Tryz.prog 21 #[.agg #[.int .i64 ip, .int .i64 b, .int .i64 gt, .string gm, .string wm, .int .i64 rv, .slice x lenx capx, .slice y leny capy], .agg #[.slice ua ul uc, .slice sa sl sc, .slice fa fl fc, .slice ra rl rc, .int .i64 nx], .int .i64 now] w fun e w' => e = .returned (.int .i64 (fauC z now)) ∧ Below w.heap.size w w' := by
  have HG : Hid (∀ wx, Below w.heap.size w wx → Calls Tryz.prog 41 #[.agg #[.int .i64 ip, .int .i64 b, .int .i64 gt, .string gm, .string wm, .int .i64 rv, .slice x lenx capx, .slice y leny capy], .agg #[.slice ua ul uc, .slice sa sl sc, .slice fa fl fc, .slice ra rl rc, .int .i64 nx]] wx fun e w' => e = .returned (.bool z) ∧ Below wx.heap.size wx w') := hg
  clear hg
  have C0 : Bx ((w.alloc (.cells #[.int .i64 ip, .int .i64 b, .int .i64 gt, .string gm, .string wm, .int .i64 rv, .slice x lenx capx, .slice y leny capy] 35)).alloc (.cells #[.slice ua ul uc, .slice sa sl sc, .slice fa fl fc, .slice ra rl rc, .int .i64 nx] 42)) w.heap.size [.int .i64 ip, .int .i64 b, .int .i64 gt, .string gm, .string wm, .int .i64 rv, .slice x lenx capx, .slice y leny capy] := ((Bo.new w #[.int .i64 ip, .int .i64 b, .int .i64 gt, .string gm, .string wm, .int .i64 rv, .slice x lenx capx, .slice y leny capy] 35).below ((Below.refl _ _).alloc (Nat.le_refl _) _)).bx
  have G0 : Bx ((w.alloc (.cells #[.int .i64 ip, .int .i64 b, .int .i64 gt, .string gm, .string wm, .int .i64 rv, .slice x lenx capx, .slice y leny capy] 35)).alloc (.cells #[.slice ua ul uc, .slice sa sl sc, .slice fa fl fc, .slice ra rl rc, .int .i64 nx] 42)) (w.heap.size + 1) [.slice ua ul uc, .slice sa sl sc, .slice fa fl fc, .slice ra rl rc, .int .i64 nx] := by
    have h := (Bo.new (w.alloc (.cells #[.int .i64 ip, .int .i64 b, .int .i64 gt, .string gm, .string wm, .int .i64 rv, .slice x lenx capx, .slice y leny capy] 35)) #[.slice ua ul uc, .slice sa sl sc, .slice fa fl fc, .slice ra rl rc, .int .i64 nx] 42).bx
    rw [World.size_alloc] at h
    exact h
  have B0 : Hid (Below w.heap.size w ((w.alloc (.cells #[.int .i64 ip, .int .i64 b, .int .i64 gt, .string gm, .string wm, .int .i64 rv, .slice x lenx capx, .slice y leny capy] 35)).alloc (.cells #[.slice ua ul uc, .slice sa sl sc, .slice fa fl fc, .slice ra rl rc, .int .i64 nx] 42))) := ((Below.refl _ _).alloc (Nat.le_refl _) _).alloc (by simp) _
  have TM : Hid (∀ w, Calls Tryz.prog 42 #[.int .i64 now] w fun e w' => e = .returned (.bool (dec (0 ≤ now ∧ now ≤ 100000))) ∧ w' = w) := fun w => timeOK_any now w
  rw [show fauC z now = fau2 z (dec (0 ≤ now ∧ now ≤ 100000)) from rfl]
  generalize dec (0 ≤ now ∧ now ≤ 100000) = d at TM ⊢
  go_enter Tryz.func21, Tryz.ntmps21
  go_wp2_with (first | (refine wpl_getT 35 rfl _ rfl _ rfl C0 _ Tryz.underlying35 rfl rfl ?_) | (refine wpl_getT 42 rfl _ rfl _ rfl G0 _ Tryz.underlying42 rfl rfl ?_) | fail)
  refine (HG.out _ B0.out).mono ?_
  rintro e w1 ⟨rfl, b1⟩
  have B1 : Hid (Below w.heap.size w w1) := B0.out.trans (b1.mono B0.out.size)
  clear b1 B0 C0 G0 HG
  cases z with
  | false =>
    go_wp2
    go_ret
    exact ⟨rfl, B1.out⟩
  | true =>
    go_wp2_with fail
    refine (TM.out _).mono ?_
    rintro e w2 ⟨rfl, rfl⟩
    cases d with
    | false =>
      go_wp2
      go_ret
      exact ⟨rfl, B1.out⟩
    | true =>
      go_wp2
      go_ret
      exact ⟨rfl, B1.out⟩
end Go.Proofs.YtnlepjcjakghcaaGreatDoor

namespace Go.Proofs.YtnlepjcjakghcaaGreatDoor
open Go.RowKit Go.PlainAid Go.Proofs.YtnlepjcjakghcaaGreatDoor.Bt Go.Sort
set_option linter.unusedVariables false
set_option maxRecDepth 20000
/-- Guests that are handed in: what may be read of them. -/
structure HuS (w : World) (A : HuA) (h : HuV) : Prop where
  us : Src UsR 6 w A.u h.us.length A.uc h.us
  ss : Src SeR 10 w A.s h.ss.length A.sc h.ss
  fs : Src FaR 3 w A.f h.fs.length A.fc h.fs
  es : Src ReR 5 w A.r h.es.length A.rc h.es
theorem HuS.below {w w' : World} {A : HuA} {h : HuV} (o : HuS w A h) (hb : Below w.heap.size w w') : HuS w' A h := ⟨o.us.below UsR.kp hb, o.ss.below SeR.kp hb, o.fs.below FaR.kp hb, o.es.below ReR.kp hb⟩
structure HuL (h : HuV) : Prop where
  us : h.us.length ≤ 1048576
  ss : h.ss.length ≤ 1048576
  fs : h.fs.length ≤ 1048576
  es : h.es.length ≤ 1048576
theorem OwnHu.srcs {w : World} {B : Nat} {A : HuA} {h : HuV} (o : OwnHu w B A h) (hk : HuOk h) (hl : HuL h) : HuS w A h :=
  ⟨o.u.src (ok := UsRok) uvG_len hk.us hl.us, o.s.src (ok := SeRok) svG_len hk.ss hl.ss, o.f.src (ok := FaRok) fvG_len hk.fs hl.fs, o.r.src (ok := ReRok) evG_len hk.es hl.es⟩
end Go.Proofs.YtnlepjcjakghcaaGreatDoor

namespace Go.Proofs.YtnlepjcjakghcaaGreatDoor
open Go.RowKit Go.PlainAid Go.Proofs.YtnlepjcjakghcaaGreatDoor.Bt Go.Sort
set_option linter.unusedVariables false
set_option maxRecDepth 20000

def okG (c : CfV) (h : HuV) : Bool := gokB c.ip c.b c.gt c.gm c.wm c.rs c.ps c.ros h.us h.ss h.fs h.es h.nx
theorem okG_len {c : CfV} {h : HuV} (hk : okG c h = true) : h.ss.length ≤ 3 ∧ h.es.length ≤ 60 := by
  unfold okG gokB at hk
  simp only [Bool.and_eq_true] at hk
  exact ⟨of_decide_eq_true hk.2.2.2.1.1, of_decide_eq_true hk.2.2.2.2.2.1⟩
end Go.Proofs.YtnlepjcjakghcaaGreatDoor

namespace Go.Proofs.YtnlepjcjakghcaaGreatDoor
open Go.RowKit Go.PlainAid Go.Proofs.YtnlepjcjakghcaaGreatDoor.Bt Go.Sort
set_option linter.unusedVariables false
set_option maxRecDepth 20000
end Go.Proofs.YtnlepjcjakghcaaGreatDoor

namespace Go.Proofs.YtnlepjcjakghcaaGreatDoor
open Go.RowKit Go.PlainAid Go.Proofs.YtnlepjcjakghcaaGreatDoor.Bt Go.Sort
set_option linter.unusedVariables false
set_option maxRecDepth 20000

structure HuSz (h : HuV) : Prop where
  us : h.us.length ≤ 1048576
  ss : h.ss.length ≤ 1048576
  fs : h.fs.length ≤ 1048576
  es : h.es.length ≤ 1048576
  szu : szL wtUser h.us ≤ 1048576
  szs : szL wtSession h.ss ≤ 1048576
  szf : szL wtFail h.fs ≤ 1048576
end Go.Proofs.YtnlepjcjakghcaaGreatDoor

namespace Go.Proofs.YtnlepjcjakghcaaGreatDoor
set_option linter.unusedVariables false
def nmP (u : ByteArray) (x : UserV) : Bool := x.nm.toList == u.toList
end Go.Proofs.YtnlepjcjakghcaaGreatDoor

namespace Go.Proofs.YtnlepjcjakghcaaGreatDoor
open Go.RowKit
set_option linter.unusedVariables false

theorem ofInt_u32 (a : Nat) (ha : a < 4294967296) : (BitVec.ofInt 32 (a : Int)).toNat = a := by
  rw [BitVec.ofInt_natCast, BitVec.toNat_ofNat]; exact Nat.mod_eq_of_lt (by omega)
theorem or_u32 (a b : Nat) (ha : a < 4294967296) (hb : b < 4294967296) : bits .or .u32 (a : Int) (b : Int) = ((a ||| b : Nat) : Int) := by
  have hx : a ||| b < 2 ^ 32 := Nat.or_lt_two_pow (by omega) (by omega)
  show IntKind.u32.wrap ((BitVec.ofInt 32 (a : Int) ||| BitVec.ofInt 32 (b : Int)).toNat : Int) = _
  rw [BitVec.toNat_or, ofInt_u32 a ha, ofInt_u32 b hb, IntKind.wrap_u32]
  omega
end Go.Proofs.YtnlepjcjakghcaaGreatDoor

namespace Go.Proofs.YtnlepjcjakghcaaGreatDoor
open Go.RowKit
set_option linter.unusedVariables false

/-- A word turned to the right. -/
def rot (x n : Int) : Int := bits .or .u32 (x / 2 ^ n.toNat) (IntKind.u32.wrap (x * 2 ^ (32 - n).toNat))
theorem or_comm32 (a b : Int) : bits .or .u32 a b = bits .or .u32 b a := by
  show IntKind.u32.wrap ((BitVec.ofInt 32 a ||| BitVec.ofInt 32 b).toNat : Int) = IntKind.u32.wrap ((BitVec.ofInt 32 b ||| BitVec.ofInt 32 a).toNat : Int)
  rw [BitVec.or_comm]
theorem neg_and_all : ∀ n : Fin 32, 0 < n.val → bits .and .u64 (IntKind.u64.wrap (-(n.val : Int))) 31 = 32 - (n.val : Int) := by decide +kernel
theorem neg_and (n : Int) (h1 : 1 ≤ n) (h2 : n ≤ 31) : bits .and .u64 (IntKind.u64.wrap (-n)) 31 = 32 - n := by
  obtain ⟨m, rfl⟩ := Int.eq_ofNat_of_zero_le (show 0 ≤ n by omega)
  exact neg_and_all ⟨m, by omega⟩ (by show 0 < m; omega)
/-- A word against itself, turned three ways. -/
def rot3 (x a b c : Int) : Int := bits .xor .u32 (bits .xor .u32 (rot x a) (rot x b)) (rot x c)
def sg0 (x : Int) : Int := bits .xor .u32 (bits .xor .u32 (rot x 7) (rot x 18)) (x / 8)
def sg1 (x : Int) : Int := bits .xor .u32 (bits .xor .u32 (rot x 17) (rot x 19)) (x / 1024)
/-- A word of the block. -/
def wordB (f : Nat → Int) (i : Nat) : Int := numOf (fun j => f (4 * i + j)) 4
theorem wordB_bd (f : Nat → Int) (h : ∀ k, 0 ≤ f k ∧ f k ≤ 255) (i : Nat) : 0 ≤ wordB f i ∧ wordB f i ≤ 4294967295 := by
  have := numOf_bd (fun j => f (4 * i + j)) (fun k => h _) 4
  unfold wordB
  omega
/-- The spread block. -/
def sch (f : Nat → Int) (i : Nat) : Int :=
  if h : i < 16 then wordB f i
  else IntKind.u32.wrap (IntKind.u32.wrap (IntKind.u32.wrap (sch f (i - 16) + sch f (i - 7)) + sg0 (sch f (i - 15))) + sg1 (sch f (i - 2)))
termination_by i
decreasing_by all_goals omega
theorem sch_low (f : Nat → Int) (i : Nat) (h : i < 16) : sch f i = wordB f i := by rw [sch, dif_pos h]
theorem sch_high (f : Nat → Int) (i : Nat) (h : 16 ≤ i) : sch f i = IntKind.u32.wrap (IntKind.u32.wrap (IntKind.u32.wrap (sch f (i - 16) + sch f (i - 7)) + sg0 (sch f (i - 15))) + sg1 (sch f (i - 2))) := by
  rw [sch, dif_neg (by omega)]
theorem wrap_swap (a b c d : Int) : IntKind.u32.wrap (IntKind.u32.wrap (IntKind.u32.wrap (a + b) + c) + d) = IntKind.u32.wrap (IntKind.u32.wrap (IntKind.u32.wrap (a + c) + b) + d) := by
  simp only [IntKind.wrap_u32]; omega
/-- The words of the rounds, and those of the beginning. -/
def kks : List Int := [1116352408, 1899447441, 3049323471, 3921009573, 961987163, 1508970993, 2453635748, 2870763221, 3624381080, 310598401, 607225278, 1426881987, 1925078388, 2162078206, 2614888103, 3248222580, 3835390401, 4022224774, 264347078, 604807628, 770255983, 1249150122, 1555081692, 1996064986, 2554220882, 2821834349, 2952996808, 3210313671, 3336571891, 3584528711, 113926993, 338241895, 666307205, 773529912, 1294757372, 1396182291, 1695183700, 1986661051, 2177026350, 2456956037, 2730485921, 2820302411, 3259730800, 3345764771, 3516065817, 3600352804, 4094571909, 275423344, 430227734, 506948616, 659060556, 883997877, 958139571, 1322822218, 1537002063, 1747873779, 1955562222, 2024104815, 2227730452, 2361852424, 2428436474, 2756734187, 3204031479, 3329325298]
def KK (i : Nat) : Int := kks.getD i 0
def hbs : List Int := [1779033703, 3144134277, 1013904242, 2773480762, 1359893119, 2600822924, 528734635, 1541459225]
def HB (i : Nat) : Int := hbs.getD i 0
def chm (e f g : Int) : Int := bits .xor .u32 (bits .and .u32 e f) (bits .and .u32 (bits .xor .u32 IntKind.u32.max e) g)
def mjm (a b c : Int) : Int := bits .xor .u32 (bits .xor .u32 (bits .and .u32 a b) (bits .and .u32 a c)) (bits .and .u32 b c)
def dnm (e f g h k w : Int) : Int := (h + rot3 e 6 11 25 + chm e f g + k + w) % 4294967296
def upm (a b c : Int) : Int := (rot3 a 2 13 22 + mjm a b c) % 4294967296
/-- A round. -/
def rnd (k w : Int) (s : Nat → Int) : Nat → Int
  | 0 => (dnm (s 4) (s 5) (s 6) (s 7) k w + upm (s 0) (s 1) (s 2)) % 4294967296
  | 1 => s 0
  | 2 => s 1
  | 3 => s 2
  | 4 => (s 3 + dnm (s 4) (s 5) (s 6) (s 7) k w) % 4294967296
  | 5 => s 4
  | 6 => s 5
  | 7 => s 6
  | _ => 0
/-- Behind k rounds. -/
def stR (f s0 : Nat → Int) : Nat → Nat → Int
  | 0 => s0
  | k + 1 => rnd (KK k) (sch f k) (stR f s0 k)
/-- Behind a block. -/
def blk (f s0 : Nat → Int) (i : Nat) : Int := (stR f s0 64 i + s0 i) % 4294967296
/-- The state that was added to, up to k. -/
def fin8 (c s0 : Nat → Int) (k : Nat) (j : Nat) : Int := if j < k then (c j + s0 j) % 4294967296 else c j
/-- Behind k blocks. -/
def stB (f s0 : Nat → Int) : Nat → Nat → Int
  | 0 => s0
  | k + 1 => blk (fun j => f (64 * k + j)) (stB f s0 k)
/-- Words as cells. -/
def words (g : Nat → Int) (n : Nat) : List Value := (List.range n).map fun i => Value.int .u32 (g i)
theorem words_len (g : Nat → Int) (n : Nat) : (words g n).length = n := by simp [words]
theorem words_size (g : Nat → Int) (n : Nat) : (words g n).toArray.size = n := by rw [List.size_toArray, words_len]
theorem words_at (g : Nat → Int) (n i : Nat) (h : i < n) : (words g n)[i]? = some (.int .u32 (g i)) := by simp [words, h]
theorem words_get {g : Nat → Int} {n j : Nat} {v : Value} (h : (words g n)[j]? = some v) : j < n ∧ v = .int .u32 (g j) := by
  have hj : j < n := by rw [← words_len g n]; exact (List.getElem?_eq_some_iff.1 h).1
  rw [words_at g n j hj] at h
  exact ⟨hj, (Option.some.inj h).symm⟩
theorem words_congr {g h : Nat → Int} {n : Nat} (e : ∀ i, i < n → g i = h i) : words g n = words h n := by
  unfold words
  exact List.map_congr_left fun i hi => by rw [e i (by simpa using hi)]
theorem words8 {g : Nat → Int} {e0 e1 e2 e3 e4 e5 e6 e7 : Int} (h0 : e0 = g 0) (h1 : e1 = g 1) (h2 : e2 = g 2) (h3 : e3 = g 3) (h4 : e4 = g 4) (h5 : e5 = g 5) (h6 : e6 = g 6) (h7 : e7 = g 7) :
    [Value.int .u32 e0, .int .u32 e1, .int .u32 e2, .int .u32 e3, .int .u32 e4, .int .u32 e5, .int .u32 e6, .int .u32 e7] = words g 8 := by
  subst h0 h1 h2 h3 h4 h5 h6 h7; rfl
end Go.Proofs.YtnlepjcjakghcaaGreatDoor

namespace Go.Proofs.YtnlepjcjakghcaaGreatDoor
open Go.RowKit Go.PlainAid
set_option linter.unusedVariables false
set_option maxRecDepth 20000

/-- Block q of n cells, of which the first k hold g's words; nothing below base is turned since w. -/
structure Arr (base : Nat) (w wr : World) (q n k : Nat) (g : Nat → Int) : Prop where
  bel : Below base w wr
  lt : q < wr.heap.size
  at_ : ∀ i, i < k → wr.cell? ⟨q, i, none⟩ = some (.int .u32 (g i))
  thr : ∀ i, i < n → (wr.cell? ⟨q, i, none⟩).isSome = true ∧ wr.frozen? ⟨q, i, none⟩ = false

theorem Arr.set {base : Nat} {w wr : World} {q n k : Nat} {g : Nat → Int} (h : Arr base w wr q n k g) (hk : k < n) (hq : base ≤ q) (x : Int) (hx : x = g k) : Arr base w (wr.setCell ⟨q, k, none⟩ (.int .u32 x)) q n (k + 1) g := by
  subst hx
  have hs : ∀ i, i < n → (wr.cell? ⟨q, i, none⟩).isSome = true := fun i hi => (h.thr i hi).1
  refine ⟨h.bel.setCell hq _, by simpa using h.lt, fun i hi => ?_, fun i hi => ?_⟩
  · by_cases e : i = k
    · subst e
      obtain ⟨u, hu⟩ := Option.isSome_iff_exists.1 (hs i hk)
      exact World.cell?_setCell_same _ _ _ hu
    · rw [World.cell?_setCell_other _ _ _ _ (fun he => e (by injection he with _ h2; exact h2.symm))]; exact h.at_ i (by omega)
  · have := h.thr i hi
    refine ⟨?_, by rw [World.frozen?_setCell]; exact this.2⟩
    by_cases e : i = k
    · subst e
      obtain ⟨u, hu⟩ := Option.isSome_iff_exists.1 (hs i hk)
      rw [World.cell?_setCell_same _ _ _ hu]; rfl
    · rw [World.cell?_setCell_other _ _ _ _ (fun he => e (by injection he with _ h2; exact h2.symm))]; exact this.1
theorem Arr.range {base : Nat} {w wr : World} {q n : Nat} {g : Nat → Int} (h : Arr base w wr q n n g) : wr.rangeAt q 0 (words g n) := fun j v hv => by
  obtain ⟨hj, rfl⟩ := words_get hv
  rw [Nat.zero_add]
  exact h.at_ j hj
/-- n cells of block q are there and may be written. -/
def Free (w : World) (q n : Nat) : Prop := q < w.heap.size ∧ ∀ i, i < n → (w.cell? ⟨q, i, none⟩).isSome = true ∧ w.frozen? ⟨q, i, none⟩ = false
theorem Free.there {w : World} {q n : Nat} (h : Free w q n) : w.there q 0 n := fun j hj => by rw [Nat.zero_add]; exact h.2 j hj
theorem Free.set {w : World} {q n : Nat} (h : Free w q n) {a : Addr} (ha : a.block ≠ q) (v : Value) : Free (w.setCell a v) q n := by
  refine ⟨by simpa using h.1, fun i hi => ?_⟩
  rw [World.cell?_setCell_other _ _ _ _ (fun he => ha (by rw [he])), World.frozen?_setCell]
  exact h.2 i hi
theorem Free.new (w : World) (cs : Array Value) (t : TypeId) : Free (w.alloc (.cells cs t)) w.heap.size cs.size := by
  refine ⟨by simp, fun i hi => ?_⟩
  constructor
  · rw [World.cell?_alloc_new w cs t i]
    simp [hi]
  · simp
theorem Free.below {w w' : World} {q n B : Nat} (h : Free w q n) (b : Below B w w') (hq : q < B) : Free w' q n := by
  refine ⟨Nat.lt_of_lt_of_le h.1 b.size, fun i hi => ?_⟩
  rw [b.cell (p := ⟨q, i, none⟩) hq, b.frozen (p := ⟨q, i, none⟩) hq]
  exact h.2 i hi
theorem below_setCells {base : Nat} {w : World} {q : Nat} (hq : base ≤ q) : ∀ (vs : List Value) (o : Nat) (wr : World), Below base w wr → Below base w (wr.setCells q o vs)
  | [], o, wr, h => h
  | v :: vs, o, wr, h => below_setCells hq vs (o + 1) (wr.setCell ⟨q, o, none⟩ v) (h.setCell hq v)
theorem results_one {fn : Func} {p : Tmp} {ty : TypeId} (h : fn.results = #[.cell p ty]) {tmps : Array Value} {P : Program} {w : World} {q : Addr} {v : Value} (hp : tmps.getD p undef = .pointer (some q)) (hl : (loadVar ty q).run P w = .ok v w) :
    (results fn tmps).run P w = .ok v w := by
  have hp' : tmps[p]?.getD undef = .pointer (some q) := by simpa using hp
  simp [results, h, hp', asAddr, hl]
theorem there_new (w : World) (cs : Array Value) (t : TypeId) (n : Nat) (h : cs.size = n) : (w.alloc (.cells cs t)).there w.heap.size 0 n := by
  subst h; exact (Free.new w cs t).there
theorem words_oneCell (g : Nat → Int) (n : Nat) : (words g n).toArray.all (·.oneCell') = true :=
  all_oneCell_toArray fun v hv => by
    unfold words at hv
    obtain ⟨i, _, rfl⟩ := List.mem_map.1 hv
    rfl
end Go.Proofs.YtnlepjcjakghcaaGreatDoor

namespace Go.Proofs.YtnlepjcjakghcaaGreatDoor
open Go.RowKit Go.PlainAid
set_option linter.unusedVariables false
set_option maxRecDepth 20000

theorem l04Turn_any (x n : Int) (w : World) (h1 : 1 ≤ n) (h2 : n ≤ 31) :
    Calls Tryz.prog 96 #[.int .u32 x, .int .u64 n] w fun e w' => e = .returned (.int .u32 (rot x n)) ∧ w' = w := by
  have e1 : IntKind.u64.wrap (32 - n) = 32 - n := by rw [IntKind.wrap_u64]; omega
  have HR : Hid (rot x n = bits .or .u32 (x / 2 ^ n.toNat) (IntKind.u32.wrap (x * 2 ^ (32 - n).toNat))) := rfl
  go_enter Tryz.func96, Tryz.ntmps96
  go_wp2
  go_ret
  exact ⟨by rw [HR.out]; rfl, rfl⟩

theorem rotl_any (x n : Int) (w : World) (h1 : 1 ≤ n) (h2 : n ≤ 31) :
    Calls Tryz.prog 110 #[.int .u32 x, .int .i64 (-n)] w fun e w' => e = .returned (.int .u32 (rot x n)) ∧ w' = w := by
  have e0 := neg_and n h1 h2
  have e1 : IntKind.u64.wrap (32 - (32 - n)) = n := by rw [IntKind.wrap_u64]; omega
  have HR : Hid (rot x n = bits .or .u32 (IntKind.u32.wrap (x * 2 ^ (32 - n).toNat)) (x / 2 ^ n.toNat)) := or_comm32 _ _
  go_enter Tryz.func110, Tryz.ntmps110
  go_wp2
  go_ret
  exact ⟨by rw [HR.out]; rfl, rfl⟩
theorem turnRight_any (x n : Int) (w : World) (h1 : 1 ≤ n) (h2 : n ≤ 31) :
    Calls Tryz.prog 98 #[.int .u32 x, .int .i64 n] w fun e w' => e = .returned (.int .u32 (rot x n)) ∧ w' = w := by
  go_enter Tryz.func98, Tryz.ntmps98
  go_wp2_with fail
  refine (rotl_any x n w h1 h2).mono ?_
  rintro e w' ⟨rfl, hw⟩
  subst hw
  go_wp2
  go_ret
  exact ⟨rfl, rfl⟩
theorem turnSum_any (x a b c : Int) (w : World) (a1 : 1 ≤ a) (a2 : a ≤ 31) (b1 : 1 ≤ b) (b2 : b ≤ 31) (c1 : 1 ≤ c) (c2 : c ≤ 31) :
    Calls Tryz.prog 86 #[.int .u32 x, .int .i64 a, .int .i64 b, .int .i64 c] w fun e w' => e = .returned (.int .u32 (rot3 x a b c)) ∧ w' = w := by
  go_enter Tryz.func86, Tryz.ntmps86
  go_wp2_with fail
  refine (turnRight_any x a w a1 a2).mono ?_
  rintro e w' ⟨rfl, hw⟩
  subst hw
  go_wp2_with fail
  refine (turnRight_any x b w' b1 b2).mono ?_
  rintro e w' ⟨rfl, hw⟩
  subst hw
  go_wp2_with fail
  refine (turnRight_any x c w' c1 c2).mono ?_
  rintro e w' ⟨rfl, hw⟩
  subst hw
  go_wp2
  go_ret
  exact ⟨rfl, rfl⟩
end Go.Proofs.YtnlepjcjakghcaaGreatDoor

namespace Go.Proofs.YtnlepjcjakghcaaGreatDoor
open Go.RowKit Go.PlainAid
set_option linter.unusedVariables false
set_option maxRecDepth 20000

theorem Tryz.size64 : (Tryz.prog.info? 126).map (·.size) = some 64 := by kernel_rfl
/-- Behind k words: the row of words, and the answer's row, which may be written. -/
def Spr (f : Nat → Int) (w wr : World) (k : Nat) : Prop := Arr w.heap.size w wr (w.heap.size + 1) 64 k (sch f) ∧ Free wr w.heap.size 64
theorem Spr.start (f : Nat → Int) (w : World) (cs : Array Value) (hc : cs.size = 64) (t : TypeId) : Spr f w ((w.alloc (.cells cs t)).alloc (.cells cs t)) 0 := by
  have h1 := Free.new w cs t
  have h2 := Free.new (w.alloc (.cells cs t)) cs t
  rw [hc] at h1 h2
  have hz : (w.alloc (.cells cs t)).heap.size = w.heap.size + 1 := by simp
  rw [hz] at h2
  have b1 : Below (w.heap.size + 1) (w.alloc (.cells cs t)) ((w.alloc (.cells cs t)).alloc (.cells cs t)) := (Below.refl _ _).alloc (by simp) _
  refine ⟨⟨((Below.refl _ _).alloc (Nat.le_refl _) _).alloc (by simp) _, h2.1, fun i hi => absurd hi (by omega), h2.2⟩, h1.below b1 (by omega)⟩
theorem Spr.set {f : Nat → Int} {w wr : World} {k : Nat} (h : Spr f w wr k) (hk : k < 64) (x : Int) (hx : x = sch f k) : Spr f w (wr.setCell ⟨w.heap.size + 1, k, none⟩ (.int .u32 x)) (k + 1) :=
  ⟨h.1.set hk (by omega) x hx, h.2.set (by show w.heap.size + 1 ≠ w.heap.size; omega) _⟩
theorem Spr.drewN {f : Nat → Int} {w wr : World} {k : Nat} (h : Spr f w wr k) (n : Nat) : Spr f w (wr.drewN n) k :=
  ⟨⟨⟨h.1.bel.os, h.1.bel.tape, h.1.bel.output, h.1.bel.size, h.1.bel.block⟩, h.1.lt, h.1.at_, h.1.thr⟩, h.2⟩
theorem Spr.drew {f : Nat → Int} {w wr : World} {k : Nat} (h : Spr f w wr k) : Spr f w wr.drew k :=
  ⟨⟨⟨h.1.bel.os, h.1.bel.tape, h.1.bel.output, h.1.bel.size, h.1.bel.block⟩, h.1.lt, h.1.at_, h.1.thr⟩, h.2⟩

set_option maxHeartbeats 2000000 in
theorem spreadBlock_any (a : Option Addr) (f : Nat → Int) (w : World) (h : Bytes w a 64 f) (hlt : ∀ b off, a = some ⟨b, off, none⟩ → b < w.heap.size) :
    Calls Tryz.prog 85 #[.slice a 64 64] w fun e w' => e = .returned (.agg (words (sch f) 64).toArray) ∧ Below w.heap.size w w' := by
  have hB : Hid (Bytes w a 64 f) := h
  have hL : Hid (∀ b off, a = some ⟨b, off, none⟩ → b < w.heap.size) := hlt
  clear h hlt
  go_enter Tryz.func85, Tryz.ntmps85
  go_wp2
  go_loopw [8] (fun i wr => ∃ k : Nat, k ≤ 16 ∧ i = .int .i64 k ∧ Hid (Spr f w wr k)) (fun i _ => 16 - (intOf i).toNat)
  case atStart => exact ⟨0, Nat.zero_le _, rfl, Spr.start f w _ rfl _⟩
  case round =>
    obtain ⟨k, hk, rfl, X⟩ := hrel
    by_cases hlt : k < 16
    · have HN : Hid (∀ wx, Bytes wx a 64 f → Calls Tryz.prog 97 #[.slice a 64 64, .int .i64 ((k : Int) * 4), .int .i64 4] wx fun e w' => e = .returned (.int .i64 (wordB f k)) ∧ w' = wx) := fun wx hx => by
        have := numberAt_any a 64 64 f (4 * k) 4 wx hx (by omega) (by omega) (by omega) (by omega) (by omega)
        rw [show (((4 * k : Nat)) : Int) = (k : Int) * 4 by omega] at this
        exact this
      have wb := wordB_bd f hB.out.1 k
      have e1 : IntKind.u32.wrap (wordB f k) = wordB f k := by rw [IntKind.wrap_u32]; omega
      obtain ⟨u, hu⟩ := Option.isSome_iff_exists.1 (X.out.1.thr k (by omega)).1
      have hz := (X.out.1.thr k (by omega)).2
      have HW : Hid (wordB f k = sch f k) := (sch_low f k hlt).symm
      have HX : Hid (Bytes wr a 64 f) := hB.out.below X.out.1.bel (fun b off _ h2 => hL.out b off h2)
      go_wp2_with (go_at_call 97; (with_reducible refine (HN.out _ HX.out).mono ?_); rintro e w' ⟨rfl, hw⟩; subst hw)
      go_roundw
      case rel => exact ⟨k + 1, by omega, by go_num, X.out.set (by omega) _ HW.out⟩
      case measure => (simp [intOf]; try omega)
    · have X16 : Hid (Spr f w wr 16) := by
        rw [← show k = 16 by omega]; exact X
      have e16 : (k : Int) = 16 := by omega
      rw [e16]
      clear X e16 hlt hk
      go_wp2
      go_loopw [5] (fun i wr => ∃ k : Nat, 16 ≤ k ∧ k ≤ 64 ∧ i = .int .i64 k ∧ Hid (Spr f w wr k)) (fun i _ => 64 - (intOf i).toNat)
      case atStart => exact ⟨16, by omega, by omega, rfl, X16⟩
      case round =>
        clear X16
        obtain ⟨k, hk16, hk, rfl, X⟩ := hrel
        by_cases hlt : k < 64
        · have c2 := X.out.1.at_ (k - 2) (by omega)
          have c15 := X.out.1.at_ (k - 15) (by omega)
          have c16 := X.out.1.at_ (k - 16) (by omega)
          have c7 := X.out.1.at_ (k - 7) (by omega)
          obtain ⟨s2, hs2⟩ : ∃ s, s = sch f (k - 2) := ⟨_, rfl⟩
          obtain ⟨s15, hs15⟩ : ∃ s, s = sch f (k - 15) := ⟨_, rfl⟩
          obtain ⟨s16, hs16⟩ : ∃ s, s = sch f (k - 16) := ⟨_, rfl⟩
          obtain ⟨s7, hs7⟩ : ∃ s, s = sch f (k - 7) := ⟨_, rfl⟩
          have HS : Hid (sch f k = IntKind.u32.wrap (IntKind.u32.wrap (IntKind.u32.wrap (s16 + s7) + sg0 s15) + sg1 s2)) := by
            show _ = _
            rw [hs2, hs15, hs16, hs7]; exact sch_high f k hk16
          rw [← hs2] at c2
          rw [← hs15] at c15
          rw [← hs16] at c16
          rw [← hs7] at c7
          clear hs2 hs15 hs16 hs7
          have x2 : ((k : Int) - 2).toNat = k - 2 := by omega
          have x15 : ((k : Int) - 15).toNat = k - 15 := by omega
          have x16 : ((k : Int) - 16).toNat = k - 16 := by omega
          have x7 : ((k : Int) - 7).toNat = k - 7 := by omega
          have p2 : (0 : Int) ≤ (k : Int) - 2 := by omega
          have p15 : (0 : Int) ≤ (k : Int) - 15 := by omega
          have p16 : (0 : Int) ≤ (k : Int) - 16 := by omega
          have p7 : (0 : Int) ≤ (k : Int) - 7 := by omega
          have q2 : (k : Int) - 2 < 64 := by omega
          have q15 : (k : Int) - 15 < 64 := by omega
          have q16 : (k : Int) - 16 < 64 := by omega
          have q7 : (k : Int) - 7 < 64 := by omega
          have w2 : IntKind.i64.wrap ((k : Int) - 2) = (k : Int) - 2 := by rw [IntKind.wrap_i64]; omega
          have w15 : IntKind.i64.wrap ((k : Int) - 15) = (k : Int) - 15 := by rw [IntKind.wrap_i64]; omega
          have w16 : IntKind.i64.wrap ((k : Int) - 16) = (k : Int) - 16 := by rw [IntKind.wrap_i64]; omega
          have w7 : IntKind.i64.wrap ((k : Int) - 7) = (k : Int) - 7 := by rw [IntKind.wrap_i64]; omega
          obtain ⟨u, hu⟩ := Option.isSome_iff_exists.1 (X.out.1.thr k (by omega)).1
          have hz := (X.out.1.thr k (by omega)).2
          go_wp2
          go_quiet (fail)
          have X' : Hid (Spr f w (wr.drewN nq) k) := X.out.drewN nq
          have d16 : (wr.drewN nq).cell? ⟨w.heap.size + 1, k - 16, none⟩ = some (.int .u32 s16) := c16
          have d7 : (wr.drewN nq).cell? ⟨w.heap.size + 1, k - 7, none⟩ = some (.int .u32 s7) := c7
          have du : (wr.drewN nq).cell? ⟨w.heap.size + 1, k, none⟩ = some u := hu
          have dz : (wr.drewN nq).frozen? ⟨w.heap.size + 1, k, none⟩ = false := hz
          obtain ⟨wx, hwx⟩ : ∃ wx, wx = wr.drewN nq := ⟨_, rfl⟩
          rw [← hwx] at X' d16 d7 du dz
          rw [← hwx]
          clear hwx X c2 c15 c16 c7 hu hz
          have k16 : k ≠ k - 16 := by omega
          have k7 : k ≠ k - 7 := by omega
          have M : Hid (∀ v, ((wx.setCell ⟨w.heap.size + 1, k, none⟩ v).drew.cell? ⟨w.heap.size + 1, k - 16, none⟩ = some (.int .u32 s16)) ∧ ((wx.setCell ⟨w.heap.size + 1, k, none⟩ v).drew.cell? ⟨w.heap.size + 1, k - 7, none⟩ = some (.int .u32 s7))) := fun v =>
            ⟨(World.cell?_setCell_other wx ⟨w.heap.size + 1, k, none⟩ ⟨w.heap.size + 1, k - 16, none⟩ v (fun he => k16 (congrArg Addr.off he))).trans d16, (World.cell?_setCell_other wx ⟨w.heap.size + 1, k, none⟩ ⟨w.heap.size + 1, k - 7, none⟩ v (fun he => k7 (congrArg Addr.off he))).trans d7⟩
          have n1 : 7 ≤ k := by omega
          have n2 : k < 80 := by omega
          have n3 : k < 71 := by omega
          have n4 : (7 : Int) ≤ k := by omega
          have n5 : (16 : Int) ≤ k := by omega
          have n6 : (k : Int) < 80 := by omega
          have n7 : (k : Int) < 71 := by omega
          go_wp2
          go_region_held3 (fun w' => w'.cell? ⟨w.heap.size + 1, k - 16, none⟩ = some (.int .u32 s16) ∧ w'.cell? ⟨w.heap.size + 1, k - 7, none⟩ = some (.int .u32 s7)) (first | exact ⟨d16, d7⟩ | exact M.out _) ((go_at_call 98; (with_reducible refine (turnRight_any _ _ _ (by omega) (by omega)).mono ?_); rintro e w1 ⟨rfl, rfl⟩))
          all_goals
            have X2 : Hid (Spr f w (wx.setCell ⟨w.heap.size + 1, k, none⟩ (.int .u32 (IntKind.u32.wrap (IntKind.u32.wrap (IntKind.u32.wrap (s16 + s7) + bits BinOp.xor IntKind.u32 (bits BinOp.xor IntKind.u32 (rot s15 7) (rot s15 18)) (s15 / 8)) + bits BinOp.xor IntKind.u32 (bits BinOp.xor IntKind.u32 (rot s2 17) (rot s2 19)) (s2 / 1024))))).drew (k + 1)) := (X'.out.set (by omega) _ HS.out.symm).drew
            clear X' M d16 d7 du dz
            go_wp2
            go_roundw
            case rel => exact ⟨k + 1, by omega, by omega, by go_num, X2⟩
            case measure => (simp [intOf]; try omega)
        · have X64 : Hid (Spr f w wr 64) := by
            rw [← show k = 64 by omega]; exact X
          have e64 : (k : Int) = 64 := by omega
          rw [e64]
          clear X e64 hlt hk hk16
          have hr : Hid (wr.rangeAt (w.heap.size + 1) 0 (words (sch f) 64)) := X64.out.1.range
          have ht : Hid (wr.there w.heap.size 0 (words (sch f) 64).toArray.size) := by
            show wr.there w.heap.size 0 _
            rw [words_size]; exact X64.out.2.there
          have hi : Hid ((Tryz.prog.info? 126).map (·.size) = some (words (sch f) 64).length) := by
            show _ = _
            rw [words_len]; exact Tryz.size64
          have hi' : Hid ((Tryz.prog.info? 126).map (·.size) = some (words (sch f) 64).toArray.size) := by
            show _ = _
            rw [words_size]; exact Tryz.size64
          have h1 : Hid ((words (sch f) 64).toArray.all (·.oneCell') = true) := words_oneCell _ _
          have HB : Hid (Below w.heap.size w (wr.setCells w.heap.size 0 (words (sch f) 64).toArray.toList)) := below_setCells (Nat.le_refl _) _ _ _ X64.out.1.bel
          have HL : Hid ((loadVar 126 ⟨w.heap.size, 0, none⟩).run Tryz.prog (wr.setCells w.heap.size 0 (words (sch f) 64).toArray.toList) = .ok (.agg (words (sch f) 64).toArray) (wr.setCells w.heap.size 0 (words (sch f) 64).toArray.toList)) :=
            run_loadVar_mid _ _ _ _ (words (sch f) 64) _ (World.rangeAt_setCells_same wr _ _ _ (by have := ht.out; rw [words_size] at this; rw [words_len]; exact this)) Tryz.underlying126 rfl hi.out
          clear X64
          go_wp2_with (first | (refine wpList_load_mid rfl 126 _ rfl (w.heap.size + 1) 0 rfl (words (sch f) 64) _ hr.out Tryz.underlying126 rfl hi.out ?_) | (refine wpList_store_mid rfl 126 _ _ rfl w.heap.size 0 (words (sch f) 64).toArray rfl rfl ht.out hi'.out h1.out ?_))
          (try simp only [Exit.inBlock, Exit.then])
          exact bodyPost_ret (v := .agg (words (sch f) 64).toArray) (results_one rfl rfl HL.out) rfl ⟨rfl, HB.out⟩
end Go.Proofs.YtnlepjcjakghcaaGreatDoor

namespace Go.Proofs.YtnlepjcjakghcaaGreatDoor
open Go.RowKit Go.PlainAid
set_option linter.unusedVariables false
set_option maxRecDepth 20000

theorem Tryz.size8 : (Tryz.prog.info? 77).map (·.size) = some 8 := by kernel_rfl
/-- What mixBlock holds: the state that came in, the answer's row, the spread block, the state at hand. -/
structure MB (f s0 : Nat → Int) (w wr : World) (q : Nat) (cur : Nat → Int) : Prop where
  c2 : ∀ i, i < 8 → wr.cell? ⟨w.heap.size, i, none⟩ = some (.int .u32 (s0 i))
  free4 : Free wr (w.heap.size + 1) 8
  c5 : ∀ i, i < 64 → wr.cell? ⟨q, i, none⟩ = some (.int .u32 (sch f i))
  c6 : Arr w.heap.size w wr (q + 1) 8 8 cur
  hq : w.heap.size + 2 ≤ q

theorem size_setCells (q : Nat) : ∀ (vs : List Value) (o : Nat) (w : World), (w.setCells q o vs).heap.size = w.heap.size
  | [], o, w => rfl
  | v :: vs, o, w => by
    show ((w.setCell ⟨q, o, none⟩ v).setCells q (o + 1) vs).heap.size = _
    rw [size_setCells q vs (o + 1)]; simp
/-- A row stored whole. -/
theorem Arr.sets {base : Nat} {w wr : World} {q n : Nat} {g : Nat → Int} (hb : Below base w wr) (hf : Free wr q n) (hq : base ≤ q) : Arr base w (wr.setCells q 0 (words g n)) q n n g := by
  have hin : ∀ i, i < n → (wr.setCells q 0 (words g n)).cell? ⟨q, i, none⟩ = some (.int .u32 (g i)) := fun i hi => by
    have := World.rangeAt_setCells_same wr q 0 (words g n) (by rw [words_len]; exact hf.there) i _ (words_at g n i hi)
    rwa [Nat.zero_add] at this
  exact ⟨below_setCells hq _ _ _ hb, by rw [size_setCells]; exact hf.1, hin, fun i hi => ⟨by rw [hin i hi]; rfl, by rw [World.frozen?_setCells]; exact (hf.2 i hi).2⟩⟩
theorem cell_sets {wr : World} {q b i : Nat} (vs : List Value) (h : b ≠ q) : (wr.setCells q 0 vs).cell? ⟨b, i, none⟩ = wr.cell? ⟨b, i, none⟩ :=
  World.cell?_setCells_out _ _ _ _ _ (fun e => absurd e h)
theorem Free.sets {wr : World} {q b n : Nat} (h : Free wr b n) (vs : List Value) (hb : b ≠ q) : Free (wr.setCells q 0 vs) b n :=
  ⟨by rw [size_setCells]; exact h.1, fun i hi => by rw [cell_sets vs hb, World.frozen?_setCells]; exact h.2 i hi⟩
theorem Free.alloc {w : World} {q n : Nat} (h : Free w q n) (o : Obj) : Free (w.alloc o) q n := h.below ((Below.refl w.heap.size w).alloc (Nat.le_refl _) o) h.1

theorem mb_start {LS LW : List Value} {f s0 : Nat → Int} {w w1 : World} (B1 : Below w.heap.size w w1) (F4 : Free w1 (w.heap.size + 1) 8) (R2 : w1.rangeAt w.heap.size 0 LS) (z1 : w.heap.size + 2 ≤ w1.heap.size)
    (c64 : Array Value) (h64 : c64.size = 64) (t64 : TypeId) (c8 : Array Value) (h8 : c8.size = 8) (t8 : TypeId) (hLW : LW = words (sch f) 64) (hLS : LS = words s0 8) {W2 : World} (hW2 : W2 = (w1.alloc (.cells c64 t64)).setCells w1.heap.size 0 LW) :
    MB f s0 w ((W2.alloc (.cells c8 t8)).setCells W2.heap.size 0 LS) w1.heap.size s0 ∧ W2.heap.size = w1.heap.size + 1 := by
  have z2 : W2.heap.size = w1.heap.size + 1 := by rw [hW2, size_setCells]; simp
  have A5 : Arr w.heap.size w W2 w1.heap.size 64 64 (sch f) := by
    rw [hW2, hLW]
    have hf := Free.new w1 c64 t64
    rw [h64] at hf
    exact Arr.sets (B1.alloc (by omega) _) hf (by omega)
  have F4' : Free W2 (w.heap.size + 1) 8 := by
    rw [hW2]
    exact (F4.alloc _).sets _ (by omega)
  have C2 : ∀ i, i < 8 → W2.cell? ⟨w.heap.size, i, none⟩ = some (.int .u32 (s0 i)) := fun i hi => by
    rw [hW2, cell_sets _ (by omega), World.cell?_alloc_lt _ _ _ (by show w.heap.size < _; omega)]
    have := R2 i _ (by rw [hLS]; exact words_at s0 8 i hi)
    rwa [Nat.zero_add] at this
  have hf := Free.new W2 c8 t8
  rw [h8] at hf
  refine ⟨⟨fun i hi => ?_, (F4'.alloc _).sets _ (by omega), fun i hi => ?_, ?_, z1⟩, z2⟩
  · rw [cell_sets _ (by omega), World.cell?_alloc_lt _ _ _ (by show w.heap.size < _; omega)]; exact C2 i hi
  · rw [cell_sets _ (by omega), World.cell?_alloc_lt _ _ _ (by show w1.heap.size < _; omega)]; exact A5.at_ i hi
  · rw [← z2, hLS]
    exact Arr.sets (A5.bel.alloc (by have := A5.bel.size; omega) _) hf (by omega)

theorem all8 (e0 e1 e2 e3 e4 e5 e6 e7 : Int) : (#[Value.int .u32 e0, .int .u32 e1, .int .u32 e2, .int .u32 e3, .int .u32 e4, .int .u32 e5, .int .u32 e6, .int .u32 e7]).all (·.oneCell') = true := by simp [Value.oneCell']
/-- The words of the rounds lie in their variable. -/
def KTab (w : World) : Prop := ∀ i, i < 64 → w.cell? ⟨1, i, none⟩ = some (.int .u32 (KK i))
theorem KTab.below {w w' : World} (h : KTab w) (b : Below w.heap.size w w') : KTab w' := fun i hi => by
  rw [b.cell (World.block_lt_of_cell? w _ (h i hi))]
  exact h i hi
theorem MB.drewN {f s0 : Nat → Int} {w wr : World} {q : Nat} {cur : Nat → Int} (h : MB f s0 w wr q cur) (n : Nat) : MB f s0 w (wr.drewN n) q cur :=
  ⟨h.c2, h.free4, h.c5, ⟨⟨h.c6.bel.os, h.c6.bel.tape, h.c6.bel.output, h.c6.bel.size, h.c6.bel.block⟩, h.c6.lt, h.c6.at_, h.c6.thr⟩, h.hq⟩
theorem MB.drew {f s0 : Nat → Int} {w wr : World} {q : Nat} {cur : Nat → Int} (h : MB f s0 w wr q cur) : MB f s0 w wr.drew q cur :=
  ⟨h.c2, h.free4, h.c5, ⟨⟨h.c6.bel.os, h.c6.bel.tape, h.c6.bel.output, h.c6.bel.size, h.c6.bel.block⟩, h.c6.lt, h.c6.at_, h.c6.thr⟩, h.hq⟩
theorem MB.sets {f s0 : Nat → Int} {w wr : World} {q : Nat} {cur g : Nat → Int} (h : MB f s0 w wr q cur) (L : List Value) (hL : L = words g 8) : MB f s0 w (wr.setCells (q + 1) 0 L) q g := by
  subst hL
  have hq := h.hq
  exact ⟨fun i hi => by rw [cell_sets _ (by omega)]; exact h.c2 i hi, h.free4.sets _ (by omega), fun i hi => by rw [cell_sets _ (by omega)]; exact h.c5 i hi, Arr.sets h.c6.bel ⟨h.c6.lt, h.c6.thr⟩ (by omega), hq⟩

theorem MB.set {f s0 : Nat → Int} {w wr : World} {q : Nat} {c : Nat → Int} {k : Nat} (h : MB f s0 w wr q (fin8 c s0 k)) (hk : k < 8) (x : Int) (hx : x = (c k + s0 k) % 4294967296) : MB f s0 w (wr.setCell ⟨q + 1, k, none⟩ (.int .u32 x)) q (fin8 c s0 (k + 1)) := by
  subst hx
  have hq := h.hq
  have far : ∀ (b i : Nat), b ≠ q + 1 → (wr.setCell ⟨q + 1, k, none⟩ (.int .u32 ((c k + s0 k) % 4294967296))).cell? ⟨b, i, none⟩ = wr.cell? ⟨b, i, none⟩ := fun b i hb =>
    World.cell?_setCell_other _ _ _ _ (fun he => hb (congrArg Addr.block he).symm)
  refine ⟨fun i hi => by rw [far _ _ (by omega)]; exact h.c2 i hi, h.free4.set (by show q + 1 ≠ _; omega) _, fun i hi => by rw [far _ _ (by omega)]; exact h.c5 i hi, ⟨h.c6.bel.setCell (by show w.heap.size ≤ q + 1; omega) _, by simpa using h.c6.lt, fun i hi => ?_, fun i hi => ?_⟩, hq⟩
  · by_cases e : i = k
    · subst e
      rw [World.cell?_setCell_same _ _ _ (h.c6.at_ i hi), fin8, if_pos (by omega)]
    · rw [World.cell?_setCell_other _ _ _ _ (fun he => e (congrArg Addr.off he).symm), h.c6.at_ i hi]
      unfold fin8
      by_cases hik : i < k
      · rw [if_pos hik, if_pos (by omega)]
      · rw [if_neg hik, if_neg (by omega)]
  · refine ⟨?_, by rw [World.frozen?_setCell]; exact (h.c6.thr i hi).2⟩
    by_cases e : i = k
    · subst e
      rw [World.cell?_setCell_same _ _ _ (h.c6.at_ i hi)]; rfl
    · rw [World.cell?_setCell_other _ _ _ _ (fun he => e (congrArg Addr.off he).symm)]; exact (h.c6.thr i hi).1

set_option maxHeartbeats 2000000 in
theorem mixBlock_any (s0 : Nat → Int) (a : Option Addr) (f : Nat → Int) (w : World) (hT : KTab w) (h : Bytes w a 64 f) (hlt : ∀ b off, a = some ⟨b, off, none⟩ → b < w.heap.size) :
    Calls Tryz.prog 60 #[.agg (words s0 8).toArray, .slice a 64 64] w fun e w' => e = .returned (.agg (words (blk f s0) 8).toArray) ∧ Below w.heap.size w w' := by
  have hB : Hid (Bytes w a 64 f) := h
  have hL : Hid (∀ b off, a = some ⟨b, off, none⟩ → b < w.heap.size) := hlt
  have HT : Hid (KTab w) := hT
  clear h hlt hT
  obtain ⟨LS, hLS⟩ : ∃ L, L = words s0 8 := ⟨_, rfl⟩
  obtain ⟨LW, hLW⟩ : ∃ L, L = words (sch f) 64 := ⟨_, rfl⟩
  rw [← hLS]
  have hsp : Hid (∀ (w : World), Bytes w a 64 f → (∀ b off, a = some ⟨b, off, none⟩ → b < w.heap.size) → Calls Tryz.prog 85 #[.slice a 64 64] w fun e w' => e = .returned (.agg LW.toArray) ∧ Below w.heap.size w w') := fun w h1 h2 => by
    rw [hLW]; exact spreadBlock_any a f w h1 h2
  have sLW : Hid (LW.toArray.size = 64) := by show _ = _; rw [hLW]; exact words_size _ _
  have sLS : Hid (LS.length = 8) := by show _ = _; rw [hLS]; exact words_len _ _
  have sLS8 : Hid (LS.toArray.size = 8) := by show _ = _; rw [hLS]; exact words_size _ _
  have oLW : Hid (LW.toArray.all (·.oneCell') = true) := by show _ = _; rw [hLW]; exact words_oneCell _ _
  have oLS : Hid (LS.toArray.all (·.oneCell') = true) := by show _ = _; rw [hLS]; exact words_oneCell _ _
  have HLS : Hid (LS = words s0 8) := hLS
  have HLW : Hid (LW = words (sch f) 64) := hLW
  clear hLS hLW
  go_enter Tryz.func60, Tryz.ntmps60
  go_wp2_with fail
  obtain ⟨W0, hW0⟩ : ∃ W0, W0 = (w.alloc (.cells LS.toArray 77)).alloc (.cells #[.int .u32 0, .int .u32 0, .int .u32 0, .int .u32 0, .int .u32 0, .int .u32 0, .int .u32 0, .int .u32 0] 77) := ⟨_, rfl⟩
  rw [← hW0]
  have B0 : Hid (Below w.heap.size w W0) := by
    show Below _ _ _
    rw [hW0]; exact ((Below.refl _ _).alloc (Nat.le_refl _) _).alloc (by simp) _
  have z0 : W0.heap.size = w.heap.size + 2 := by rw [hW0]; simp
  have R2 : Hid (W0.rangeAt w.heap.size 0 LS) := by
    show World.rangeAt _ _ _ _
    intro j v hv
    rw [hW0, Nat.zero_add, World.cell?_alloc_lt _ _ _ (by simp), World.cell?_alloc_new]
    simpa using hv
  have F4 : Hid (Free W0 (w.heap.size + 1) 8) := by
    show Free _ _ _
    rw [hW0]
    have := Free.new (w.alloc (.cells LS.toArray 77)) #[.int .u32 0, .int .u32 0, .int .u32 0, .int .u32 0, .int .u32 0, .int .u32 0, .int .u32 0, .int .u32 0] 77
    simpa using this
  refine (hsp.out W0 (hB.out.below B0.out (fun b off _ h2 => hL.out b off h2)) (fun b off h2 => by have := hL.out b off h2; omega)).mono ?_
  rintro e w1 ⟨rfl, b1⟩
  have R2' : Hid (w1.rangeAt w.heap.size 0 LS) := fun j v hv => by rw [b1.cell (p := ⟨w.heap.size, 0 + j, none⟩) (by show w.heap.size < _; omega)]; exact R2.out j v hv
  have F4' : Hid (Free w1 (w.heap.size + 1) 8) := F4.out.below b1 (by omega)
  have B1 : Hid (Below w.heap.size w w1) := B0.out.trans (b1.mono (by omega))
  have z1 : w.heap.size + 2 ≤ w1.heap.size := by have := b1.size; omega
  clear R2 F4 B0 b1 hB hL z0 hW0 hsp
  have R3 : Hid (∀ (o : Obj) (V : List Value), ((w1.alloc o).setCells w1.heap.size 0 V).rangeAt w.heap.size 0 LS) := fun o V j v hv => by
    rw [World.cell?_setCells_out _ _ _ _ _ (fun h => by have : w.heap.size = w1.heap.size := h; omega), World.cell?_alloc_lt _ _ _ (by show w.heap.size < _; omega)]
    exact R2'.out j v hv
  go_wp2_with (first
    | (refine wpList_store_mid rfl 126 _ _ rfl _ 0 LW.toArray rfl rfl (there_new _ _ _ _ sLW.out.symm) (by rw [sLW.out]; exact Tryz.size64) oLW.out ?_)
    | (refine wpList_load_mid rfl 77 _ rfl w.heap.size 0 rfl LS _ (R3.out _ _) Tryz.underlying77 rfl (by rw [sLS.out]; exact Tryz.size8) ?_)
    | (refine wpList_store_mid rfl 77 _ _ rfl _ 0 LS.toArray rfl rfl (there_new _ _ _ _ sLS8.out.symm) (by rw [sLS8.out]; exact Tryz.size8) oLS.out ?_))
  obtain ⟨W2, hW2⟩ : ∃ W2, W2 = (w1.alloc (.cells #[.int .u32 0, .int .u32 0, .int .u32 0, .int .u32 0, .int .u32 0, .int .u32 0, .int .u32 0, .int .u32 0, .int .u32 0, .int .u32 0, .int .u32 0, .int .u32 0, .int .u32 0, .int .u32 0, .int .u32 0, .int .u32 0, .int .u32 0, .int .u32 0, .int .u32 0, .int .u32 0, .int .u32 0, .int .u32 0, .int .u32 0, .int .u32 0, .int .u32 0, .int .u32 0, .int .u32 0, .int .u32 0, .int .u32 0, .int .u32 0, .int .u32 0, .int .u32 0, .int .u32 0, .int .u32 0, .int .u32 0, .int .u32 0, .int .u32 0, .int .u32 0, .int .u32 0, .int .u32 0, .int .u32 0, .int .u32 0, .int .u32 0, .int .u32 0, .int .u32 0, .int .u32 0, .int .u32 0, .int .u32 0, .int .u32 0, .int .u32 0, .int .u32 0, .int .u32 0, .int .u32 0, .int .u32 0, .int .u32 0, .int .u32 0, .int .u32 0, .int .u32 0, .int .u32 0, .int .u32 0, .int .u32 0, .int .u32 0, .int .u32 0, .int .u32 0] 126)).setCells w1.heap.size 0 LW := ⟨_, rfl⟩
  rw [← hW2]
  have M0 : MB f s0 w ((W2.alloc (.cells #[.int .u32 0, .int .u32 0, .int .u32 0, .int .u32 0, .int .u32 0, .int .u32 0, .int .u32 0, .int .u32 0] 77)).setCells W2.heap.size 0 LS) w1.heap.size s0 ∧ W2.heap.size = w1.heap.size + 1 := by
    exact mb_start B1.out F4'.out R2'.out z1 #[.int .u32 0, .int .u32 0, .int .u32 0, .int .u32 0, .int .u32 0, .int .u32 0, .int .u32 0, .int .u32 0, .int .u32 0, .int .u32 0, .int .u32 0, .int .u32 0, .int .u32 0, .int .u32 0, .int .u32 0, .int .u32 0, .int .u32 0, .int .u32 0, .int .u32 0, .int .u32 0, .int .u32 0, .int .u32 0, .int .u32 0, .int .u32 0, .int .u32 0, .int .u32 0, .int .u32 0, .int .u32 0, .int .u32 0, .int .u32 0, .int .u32 0, .int .u32 0, .int .u32 0, .int .u32 0, .int .u32 0, .int .u32 0, .int .u32 0, .int .u32 0, .int .u32 0, .int .u32 0, .int .u32 0, .int .u32 0, .int .u32 0, .int .u32 0, .int .u32 0, .int .u32 0, .int .u32 0, .int .u32 0, .int .u32 0, .int .u32 0, .int .u32 0, .int .u32 0, .int .u32 0, .int .u32 0, .int .u32 0, .int .u32 0, .int .u32 0, .int .u32 0, .int .u32 0, .int .u32 0, .int .u32 0, .int .u32 0, .int .u32 0, .int .u32 0] rfl _ #[.int .u32 0, .int .u32 0, .int .u32 0, .int .u32 0, .int .u32 0, .int .u32 0, .int .u32 0, .int .u32 0] rfl _ HLW.out HLS.out hW2
  obtain ⟨M0, z2⟩ := M0
  have X : Hid (MB f s0 w ((W2.alloc (.cells #[.int .u32 0, .int .u32 0, .int .u32 0, .int .u32 0, .int .u32 0, .int .u32 0, .int .u32 0, .int .u32 0] 77)).setCells W2.heap.size 0 LS) w1.heap.size s0) := M0
  obtain ⟨W3, hW3⟩ : ∃ W3, W3 = (W2.alloc (.cells #[.int .u32 0, .int .u32 0, .int .u32 0, .int .u32 0, .int .u32 0, .int .u32 0, .int .u32 0, .int .u32 0] 77)).setCells W2.heap.size 0 LS := ⟨_, rfl⟩
  rw [← hW3] at X
  rw [← hW3, z2]
  clear hW3 hW2 M0 R3 R2' F4' B1 z2
  obtain ⟨q, hq⟩ : ∃ q, q = w1.heap.size := ⟨_, rfl⟩
  rw [← hq] at X
  rw [← hq]
  clear hq z1 sLW sLS sLS8 oLW oLS HLS HLW
  go_loopw [14] (fun i wr => ∃ k : Nat, k ≤ 64 ∧ i = .int .i64 k ∧ Hid (MB f s0 w wr q (stR f s0 k))) (fun i _ => 64 - (intOf i).toNat)
  case atStart => exact ⟨0, Nat.zero_le _, rfl, X⟩
  case round =>
    clear X
    obtain ⟨k, hk, rfl, X⟩ := hrel
    by_cases hlt : k < 64
    · have HK : Hid (KTab wr) := (HT.out.below X.out.c6.bel)
      have cK := HK.out k hlt
      have cW := X.out.c5 k hlt
      have k0 : (0 : Int) ≤ (k : Int) := by omega
      have k1 : (k : Int) < 64 := by omega
      have HR : Hid (stR f s0 (k + 1) = rnd (KK k) (sch f k) (stR f s0 k)) := rfl
      obtain ⟨cur, hcur⟩ : ∃ c, c = stR f s0 k := ⟨_, rfl⟩
      obtain ⟨kc, hkc⟩ : ∃ z, z = KK k := ⟨_, rfl⟩
      obtain ⟨wc, hwc⟩ : ∃ z, z = sch f k := ⟨_, rfl⟩
      rw [← hcur, ← hkc, ← hwc] at HR
      rw [← hkc] at cK
      rw [← hwc] at cW
      rw [← hcur] at X
      clear hcur hkc hwc
      have c0 := X.out.c6.at_ 0 (by omega)
      have c1 := X.out.c6.at_ 1 (by omega)
      have c2 := X.out.c6.at_ 2 (by omega)
      have c3 := X.out.c6.at_ 3 (by omega)
      have c4 := X.out.c6.at_ 4 (by omega)
      have c5 := X.out.c6.at_ 5 (by omega)
      have c6 := X.out.c6.at_ 6 (by omega)
      have c7 := X.out.c6.at_ 7 (by omega)
      go_wp2
      go_quiet ((go_at_call 86; exact Calls.quiet_of_same (turnSum_any _ _ _ _ _ (by omega) (by omega) (by omega) (by omega) (by omega) (by omega))))
      have X1 : Hid (MB f s0 w (wr.drewN nq) q cur) := X.out.drewN nq
      obtain ⟨wx, hwx⟩ : ∃ wx, wx = wr.drewN nq := ⟨_, rfl⟩
      rw [← hwx] at X1
      rw [← hwx]
      clear hwx X cK cW c0 c1 c2 c3 c4 c5 c6 c7 HK
      have c0 := X1.out.c6.at_ 0 (by omega)
      have c1 := X1.out.c6.at_ 1 (by omega)
      have c2 := X1.out.c6.at_ 2 (by omega)
      have c3 := X1.out.c6.at_ 3 (by omega)
      have c4 := X1.out.c6.at_ 4 (by omega)
      have c5 := X1.out.c6.at_ 5 (by omega)
      have c6 := X1.out.c6.at_ 6 (by omega)
      have c7 := X1.out.c6.at_ 7 (by omega)
      go_wp2
      go_quiet ((go_at_call 86; exact Calls.quiet_of_same (turnSum_any _ _ _ _ _ (by omega) (by omega) (by omega) (by omega) (by omega) (by omega))))
      have X2 : Hid (MB f s0 w (wx.drewN nq) q cur) := X1.out.drewN nq
      obtain ⟨wy, hwy⟩ : ∃ wx', wx' = wx.drewN nq := ⟨_, rfl⟩
      rw [← hwy] at X2
      rw [← hwy]
      clear hwy X1 c0 c1 c2 c3 c4 c5 c6 c7
      have c0 := X2.out.c6.at_ 0 (by omega)
      have c1 := X2.out.c6.at_ 1 (by omega)
      have c2 := X2.out.c6.at_ 2 (by omega)
      have c3 := X2.out.c6.at_ 3 (by omega)
      have c4 := X2.out.c6.at_ 4 (by omega)
      have c5 := X2.out.c6.at_ 5 (by omega)
      have c6 := X2.out.c6.at_ 6 (by omega)
      have c7 := X2.out.c6.at_ 7 (by omega)
      have ht : Hid (wy.there (q + 1) 0 8) := (show Free wy (q + 1) 8 from ⟨X2.out.c6.lt, X2.out.c6.thr⟩).there
      go_wp2_with (refine wpList_store_mid rfl 77 _ _ rfl (q + 1) 0 _ rfl rfl ?sa ?sb ?sc ?sd; (case sa => exact ht.out); (case sb => exact Tryz.size8); (case sc => exact all8 _ _ _ _ _ _ _ _))
      go_roundw
      case rel =>
        refine ⟨k + 1, by omega, by go_num, X2.out.sets _ (words8 ?_ ?_ ?_ ?_ ?_ ?_ ?_ ?_)⟩
        · rw [HR.out]
          show _ = (dnm (cur 4) (cur 5) (cur 6) (cur 7) kc wc + upm (cur 0) (cur 1) (cur 2)) % 4294967296
          unfold dnm upm chm mjm
          omega
        · rw [HR.out]; rfl
        · rw [HR.out]; rfl
        · rw [HR.out]; rfl
        · rw [HR.out]
          show _ = (cur 3 + dnm (cur 4) (cur 5) (cur 6) (cur 7) kc wc) % 4294967296
          unfold dnm chm
          omega
        · rw [HR.out]; rfl
        · rw [HR.out]; rfl
        · rw [HR.out]; rfl
      case measure => (simp [intOf]; try omega)
    · have X64 : Hid (MB f s0 w wr q (fin8 (stR f s0 64) s0 0)) := by
        rw [show k = 64 by omega] at X
        exact X
      have e64 : (k : Int) = 64 := by omega
      rw [e64]
      clear X e64 hlt hk HT
      obtain ⟨c, hc⟩ : ∃ c, c = stR f s0 64 := ⟨_, rfl⟩
      have HC : Hid (c = stR f s0 64) := hc
      rw [← hc] at X64
      clear hc
      go_wp2
      go_loopw [86] (fun i wr => ∃ k : Nat, k ≤ 8 ∧ i = .int .i64 k ∧ Hid (MB f s0 w wr q (fin8 c s0 k))) (fun i _ => 8 - (intOf i).toNat)
      case atStart => exact ⟨0, Nat.zero_le _, rfl, X64⟩
      case round =>
        clear X64
        obtain ⟨k, hk, rfl, X⟩ := hrel
        by_cases hlt : k < 8
        · have d6 := X.out.c6.at_ k hlt
          have d6' : fin8 c s0 k k = c k := by unfold fin8; rw [if_neg (by omega)]
          rw [d6'] at d6
          have d2 := X.out.c2 k hlt
          have dz := (X.out.c6.thr k hlt).2
          have k0 : (0 : Int) ≤ (k : Int) := by omega
          have k1 : (k : Int) < 8 := by omega
          have hq := X.out.hq
          have nq : q + 1 ≠ w.heap.size := by omega
          clear d6'
          obtain ⟨ck, hck⟩ : ∃ z, z = c k := ⟨_, rfl⟩
          obtain ⟨sk, hsk⟩ : ∃ z, z = s0 k := ⟨_, rfl⟩
          have HS : Hid (ck = c k ∧ sk = s0 k) := ⟨hck, hsk⟩
          rw [← hck] at d6
          rw [← hsk] at d2
          clear hck hsk
          go_wp2
          go_region
          have X2 : Hid (MB f s0 w (wr.setCell ⟨q + 1, k, none⟩ (.int .u32 ((ck + sk) % 4294967296))).drew q (fin8 c s0 (k + 1))) := (X.out.set hlt _ (by rw [HS.out.1, HS.out.2])).drew
          clear X d6 d2 dz HS
          go_wp2
          go_roundw
          case rel => exact ⟨k + 1, by omega, by go_num, X2⟩
          case measure => (simp [intOf]; try omega)
        · have X8 : Hid (MB f s0 w wr q (fin8 c s0 8)) := by
            rw [← show k = 8 by omega]; exact X
          have e8 : (k : Int) = 8 := by omega
          rw [e8]
          clear X e8 hlt hk
          have hq := X8.out.hq
          obtain ⟨LB, hLB⟩ : ∃ L, L = words (fin8 c s0 8) 8 := ⟨_, rfl⟩
          have HLB : Hid (LB = words (blk f s0) 8) := by
            show LB = _
            rw [hLB]
            exact words_congr fun i hi => by rw [fin8, if_pos hi, HC.out]; rfl
          have hr : Hid (wr.rangeAt (q + 1) 0 LB) := by rw [hLB]; exact X8.out.c6.range
          have sLB : Hid (LB.length = 8) := by rw [hLB]; exact words_len _ _
          have sLB8 : Hid (LB.toArray.size = 8) := by rw [hLB]; exact words_size _ _
          have oLB : Hid (LB.toArray.all (·.oneCell') = true) := by rw [hLB]; exact words_oneCell _ _
          have ht : Hid (wr.there (w.heap.size + 1) 0 LB.toArray.size) := by
            show wr.there _ _ _
            rw [sLB8.out]; exact X8.out.free4.there
          have HB : Hid (Below w.heap.size w (wr.setCells (w.heap.size + 1) 0 LB)) := below_setCells (by omega) _ _ _ X8.out.c6.bel
          have HL : Hid ((loadVar 77 ⟨w.heap.size + 1, 0, none⟩).run Tryz.prog (wr.setCells (w.heap.size + 1) 0 LB) = .ok (.agg LB.toArray) (wr.setCells (w.heap.size + 1) 0 LB)) :=
            run_loadVar_mid _ _ _ _ LB _ (World.rangeAt_setCells_same wr _ _ _ (by rw [sLB.out]; exact X8.out.free4.there)) Tryz.underlying77 rfl (by rw [sLB.out]; exact Tryz.size8)
          clear X8 hLB
          go_wp2_with (first
            | (refine wpList_load_mid rfl 77 _ rfl (q + 1) 0 rfl LB _ hr.out Tryz.underlying77 rfl (by rw [sLB.out]; exact Tryz.size8) ?_)
            | (refine wpList_store_mid rfl 77 _ _ rfl (w.heap.size + 1) 0 LB.toArray rfl rfl ht.out (by rw [sLB8.out]; exact Tryz.size8) oLB.out ?_))
          (try simp only [Exit.inBlock, Exit.then])
          exact bodyPost_ret (v := .agg LB.toArray) (results_one rfl rfl HL.out) rfl ⟨by rw [HLB.out], HB.out⟩
end Go.Proofs.YtnlepjcjakghcaaGreatDoor

namespace Go.Proofs.YtnlepjcjakghcaaGreatDoor
open Go.RowKit Go.PlainAid
set_option linter.unusedVariables false
set_option maxRecDepth 20000

/-- The state at hand, and the answer's row. -/
structure MS (w wr : World) (cur : Nat → Int) : Prop where
  c2 : Arr w.heap.size w wr w.heap.size 8 8 cur
  free4 : Free wr (w.heap.size + 1) 8
theorem MS.drew {w wr : World} {cur : Nat → Int} (h : MS w wr cur) : MS w wr.drew cur :=
  ⟨⟨⟨h.c2.bel.os, h.c2.bel.tape, h.c2.bel.output, h.c2.bel.size, h.c2.bel.block⟩, h.c2.lt, h.c2.at_, h.c2.thr⟩, h.free4⟩
theorem MS.below {w wr w' : World} {cur : Nat → Int} (h : MS w wr cur) (b : Below wr.heap.size wr w') : MS w w' cur := by
  have l2 := h.c2.lt
  have l4 := h.free4.1
  refine ⟨⟨h.c2.bel.trans (b.mono (by omega)), Nat.lt_of_lt_of_le l2 b.size, fun i hi => ?_, fun i hi => ?_⟩, h.free4.below b l4⟩
  · rw [b.cell (p := ⟨w.heap.size, i, none⟩) l2]; exact h.c2.at_ i hi
  · rw [b.cell (p := ⟨w.heap.size, i, none⟩) l2, b.frozen (p := ⟨w.heap.size, i, none⟩) l2]; exact h.c2.thr i hi
theorem MS.sets {w wr : World} {cur g : Nat → Int} (h : MS w wr cur) (L : List Value) (hL : L = words g 8) : MS w (wr.setCells w.heap.size 0 L) g := by
  subst hL
  exact ⟨Arr.sets h.c2.bel ⟨h.c2.lt, h.c2.thr⟩ (Nat.le_refl _), h.free4.sets _ (by omega)⟩

set_option maxHeartbeats 2000000 in
theorem mixBlocks_any (s0 : Nat → Int) (a : Option Addr) (n cap : Nat) (f : Nat → Int) (w : World) (hn : n ≤ 2000) (hc : 64 * n ≤ cap) (hx : cap ≤ 9223372036854775807) (hT : KTab w) (h : Bytes w a (64 * n) f) (hlt : ∀ b off, 0 < n → a = some ⟨b, off, none⟩ → b < w.heap.size) :
    Calls Tryz.prog 38 #[.agg (words s0 8).toArray, .slice a ((64 * n : Nat)) cap] w fun e w' => e = .returned (.agg (words (stB f s0 n) 8).toArray) ∧ Below w.heap.size w w' := by
  have hB : Hid (Bytes w a (64 * n) f) := h
  have hL : Hid (∀ b off, 0 < n → a = some ⟨b, off, none⟩ → b < w.heap.size) := hlt
  have HT : Hid (KTab w) := hT
  clear h hlt hT
  obtain ⟨len, hlen⟩ : ∃ l, l = 64 * n := ⟨_, rfl⟩
  rw [← hlen] at hc
  rw [← hlen]
  have HN : Hid (len = 64 * n) := hlen
  have hl : len ≤ 128000 := by omega
  clear hlen
  have M0 : Hid (MS w ((w.alloc (.cells (words s0 8).toArray 77)).alloc (.cells #[.int .u32 0, .int .u32 0, .int .u32 0, .int .u32 0, .int .u32 0, .int .u32 0, .int .u32 0, .int .u32 0] 77)) (stB f s0 0)) := by
    have F2 := Free.new w (words s0 8).toArray 77
    rw [words_size] at F2
    have F4 := Free.new (w.alloc (.cells (words s0 8).toArray 77)) #[.int .u32 0, .int .u32 0, .int .u32 0, .int .u32 0, .int .u32 0, .int .u32 0, .int .u32 0, .int .u32 0] 77
    have z1 : (w.alloc (.cells (words s0 8).toArray 77)).heap.size = w.heap.size + 1 := by simp
    rw [z1] at F4
    have F2' := F2.alloc (.cells #[.int .u32 0, .int .u32 0, .int .u32 0, .int .u32 0, .int .u32 0, .int .u32 0, .int .u32 0, .int .u32 0] 77)
    refine ⟨⟨((Below.refl _ _).alloc (Nat.le_refl _) _).alloc (by simp) _, F2'.1, fun i hi => ?_, F2'.2⟩, F4⟩
    rw [World.cell?_alloc_lt _ _ _ (by simp), World.cell?_alloc_new]
    have := words_at s0 8 i hi
    show _ = some (Value.int .u32 (s0 i))
    simpa using this
  obtain ⟨LS, hLS⟩ : ∃ L, L = words s0 8 := ⟨_, rfl⟩
  rw [← hLS]
  rw [← hLS] at M0
  clear hLS
  go_enter Tryz.func38, Tryz.ntmps38
  go_wp2
  go_loopw [5] (fun i wr => ∃ k : Nat, k ≤ n ∧ i = .int .i64 (64 * (k : Int)) ∧ Hid (MS w wr (stB f s0 k))) (fun i _ => len - (intOf i).toNat)
  case atStart => exact ⟨0, Nat.zero_le _, rfl, M0⟩
  case round =>
    clear M0
    obtain ⟨k, hk, rfl, X⟩ := hrel
    by_cases hlt : k < n
    · have l1 : (64 * (k : Int)) < (len : Int) := by have := HN.out; omega
      obtain ⟨b, off, ha, -⟩ := hB.out.2 (by have := HN.out; omega)
      have HP : Hid (∀ wx, Calls Tryz.prog 61 #[.slice (some ⟨b, off, none⟩) len cap, .int .i64 (64 * (k : Int)), .int .i64 64] wx fun e w' => e = .returned (.slice (some ⟨b, off + 64 * k, none⟩) 64 64) ∧ w' = wx) := fun wx => by
        have := part_any b off len cap (64 * k) 64 wx (by have := HN.out; omega) hx
        rw [show (((64 * k : Nat)) : Int) = 64 * (k : Int) by omega] at this
        exact this.mono fun e w' ⟨a', he, h1, h2⟩ => ⟨by rw [he, h1 (by omega)], h2⟩
      obtain ⟨cur, hcur⟩ : ∃ c, c = stB f s0 k := ⟨_, rfl⟩
      have HR : Hid (stB f s0 (k + 1) = blk (fun j => f (64 * k + j)) cur) := by show _ = _; rw [hcur]; rfl
      rw [← hcur] at X
      clear hcur
      have HM : Hid (∀ wx, MS w wx cur → Calls Tryz.prog 60 #[.agg #[.int .u32 (cur 0), .int .u32 (cur 1), .int .u32 (cur 2), .int .u32 (cur 3), .int .u32 (cur 4), .int .u32 (cur 5), .int .u32 (cur 6), .int .u32 (cur 7)], .slice (some ⟨b, off + 64 * k, none⟩) 64 64] wx fun e w' => e = .returned (.agg #[.int .u32 (stB f s0 (k + 1) 0), .int .u32 (stB f s0 (k + 1) 1), .int .u32 (stB f s0 (k + 1) 2), .int .u32 (stB f s0 (k + 1) 3), .int .u32 (stB f s0 (k + 1) 4), .int .u32 (stB f s0 (k + 1) 5), .int .u32 (stB f s0 (k + 1) 6), .int .u32 (stB f s0 (k + 1) 7)]) ∧ Below wx.heap.size wx w') := fun wx hm => by
        rw [HR.out]
        have hby : Bytes wx (some ⟨b, off, none⟩) (64 * n) f := by rw [← ha]; exact hB.out.below hm.c2.bel (fun b' off' _ h2 => hL.out b' off' (by omega) h2)
        have bl := hL.out b off (by omega) ha
        exact mixBlock_any cur (some ⟨b, off + 64 * k, none⟩) (fun j => f (64 * k + j)) wx (HT.out.below hm.c2.bel) (hby.part (64 * k) 64 (by omega) _ (fun _ => rfl)) (fun b' off' h2 => by cases h2; have := hm.c2.lt; omega)
      obtain ⟨nx, hnx⟩ : ∃ c, c = stB f s0 (k + 1) := ⟨_, rfl⟩
      have HNX : Hid (nx = stB f s0 (k + 1)) := hnx
      rw [← hnx] at HM
      clear hnx
      have c0 := X.out.c2.at_ 0 (by omega)
      have c1 := X.out.c2.at_ 1 (by omega)
      have c2 := X.out.c2.at_ 2 (by omega)
      have c3 := X.out.c2.at_ 3 (by omega)
      have c4 := X.out.c2.at_ 4 (by omega)
      have c5 := X.out.c2.at_ 5 (by omega)
      have c6 := X.out.c2.at_ 6 (by omega)
      have c7 := X.out.c2.at_ 7 (by omega)
      subst ha
      go_wp2
      go_region_with (first
        | (go_at_call 61; (with_reducible refine (HP.out _).mono ?_); rintro e w' ⟨rfl, rfl⟩)
        | (go_at_call 60; (with_reducible refine (HM.out _ X.out.drew).mono ?_); rintro e w2 ⟨rfl, b2⟩; have X2 : Hid (MS w w2 cur) := X.out.drew.below b2; clear b2; have d0 := X2.out.c2.at_ 0 (by omega); have y0 := (X2.out.c2.thr 0 (by omega)).2; have d1 := X2.out.c2.at_ 1 (by omega); have y1 := (X2.out.c2.thr 1 (by omega)).2; have d2 := X2.out.c2.at_ 2 (by omega); have y2 := (X2.out.c2.thr 2 (by omega)).2; have d3 := X2.out.c2.at_ 3 (by omega); have y3 := (X2.out.c2.thr 3 (by omega)).2; have d4 := X2.out.c2.at_ 4 (by omega); have y4 := (X2.out.c2.thr 4 (by omega)).2; have d5 := X2.out.c2.at_ 5 (by omega); have y5 := (X2.out.c2.thr 5 (by omega)).2; have d6 := X2.out.c2.at_ 6 (by omega); have y6 := (X2.out.c2.thr 6 (by omega)).2; have d7 := X2.out.c2.at_ 7 (by omega); have y7 := (X2.out.c2.thr 7 (by omega)).2;  clear X c0 c1 c2 c3 c4 c5 c6 c7))
      all_goals
        have X3 : Hid (MS w ((((((((w2.setCell ⟨w.heap.size, 0, none⟩ (.int .u32 (nx 0))).setCell ⟨w.heap.size, 1, none⟩ (.int .u32 (nx 1))).setCell ⟨w.heap.size, 2, none⟩ (.int .u32 (nx 2))).setCell ⟨w.heap.size, 3, none⟩ (.int .u32 (nx 3))).setCell ⟨w.heap.size, 4, none⟩ (.int .u32 (nx 4))).setCell ⟨w.heap.size, 5, none⟩ (.int .u32 (nx 5))).setCell ⟨w.heap.size, 6, none⟩ (.int .u32 (nx 6))).setCell ⟨w.heap.size, 7, none⟩ (.int .u32 (nx 7))) nx) := X2.out.sets (g := nx) [.int .u32 (nx 0), .int .u32 (nx 1), .int .u32 (nx 2), .int .u32 (nx 3), .int .u32 (nx 4), .int .u32 (nx 5), .int .u32 (nx 6), .int .u32 (nx 7)] (words8 rfl rfl rfl rfl rfl rfl rfl rfl)
        clear X2 d0 d1 d2 d3 d4 d5 d6 d7 y0 y1 y2 y3 y4 y5 y6 y7
        go_wp2
        go_roundw
        case rel => exact ⟨k + 1, by omega, by go_num, by rw [← HNX.out]; exact X3⟩
        case measure => (simp [intOf]; try omega)
    · have ek : k = n := by omega
      have l2 : ¬ (64 * (k : Int)) < (len : Int) := by have := HN.out; omega
      have XN : Hid (MS w wr (stB f s0 n)) := by rw [← ek]; exact X
      clear X ek hk hlt HT hB hL
      obtain ⟨LB, hLB⟩ : ∃ L, L = words (stB f s0 n) 8 := ⟨_, rfl⟩
      have hr : Hid (wr.rangeAt w.heap.size 0 LB) := by rw [hLB]; exact XN.out.c2.range
      have sLB : Hid (LB.length = 8) := by rw [hLB]; exact words_len _ _
      have sLB8 : Hid (LB.toArray.size = 8) := by rw [hLB]; exact words_size _ _
      have oLB : Hid (LB.toArray.all (·.oneCell') = true) := by rw [hLB]; exact words_oneCell _ _
      have ht : Hid (wr.there (w.heap.size + 1) 0 LB.toArray.size) := by
        show wr.there _ _ _
        rw [sLB8.out]; exact XN.out.free4.there
      have HB : Hid (Below w.heap.size w (wr.setCells (w.heap.size + 1) 0 LB)) := below_setCells (by omega) _ _ _ XN.out.c2.bel
      have HL : Hid ((loadVar 77 ⟨w.heap.size + 1, 0, none⟩).run Tryz.prog (wr.setCells (w.heap.size + 1) 0 LB) = .ok (.agg LB.toArray) (wr.setCells (w.heap.size + 1) 0 LB)) :=
        run_loadVar_mid _ _ _ _ LB _ (World.rangeAt_setCells_same wr _ _ _ (by rw [sLB.out]; exact XN.out.free4.there)) Tryz.underlying77 rfl (by rw [sLB.out]; exact Tryz.size8)
      have HLB : Hid (LB = words (stB f s0 n) 8) := hLB
      clear XN hLB
      go_wp2_with (first
        | (refine wpList_load_mid rfl 77 _ rfl w.heap.size 0 rfl LB _ hr.out Tryz.underlying77 rfl (by rw [sLB.out]; exact Tryz.size8) ?_)
        | (refine wpList_store_mid rfl 77 _ _ rfl (w.heap.size + 1) 0 LB.toArray rfl rfl ht.out (by rw [sLB8.out]; exact Tryz.size8) oLB.out ?_))
      (try simp only [Exit.inBlock, Exit.then])
      exact bodyPost_ret (v := .agg LB.toArray) (results_one rfl rfl HL.out) rfl ⟨by rw [HLB.out], HB.out⟩
end Go.Proofs.YtnlepjcjakghcaaGreatDoor

namespace Go.Proofs.YtnlepjcjakghcaaGreatDoor
open Go.RowKit Go.PlainAid
set_option linter.unusedVariables false

/-- How many noughts stand behind m bytes. -/
def padN (m : Nat) : Nat := (120 - m % 64) % 64
theorem padN_is (m : Nat) : (m + padN m) % 64 = 56 := by unfold padN; omega
theorem padN_min (m k : Nat) (hk : k < padN m) : (m + k) % 64 ≠ 56 := by unfold padN at hk; omega
theorem padN_lt (m : Nat) : padN m < 64 := by unfold padN; omega
theorem padN_mod (m : Nat) : padN (m % 64 + 1) = padN (m + 1) := by unfold padN; omega
/-- The mark, noughts, the length in bits. -/
def tailL (m n : Nat) : List Int := [128] ++ List.replicate (padN (m + 1)) 0 ++ nbl 0 4 ++ nbl (8 * (n : Int)) 4
theorem tailL_len (m n : Nat) : (tailL m n).length = 9 + padN (m + 1) := by simp [tailL, nbl_len]; omega
theorem tailL_bd (m n : Nat) : ∀ x ∈ tailL m n, 0 ≤ x ∧ x ≤ 255 := by
  intro x hx
  simp only [tailL, List.mem_append, List.mem_singleton] at hx
  rcases hx with ((h | h) | h) | h
  · subst h; omega
  · rw [List.eq_of_mem_replicate h]; omega
  · exact nbl_bd _ _ x h
  · exact nbl_bd _ _ x h
/-- All of it. -/
def allL (f : Nat → Int) (n : Nat) : List Int := (List.range n).map f ++ tailL n n
theorem allL_len (f : Nat → Int) (n : Nat) : (allL f n).length = n + 9 + padN (n + 1) := by simp [allL, tailL_len]; omega
theorem allL_bd (f : Nat → Int) (n : Nat) (h : ∀ k, 0 ≤ f k ∧ f k ≤ 255) : ∀ x ∈ allL f n, 0 ≤ x ∧ x ≤ 255 := by
  intro x hx
  rcases List.mem_append.1 hx with h' | h'
  · obtain ⟨j, _, rfl⟩ := List.mem_map.1 h'; exact h j
  · exact tailL_bd _ _ x h'
/-- What is hashed, by its place. -/
def allF (f : Nat → Int) (n : Nat) (j : Nat) : Int := (allL f n).getD j 0
theorem allF_low (f : Nat → Int) (n j : Nat) (h : j < n) : allF f n j = f j := by
  unfold allF allL
  rw [List.getD_eq_getElem?_getD, List.getElem?_append_left (by simpa using h)]
  simp [h]
/-- The rest of the text behind its whole blocks, and what stands behind it. -/
def lastL (f : Nat → Int) (n : Nat) : List Int := (List.range (n % 64)).map (fun j => f (64 * (n / 64) + j)) ++ tailL (n % 64) n
theorem tailL_mod (m n : Nat) : tailL (m % 64) n = tailL m n := by unfold tailL; rw [padN_mod]
theorem allL_split (f : Nat → Int) (n : Nat) : allL f n = (List.range (64 * (n / 64))).map f ++ lastL f n := by
  unfold allL lastL
  rw [tailL_mod, ← List.append_assoc]
  congr 1
  have e : n = 64 * (n / 64) + n % 64 := by omega
  have : List.range n = List.range (64 * (n / 64)) ++ (List.range (n % 64)).map (fun j => 64 * (n / 64) + j) := by
    conv => lhs; rw [e]
    rw [List.range_add]
  conv => lhs; rw [this]
  simp
theorem lastL_at (f : Nat → Int) (n j : Nat) : (lastL f n).getD j 0 = allF f n (64 * (n / 64) + j) := by
  unfold allF
  rw [allL_split, List.getD_eq_getElem?_getD, List.getD_eq_getElem?_getD, List.getElem?_append_right (by simp)]
  simp
theorem lastL_len (f : Nat → Int) (n : Nat) : (lastL f n).length = n % 64 + 9 + padN (n + 1) := by simp [lastL, tailL_len, padN_mod]; omega
theorem lastL_bd (f : Nat → Int) (n : Nat) (h : ∀ k, 0 ≤ f k ∧ f k ≤ 255) : ∀ x ∈ lastL f n, 0 ≤ x ∧ x ≤ 255 := by
  intro x hx
  rcases List.mem_append.1 hx with h' | h'
  · obtain ⟨j, _, rfl⟩ := List.mem_map.1 h'; exact h _
  · exact tailL_bd _ _ x h'
/-- How many blocks the last ones are. -/
def lastN (n : Nat) : Nat := (n % 64 + 9 + padN (n + 1)) / 64
theorem lastL_blocks (f : Nat → Int) (n : Nat) : (lastL f n).length = 64 * lastN n := by rw [lastL_len]; unfold lastN; have := padN_is (n + 1); omega
theorem allL_blocks (f : Nat → Int) (n : Nat) : (allL f n).length = 64 * (n / 64 + lastN n) := by rw [allL_len]; unfold lastN; have := padN_is (n + 1); omega
theorem lastN_le (n : Nat) : lastN n ≤ 2 := by unfold lastN; have := padN_lt (n + 1); omega

theorem or_add32 (x y : Nat) (i : Nat) (hy : y < 2 ^ i) (hx : x * 2 ^ i < 4294967296) (hy' : y < 4294967296) : bits .or .u32 ((x * 2 ^ i : Nat) : Int) (y : Int) = ((x * 2 ^ i + y : Nat) : Int) := by
  rw [or_u32 _ _ hx hy', Nat.mul_comm, ← Nat.two_pow_add_eq_or_of_lt hy]
theorem word_or (f : Nat → Int) (h : ∀ k, 0 ≤ f k ∧ f k ≤ 255) (k : Nat) : wordB f k = bits .or .u32 (bits .or .u32 (bits .or .u32 (IntKind.u32.wrap (f (4 * k + 0) * 16777216)) (IntKind.u32.wrap (f (4 * k + 1) * 65536))) (IntKind.u32.wrap (f (4 * k + 2) * 256))) (f (4 * k + 3)) := by
  have h0 := h (4 * k + 0)
  have h1 := h (4 * k + 1)
  have h2 := h (4 * k + 2)
  have h3 := h (4 * k + 3)
  unfold wordB
  simp only [numOf]
  generalize f (4 * k + 0) = a at *
  generalize f (4 * k + 1) = b at *
  generalize f (4 * k + 2) = c at *
  generalize f (4 * k + 3) = d at *
  obtain ⟨a, rfl⟩ := Int.eq_ofNat_of_zero_le h0.1
  obtain ⟨b, rfl⟩ := Int.eq_ofNat_of_zero_le h1.1
  obtain ⟨c, rfl⟩ := Int.eq_ofNat_of_zero_le h2.1
  obtain ⟨d, rfl⟩ := Int.eq_ofNat_of_zero_le h3.1
  have e1 : IntKind.u32.wrap ((a : Int) * 16777216) = ((a * 2 ^ 8 * 2 ^ 16 : Nat) : Int) := by rw [IntKind.wrap_u32]; omega
  have e2 : IntKind.u32.wrap ((b : Int) * 65536) = ((b * 2 ^ 16 : Nat) : Int) := by rw [IntKind.wrap_u32]; omega
  have e3 : IntKind.u32.wrap ((c : Int) * 256) = ((c * 2 ^ 8 : Nat) : Int) := by rw [IntKind.wrap_u32]; omega
  have r1 : bits .or .u32 ((a * 2 ^ 8 * 2 ^ 16 : Nat) : Int) ((b * 2 ^ 16 : Nat) : Int) = (((a * 2 ^ 8 + b) * 2 ^ 8 * 2 ^ 8 : Nat) : Int) := by
    have := or_add32 a (b * 2 ^ 16) 24 (by omega) (by omega) (by omega)
    rw [show a * 2 ^ 8 * 2 ^ 16 = a * 2 ^ 24 by omega, this]; omega
  have r2 : bits .or .u32 (((a * 2 ^ 8 + b) * 2 ^ 8 * 2 ^ 8 : Nat) : Int) ((c * 2 ^ 8 : Nat) : Int) = ((((a * 2 ^ 8 + b) * 2 ^ 8 + c) * 2 ^ 8 : Nat) : Int) := by
    have := or_add32 (a * 2 ^ 8 + b) (c * 2 ^ 8) 16 (by omega) (by omega) (by omega)
    rw [show (a * 2 ^ 8 + b) * 2 ^ 8 * 2 ^ 8 = (a * 2 ^ 8 + b) * 2 ^ 16 by omega, this]; omega
  have r3 : bits .or .u32 ((((a * 2 ^ 8 + b) * 2 ^ 8 + c) * 2 ^ 8 : Nat) : Int) (d : Int) = ((((a * 2 ^ 8 + b) * 2 ^ 8 + c) * 2 ^ 8 + d : Nat) : Int) := or_add32 _ d 8 (by omega) (by omega) (by omega)
  rw [e1, e2, e3, r1, r2, r3]
  omega
theorem nbl8 (n : Nat) (h : n ≤ 65536) : nbl (8 * (n : Int)) 8 = nbl 0 4 ++ nbl (8 * (n : Int)) 4 := by
  have z : ∀ j, 4 ≤ j → (8 * (n : Int)) / 2 ^ (8 * j) = 0 := fun j hj => by
    apply Int.ediv_eq_zero_of_lt (by omega)
    have : (2 : Int) ^ 32 ≤ 2 ^ (8 * j) := by
      have := Nat.pow_le_pow_right (n := 2) (by omega) (show 32 ≤ 8 * j by omega)
      exact_mod_cast this
    omega
  unfold nbl
  show [nb _ 8 0, nb _ 8 1, nb _ 8 2, nb _ 8 3, nb _ 8 4, nb _ 8 5, nb _ 8 6, nb _ 8 7] = [nb 0 4 0, nb 0 4 1, nb 0 4 2, nb 0 4 3, nb _ 4 0, nb _ 4 1, nb _ 4 2, nb _ 4 3]
  unfold nb
  have z4 := z 4 (by omega)
  have z5 := z 5 (by omega)
  have z6 := z 6 (by omega)
  have z7 := z 7 (by omega)
  simp only [Nat.reduceSub, z4, z5, z6, z7]
  rfl
theorem wordB_congr (f g : Nat → Int) (i : Nat) (h : ∀ j, j < 4 → f (4 * i + j) = g (4 * i + j)) : wordB f i = wordB g i := numOf_congr _ _ 4 h
theorem sch_congr (f g : Nat → Int) (h : ∀ j, j < 64 → f j = g j) : ∀ i : Nat, sch f i = sch g i := by
  intro i
  induction i using Nat.strongRecOn with
  | _ i ih =>
    by_cases hi : i < 16
    · rw [sch_low f i hi, sch_low g i hi]; exact wordB_congr f g i (fun j hj => h _ (by omega))
    · rw [sch_high f i (by omega), sch_high g i (by omega), ih (i - 16) (by omega), ih (i - 7) (by omega), ih (i - 15) (by omega), ih (i - 2) (by omega)]
theorem stR_congr (f g s : Nat → Int) (h : ∀ j, j < 64 → f j = g j) : ∀ k : Nat, stR f s k = stR g s k
  | 0 => rfl
  | k + 1 => by rw [stR, stR, stR_congr f g s h k, sch_congr f g h k]
theorem blk_congr (f g s : Nat → Int) (h : ∀ j, j < 64 → f j = g j) : blk f s = blk g s := by
  funext i; unfold blk; rw [stR_congr f g s h]
theorem stB_congr (f g s : Nat → Int) : ∀ k : Nat, (∀ j, j < 64 * k → f j = g j) → stB f s k = stB g s k
  | 0, _ => rfl
  | k + 1, h => by
    rw [stB, stB, stB_congr f g s k (fun j hj => h j (by omega))]
    exact blk_congr _ _ _ (fun j hj => h _ (by omega))
theorem stB_add (f s : Nat → Int) (k : Nat) : ∀ m : Nat, stB f s (k + m) = stB (fun j => f (64 * k + j)) (stB f s k) m
  | 0 => rfl
  | m + 1 => by
    rw [← Nat.add_assoc, stB, stB, stB_add f s k m]
    congr 1
    funext j
    rw [show 64 * (k + m) + j = 64 * k + (64 * m + j) by omega]
theorem blk_bd (f s : Nat → Int) (i : Nat) : 0 ≤ blk f s i ∧ blk f s i ≤ 4294967295 := by unfold blk; omega
theorem HB_bd : ∀ i : Nat, 0 ≤ HB i ∧ HB i ≤ 4294967295 := by
  intro i
  by_cases h : i < 8
  · have : ∀ j : Fin 8, 0 ≤ HB j.val ∧ HB j.val ≤ 4294967295 := by decide +kernel
    exact this ⟨i, h⟩
  · unfold HB
    rw [List.getD_eq_getElem?_getD, List.getElem?_eq_none (by show 8 ≤ i; omega)]
    decide
theorem stB_bd (f s : Nat → Int) (hs : ∀ i, 0 ≤ s i ∧ s i ≤ 4294967295) : ∀ (k i : Nat), 0 ≤ stB f s k i ∧ stB f s k i ≤ 4294967295
  | 0, i => hs i
  | k + 1, i => blk_bd _ _ i
/-- The bytes of the first k words. -/
def txt (s : Nat → Int) : Nat → List Int
  | 0 => []
  | k + 1 => txt s k ++ nbl (s k) 4
theorem txt_len (s : Nat → Int) : ∀ k : Nat, (txt s k).length = 4 * k
  | 0 => rfl
  | k + 1 => by rw [txt, List.length_append, txt_len s k, nbl_len]; omega
theorem txt_bd (s : Nat → Int) : ∀ k : Nat, ∀ x ∈ txt s k, 0 ≤ x ∧ x ≤ 255
  | 0 => fun x hx => by cases hx
  | k + 1 => fun x hx => by
    rw [txt, List.mem_append] at hx
    rcases hx with h | h
    · exact txt_bd s k x h
    · exact nbl_bd _ _ x h
/-- The state behind a text of n bytes. -/
def hst (f : Nat → Int) (n : Nat) : Nat → Int := stB (allF f n) HB (n / 64 + lastN n)
theorem hst_bd (f : Nat → Int) (n i : Nat) : 0 ≤ hst f n i ∧ hst f n i ≤ 4294967295 := stB_bd _ _ HB_bd _ i
/-- The hash. -/
def hashF (f : Nat → Int) (n : Nat) : ByteArray := strOfNums (txt (hst f n) 8)
theorem hst_split (f : Nat → Int) (n : Nat) : stB (fun j => (lastL f n).getD j 0) (stB f HB (n / 64)) (lastN n) = hst f n := by
  unfold hst
  rw [stB_add, stB_congr f (allF f n) HB (n / 64) (fun j hj => (allF_low f n j (by omega)).symm)]
  congr 1
  funext j
  exact lastL_at f n j
theorem hashF_size (f : Nat → Int) (n : Nat) : (hashF f n).size = 32 := by
  unfold hashF
  have := nums_len (strOfNums (txt (hst f n) 8))
  rw [nums_strOfNums _ (txt_bd _ 8), txt_len] at this
  omega
end Go.Proofs.YtnlepjcjakghcaaGreatDoor

namespace Go.Proofs.YtnlepjcjakghcaaGreatDoor
open Go.RowKit Go.PlainAid
set_option linter.unusedVariables false

theorem news_of_bytes {w : World} {b off len : Nat} {f : Nat → Int} (h : Bytes w (some ⟨b, off, none⟩) len f) : ∀ j u, (((List.range len).map f).map (Value.int .u8))[j]? = some u → w.cell? ((⟨b, off, none⟩ : Addr).add j) = some u := by
  intro j u hu
  have hj : j < len := by
    by_cases hj : j < len
    · exact hj
    · rw [List.getElem?_eq_none (by simp; omega)] at hu; cases hu
  obtain ⟨b', off', e, hc⟩ := h.2 (by omega)
  cases e
  have ea : (⟨b, off, none⟩ : Addr).add j = ⟨b, off + j, none⟩ := by unfold Addr.add; split <;> simp_all
  rw [ea, hc j hj]
  simpa [hj] using hu
theorem wpl_byt (w : World) {ops : Array Oper} {rest : List Oper} {o : Oper} {a : Act} {Q : Exit → Act → World → Prop} (hgd : o.guard = none) (s x : Operand)
    (ho : o.op = .call { callee := .builtin .append, args := #[s, x], argTypes := #[22, 22] })
    (B : Nat) (v : Value) (L : List Int) (hs : a.eval s = v) (hown : OwnL 5 w B v L)
    (ad : Option Addr) (m c : Nat) (f : Nat → Int) (hx : a.eval x = .slice ad m c) (hby : Bytes w ad m f) (hn : ad = none → m = 0 ∧ c = 0)
    (hlen : L.length + m ≤ 1000000) (hB : B ≤ w.heap.size)
    (h : ∀ v' w', Hid (Laid w w' B v' (L ++ (List.range m).map f)) → wpList Tryz.prog ops Q rest (a.put o.dst v') w') : wpList Tryz.prog ops Q (o :: rest) a w := by
  cases ad with
  | none =>
    obtain ⟨rfl, rfl⟩ := hn rfl
    obtain ⟨i0, hi, hz0, hz1, hz2⟩ := info_parts Tryz.infoB
    have hr := run_append_owned_none (P := Tryz.prog) (w := w) B 22 o.type 5 i0 1 Tryz.underlying22 hi v L.length (L.map (Value.int .u8)) hown
    refine wpList_plain hgd fun K hK => ?_
    unfold Oper.wp execOp
    simp only [ho, resolve, invoke, builtin, Sem.run_bind, Sem.run_pure, Result.andThen_ok, List.map_toArray, List.map_cons, List.map_nil, hs, hx, hr]
    exact hK _ _ (h v w ⟨by simpa using hown, Below.refl _ _⟩)
  | some y =>
    by_cases h0 : m = 0
    · subst h0
      exact wpl_app w hgd s x ho B v L hs hown y 0 c ((List.range 0).map f) hx rfl (fun j u hu => by simp at hu) hlen hB h
    · obtain ⟨b, off, e, -⟩ := hby.2 (by omega)
      cases e
      exact wpl_app w hgd s x ho B v L hs hown ⟨b, off, none⟩ m c ((List.range m).map f) hx (by simp) (news_of_bytes hby) hlen hB h
end Go.Proofs.YtnlepjcjakghcaaGreatDoor

namespace Go.Proofs.YtnlepjcjakghcaaGreatDoor
open Go.RowKit Go.PlainAid
set_option linter.unusedVariables false
set_option maxRecDepth 20000

def lenOf : Value → Nat
  | .slice _ n _ => n
  | _ => 0

set_option maxHeartbeats 1000000 in
theorem lastBlocks_any (a : Option Addr) (m cap : Nat) (f : Nat → Int) (size : Nat) (w : World) (h : Bytes w a m f) (hm : m < 64) (hz : size ≤ 65536) (hn : a = none → m = 0 ∧ cap = 0) (hp : ∀ b off, 0 < m → a = some ⟨b, off, none⟩ → b < w.heap.size) :
    Calls Tryz.prog 39 #[.slice a m cap, .int .i64 size] w fun e w' => ∃ v', e = .returned v' ∧ Hid (OwnL 5 w' w.heap.size v' ((List.range m).map f ++ tailL m size)) ∧ Below w.heap.size w w' := by
  have H : Hid (Bytes w a m f) := h
  have HN : Hid (a = none → m = 0 ∧ cap = 0) := hn
  have HP : Hid (∀ b off, 0 < m → a = some ⟨b, off, none⟩ → b < w.heap.size) := hp
  clear h hn hp
  obtain ⟨MC, hM⟩ := make_room 128 (by omega)
  have hmk : ∀ w : World, (Instr.makeSlice 22 (.int .i64 0) (.int .i64 128)).run Tryz.prog w = .ok (.slice (some ⟨w.heap.size, 0, none⟩) 0 128) (w.alloc (.cells MC 5)) := fun w => (hM w).1
  have HM : Hid (OwnL 5 (w.alloc (.cells MC 5)) w.heap.size (.slice (some ⟨w.heap.size, 0, none⟩) 0 128) []) := (hM w).2
  clear hM
  have H1 : Hid (Bytes (w.alloc (.cells MC 5)) a m f) := H.out.below ((Below.refl w.heap.size w).alloc (Nat.le_refl _) _) HP.out
  go_enter Tryz.func39, Tryz.ntmps39
  go_wp2_with (at_builtin; refine wpl_byt _ rfl _ _ rfl w.heap.size _ [] rfl HM.out a m cap f rfl H1.out HN.out (by simp; omega) (by simp) ?_)
  intro v1 w1 Y1
  have Y1' : Hid (OwnL 5 w1 w.heap.size v1 ((List.range m).map f)) := Y1.out.own
  have B1 : Hid (Below w.heap.size w w1) := ((Below.refl w.heap.size w).alloc (Nat.le_refl _) _).trans Y1.out.below
  have z1 : w.heap.size ≤ w1.heap.size := B1.out.size
  clear Y1 H1 HM H HN HP hmk
  go_wp2_with (at_builtin; refine wpl_app _ rfl _ _ rfl w.heap.size _ _ rfl (World.ownsRow.alloc Y1'.out _) ⟨w1.heap.size, 0, none⟩ 1 1 [128] rfl rfl (news_row (Boxed.new w1 [.int .u8 128] _)) (by simp; omega) (by simp; omega) ?_)
  intro v2 w2 Y2
  have Y2' : Hid (OwnL 5 w2 w.heap.size v2 ((List.range m).map f ++ [128])) := Y2.out.own
  have B2 : Hid (Below w.heap.size w w2) := (B1.out.alloc z1 _).trans Y2.out.below
  clear Y2 Y1' B1 z1
  obtain ⟨L0, hL0⟩ : ∃ L, L = (List.range m).map f ++ [128] := ⟨_, rfl⟩
  have sL0 : L0.length = m + 1 := by rw [hL0]; simp
  have bL0 : Hid (L0 = (List.range m).map f ++ [128]) := hL0
  rw [← hL0] at Y2'
  clear hL0
  go_wp2
  go_loopw [5] (fun v wr => ∃ k : Nat, k ≤ padN (m + 1) ∧ Hid (OwnL 5 wr w.heap.size v (L0 ++ List.replicate k 0)) ∧ Hid (Below w.heap.size w wr)) (fun v _ => padN (m + 1) + m + 1 - (lenOf v))
  case atStart => exact ⟨0, Nat.zero_le _, by simpa using Y2', B2⟩
  case round =>
    clear Y2' B2
    obtain ⟨k, hk, Y, B⟩ := hrel
    have pl := padN_lt (m + 1)
    have sL : (L0 ++ List.replicate k (0 : Int)).length = m + 1 + k := by simp [sL0]
    obtain ⟨g, cp, cur, hv, hg, -, -⟩ := OwnL.form Y.out (by omega)
    rw [sL] at hv
    subst hv
    have zz := B.out.size
    by_cases hlt : k < padN (m + 1)
    · have e1 : ((((m + 1 + k : Nat) : Int) % 64) != 56) = true := by have := padN_min (m + 1) k hlt; simp; omega
      have e2 : Int.tmod ((m + 1 + k : Nat) : Int) 64 = ((m + 1 + k : Nat) : Int) % 64 := Int.tmod_eq_emod_of_nonneg (by omega)
      obtain ⟨len, hlen⟩ : ∃ l, l = m + 1 + k := ⟨_, rfl⟩
      rw [← hlen] at e1 e2 Y
      rw [← hlen]
      have HLen : Hid (len = m + 1 + k) := hlen
      clear hlen
      go_wp2_with (at_builtin; refine wpl_app _ rfl _ _ rfl w.heap.size _ _ rfl (World.ownsRow.alloc Y.out _) ⟨wr.heap.size, 0, none⟩ 1 1 [0] rfl rfl (news_row (Boxed.new wr [.int .u8 0] _)) (by simp; omega) (by simp; omega) ?_)
      intro v3 w3 Y3
      have Y3' : Hid (OwnL 5 w3 w.heap.size v3 (L0 ++ List.replicate (k + 1) 0)) := by
        show OwnL _ _ _ _ _
        rw [List.replicate_succ']
        have := Y3.out.own
        simpa only [List.append_assoc] using this
      have B3 : Hid (Below w.heap.size w w3) := (B.out.alloc zz _).trans Y3.out.below
      have sL3 : (L0 ++ List.replicate (k + 1) (0 : Int)).length = m + 1 + (k + 1) := by simp [sL0]
      obtain ⟨g3, cp3, cur3, hv3, -, -, -⟩ := OwnL.form Y3'.out (by omega)
      rw [sL3] at hv3
      have HV3 : Hid (lenOf v3 = m + 1 + (k + 1)) := by rw [hv3]; rfl
      clear Y3 Y B hv3
      go_wp2
      go_roundw
      case rel => exact ⟨k + 1, by omega, Y3', B3⟩
      case measure =>
        rw [HV3.out]
        show _ < padN (m + 1) + m + 1 - len
        have := HLen.out
        omega
    · have ek : k = padN (m + 1) := by omega
      subst ek
      have e1 : ((((m + 1 + padN (m + 1) : Nat) : Int) % 64) != 56) = false := by have := padN_is (m + 1); simp; omega
      have e2 : Int.tmod ((m + 1 + padN (m + 1) : Nat) : Int) 64 = ((m + 1 + padN (m + 1) : Nat) : Int) % 64 := Int.tmod_eq_emod_of_nonneg (by omega)
      obtain ⟨len, hlen⟩ : ∃ l, l = m + 1 + padN (m + 1) := ⟨_, rfl⟩
      rw [← hlen] at e1 e2 Y
      rw [← hlen]
      have s1 : Hid ((L0 ++ List.replicate (padN (m + 1)) (0 : Int)).length ≤ 200) := by show _ ≤ _; rw [sL]; omega
      have sz : IntKind.i64.wrap (8 * (size : Int)) = 8 * (size : Int) := by rw [IntKind.wrap_i64]; omega
      clear hlen hlt hk
      go_wp2_with fail
      refine (addNum _ _ 0 4 wr w.heap.size Y.out zz (by omega) (by omega) (by omega) (by omega) (by omega) (by have := s1.out; omega)).mono ?_
      rintro e w4 ⟨v4, rfl, Y4⟩
      have B4 : Hid (Below w.heap.size w w4) := B.out.trans Y4.out.below
      have z4 : w.heap.size ≤ w4.heap.size := B4.out.size
      go_wp2_with fail
      refine (addNum _ _ (8 * (size : Int)) 4 w4 w.heap.size Y4.out.own z4 (by omega) (by omega) (by omega) (by omega) (by omega) (by have := s1.out; simp [nbl_len] at this ⊢; omega)).mono ?_
      rintro e w5 ⟨v5, rfl, Y5⟩
      go_wp2
      go_ret
      refine ⟨_, rfl, ?_, B4.out.trans Y5.out.below⟩
      have := Y5.out.own
      show OwnL _ _ _ _ _
      rw [bL0.out] at this
      unfold tailL
      simpa [List.append_assoc] using this

set_option maxHeartbeats 1000000 in
theorem text_any (s : Nat → Int) (w : World) (hs : ∀ i, 0 ≤ s i ∧ s i ≤ 4294967295) :
    Calls Tryz.prog 40 #[.agg (words s 8).toArray] w fun e w' => e = .returned (.string (strOfNums (txt s 8))) ∧ Below w.heap.size w w' := by
  have HS : Hid (∀ i, 0 ≤ s i ∧ s i ≤ 4294967295) := hs
  clear hs
  obtain ⟨MC, hM⟩ := make_room 32 (by omega)
  have hmk : ∀ w : World, (Instr.makeSlice 22 (.int .i64 0) (.int .i64 32)).run Tryz.prog w = .ok (.slice (some ⟨w.heap.size, 0, none⟩) 0 32) (w.alloc (.cells MC 5)) := fun w => (hM w).1
  have HM : Hid (∀ w : World, OwnL 5 (w.alloc (.cells MC 5)) w.heap.size (.slice (some ⟨w.heap.size, 0, none⟩) 0 32) []) := fun w => (hM w).2
  clear hM
  obtain ⟨LS, hLS⟩ : ∃ L, L = words s 8 := ⟨_, rfl⟩
  rw [← hLS]
  have C0 : Hid (∀ i, i < 8 → (w.alloc (.cells LS.toArray 77)).cell? ⟨w.heap.size, i, none⟩ = some (.int .u32 (s i))) := fun i hi => by
    rw [World.cell?_alloc_new, hLS]
    have := words_at s 8 i hi
    simpa using this
  clear hLS
  go_enter Tryz.func40, Tryz.ntmps40
  go_wp2
  go_loopw [3, 6] (fun v i wr => ∃ k : Nat, k ≤ 8 ∧ i = .int .i64 k ∧ Hid (OwnL 5 wr (w.heap.size + 1) v (txt s k)) ∧ Hid (Below (w.heap.size + 1) (w.alloc (.cells LS.toArray 77)) wr)) (fun _ i _ => 8 - (intOf i).toNat)
  case atStart =>
    have e1 := HM.out (w.alloc (.cells LS.toArray 77))
    have ez : (w.alloc (.cells LS.toArray 77)).heap.size = w.heap.size + 1 := by simp
    rw [ez] at e1
    exact ⟨0, Nat.zero_le _, rfl, e1, (Below.refl _ _).alloc (by simp) _⟩
  case round =>
    clear hmk HM
    obtain ⟨k, hk, rfl, Y, B⟩ := hrel
    have ez : (w.alloc (.cells LS.toArray 77)).heap.size = w.heap.size + 1 := by simp
    have zz : w.heap.size + 1 ≤ wr.heap.size := by have := B.out.size; omega
    clear ez
    by_cases hlt : k < 8
    · have ck : wr.cell? ⟨w.heap.size, k, none⟩ = some (.int .u32 (s k)) := by rw [B.out.cell (p := ⟨w.heap.size, k, none⟩) (by show w.heap.size < _; omega)]; exact C0.out k hlt
      have sk := HS.out k
      have k0 : (0 : Int) ≤ (k : Int) := by omega
      have k1 : (k : Int) < 8 := by omega
      have HK : Hid (s k = s k) := rfl
      obtain ⟨x, hx⟩ : ∃ x, x = s k := ⟨_, rfl⟩
      have HX : Hid (x = s k) := hx
      rw [← hx] at ck sk
      clear hx HK
      have ex : IntKind.i64.wrap x = x := by rw [IntKind.wrap_i64]; omega
      go_wp2_with (go_at_call 62; refine (addNum _ _ x 4 wr (w.heap.size + 1) Y.out zz (by omega) (by omega) (by omega) (by omega) (by omega) (by rw [txt_len]; omega)).mono ?_; rintro e w4 ⟨v4, rfl, Y4⟩)
      go_roundw
      case rel => exact ⟨k + 1, by omega, by go_num, by rw [txt, ← HX.out]; exact Y4.out.own, B.out.trans Y4.out.below⟩
      case measure => (simp [intOf]; try omega)
    · have ek : k = 8 := by omega
      subst ek
      obtain ⟨a, cap, hv, hby, -⟩ := OwnL.slice Y.out (txt_bd s 8)
      have hc := conv_own (P := Tryz.prog) wr 22 9 5 Tryz.underlying22 Tryz.underlying5 Tryz.underlying9 a cap _ hby
      subst hv
      clear hby
      go_wp2
      go_ret
      exact ⟨rfl, ((Below.refl w.heap.size w).alloc (Nat.le_refl _) _).trans (B.out.mono (by omega))⟩
end Go.Proofs.YtnlepjcjakghcaaGreatDoor
