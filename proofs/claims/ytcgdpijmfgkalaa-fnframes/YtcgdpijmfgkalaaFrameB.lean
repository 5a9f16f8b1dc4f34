/- The program's FrameBytes. -/
import Derived.Test.YtcgdpijmfgkalaaMacs
import Derived.Test.YtcgdpijmfgkalaaApp
namespace Go.Proofs.Ytcgdpijmfgkalaa
open Go.RowKit Go.PlainAid
set_option linter.unusedVariables false
set_option maxRecDepth 20000

theorem kindOK_any (n : Int) (w : World) :
    Calls Try.prog 28 #[.int .i64 n] w fun e w' => e = .returned (.bool (decide (n = 2048 ∨ n = 2054))) ∧ w' = w := by
  by_cases h1 : n = 2048
  · subst h1
    go_enter Try.func28, Try.ntmps28
    go_wp2
    go_ret
    exact ⟨rfl, rfl⟩
  · have b1 : (n == 2048) = false := by rw [beq_eq_false_iff_ne]; exact h1
    go_enter Try.func28, Try.ntmps28
    go_wp2
    go_ret
    exact ⟨congrArg (fun b => Ending.returned (.bool b)) (by simp [h1]; rfl), rfl⟩

/-- A frame as the model has a struct. -/
def frameL (d s : ByteArray) (k : Int) (b : ByteArray) : List Int := nums d ++ nums s ++ nbl k 2 ++ nums b

set_option maxHeartbeats 2000000 in
theorem frameBytes_yes (d s b : ByteArray) (k : Int) (w : World) (hd : d.size = 6) (hs : s.size = 6) (hk : k = 2048 ∨ k = 2054) (hb : b.size ≤ 400) :
    Calls Try.prog 8 #[.agg #[.string d, .string s, .int .i64 k, .string b]] w fun e w' => ∃ v B, e = .returned (.tuple #[v, .int .i64 0]) ∧ OwnL 5 w' B v (frameL d s k b) ∧ w.heap.size ≤ B ∧ Below w.heap.size w w' := by
  obtain ⟨MC, hMC⟩ := make_room (14 + b.size) (by omega)
  have HMC : Hid (∀ w : World, OwnL 5 (w.alloc (.cells MC 5)) w.heap.size (.slice (some ⟨w.heap.size, 0, none⟩) 0 (14 + b.size)) []) := fun w => (hMC w).2
  have hmk : ∀ w : World, (Instr.makeSlice 22 (.int .i64 0) (.int .i64 (14 + (b.size : Int)))).run Try.prog w = .ok (.slice (some ⟨w.heap.size, 0, none⟩) 0 (14 + b.size)) (w.alloc (.cells MC 5)) := fun w => by
    have := (hMC w).1
    simpa using this
  clear hMC
  have hkd : decide (k = 2048 ∨ k = 2054) = true := decide_eq_true hk
  have HK : Hid (k = 2048 ∨ k = 2054) := hk
  clear hk
  go_enter Try.func8, Try.ntmps8
  go_wp2_with fail
  refine (macOf_yes d _ hd).mono ?_
  rintro e w1 ⟨rfl, b1⟩
  have z1 := b1.size
  simp only [World.size_alloc] at z1
  have X1 : Hid (Boxed w1 w.heap.size [.string d, .string s, .int .i64 k, .string b] ∧ Below w.heap.size w w1) :=
    ⟨(Boxed.new w _ _).below b1 (by simp), ((Below.refl _ _).alloc (Nat.le_refl _) _).trans (b1.mono (by simp))⟩
  clear b1
  have k1 := (X1.out.1.alloc (by omega) (.cells #[.int .u8 (bt d 0), .int .u8 (bt d 1), .int .u8 (bt d 2), .int .u8 (bt d 3), .int .u8 (bt d 4), .int .u8 (bt d 5)] 54)).at 1 _ rfl
  have A1 : Hid (Boxed (w1.alloc (.cells #[.int .u8 (bt d 0), .int .u8 (bt d 1), .int .u8 (bt d 2), .int .u8 (bt d 3), .int .u8 (bt d 4), .int .u8 (bt d 5)] 54)) w1.heap.size ([bt d 0, bt d 1, bt d 2, bt d 3, bt d 4, bt d 5].map (Value.int .u8))) := Boxed.new w1 _ _
  go_wp2_with fail
  refine (macOf_yes s _ hs).mono ?_
  rintro e w2 ⟨rfl, b2⟩
  have z2 := b2.size
  simp only [World.size_alloc] at z2
  have X2 : Hid (Boxed w2 w.heap.size [.string d, .string s, .int .i64 k, .string b] ∧ Below w.heap.size w w2 ∧ Boxed w2 w1.heap.size ([bt d 0, bt d 1, bt d 2, bt d 3, bt d 4, bt d 5].map (Value.int .u8))) :=
    ⟨(X1.out.1.alloc (by omega) _).below b2 (by simp; omega), (X1.out.2.alloc (by omega) _).trans (b2.mono (by simp; omega)), A1.out.below b2 (by simp)⟩
  clear b2 k1 A1
  have A2 : Hid (Boxed (w2.alloc (.cells #[.int .u8 (bt s 0), .int .u8 (bt s 1), .int .u8 (bt s 2), .int .u8 (bt s 3), .int .u8 (bt s 4), .int .u8 (bt s 5)] 54)) w2.heap.size ([bt s 0, bt s 1, bt s 2, bt s 3, bt s 4, bt s 5].map (Value.int .u8))) := Boxed.new w2 _ _
  obtain ⟨w3, hw3⟩ : ∃ w3, w3 = w2.alloc (.cells #[.int .u8 (bt s 0), .int .u8 (bt s 1), .int .u8 (bt s 2), .int .u8 (bt s 3), .int .u8 (bt s 4), .int .u8 (bt s 5)] 54) := ⟨_, rfl⟩
  have z3 : w2.heap.size + 1 ≤ w3.heap.size := by rw [hw3]; simp
  have X3 : Hid (Boxed w3 w.heap.size [.string d, .string s, .int .i64 k, .string b] ∧ Below w.heap.size w w3 ∧ Boxed w3 w1.heap.size ([bt d 0, bt d 1, bt d 2, bt d 3, bt d 4, bt d 5].map (Value.int .u8)) ∧ Boxed w3 w2.heap.size ([bt s 0, bt s 1, bt s 2, bt s 3, bt s 4, bt s 5].map (Value.int .u8))) := by
    rw [hw3]
    exact ⟨X2.out.1.alloc (by omega) _, X2.out.2.1.alloc (by omega) _, X2.out.2.2.alloc (by omega) _, A2.out⟩
  clear A2
  have k2 := X3.out.1.at 2 _ rfl
  have k3 := X3.out.1.at 3 _ rfl
  rw [hw3] at k2 k3
  go_wp2_with fail
  refine (kindOK_any _ _).mono ?_
  rintro e w4 ⟨rfl, hw4⟩
  rw [← hw3] at hw4
  rw [← hw3] at k2 k3
  clear hw3
  have hw4' := hw4.symm
  subst hw4'
  clear hw4
  have O0 : Hid (OwnL 5 (w3.alloc (.cells MC 5)) w3.heap.size (.slice (some ⟨w3.heap.size, 0, none⟩) 0 (14 + b.size)) []) := HMC.out w3
  go_wp2_with (at_builtin; refine wpl_app _ rfl _ _ rfl w3.heap.size _ [] rfl O0.out ⟨w1.heap.size, 0, none⟩ 6 6 [bt d 0, bt d 1, bt d 2, bt d 3, bt d 4, bt d 5] rfl rfl (news_row (X3.out.2.2.1.alloc (by omega) _)) (by simp) (by simp) ?_)
  intro v5 w5 Y5
  have B5 : Hid (Below w3.heap.size w3 w5) := ((Below.refl _ _).alloc (Nat.le_refl _) _).trans Y5.out.below
  have z5 := B5.out.size
  go_wp2_with (at_builtin; refine wpl_app _ rfl _ _ rfl w3.heap.size _ _ rfl Y5.out.own ⟨w2.heap.size, 0, none⟩ 6 6 [bt s 0, bt s 1, bt s 2, bt s 3, bt s 4, bt s 5] rfl rfl (news_row (X3.out.2.2.2.below B5.out (by omega))) (by simp) (by omega) ?_)
  intro v6 w6 Y6
  have B6 : Hid (Below w3.heap.size w3 w6) := B5.out.trans Y6.out.below
  have z6 := B6.out.size
  have j2 := (X3.out.1.below B6.out (by omega)).at 2 _ rfl
  go_wp2_with fail
  refine (addNum v6 _ k 2 w6 w3.heap.size Y6.out.own (by omega) (by omega) (by omega) (by have := HK.out; omega) (by have := HK.out; simp; omega) (by have := HK.out; omega) (by simp)).mono ?_
  rintro e w7 ⟨v7, rfl, Y7⟩
  have B7 : Hid (Below w3.heap.size w3 w7) := B6.out.trans Y7.out.below
  have z7 := B7.out.size
  have j3 := (X3.out.1.below B7.out (by omega)).at 3 _ rfl
  clear j2
  go_wp2_with (at_builtin; refine wpl_str _ rfl _ _ rfl w3.heap.size _ _ rfl Y7.out.own b rfl (by simp [nbl_len]; omega) (by omega) ?_)
  intro v8 w8 Y8
  go_wp2
  go_ret2
  refine ⟨v8, w3.heap.size, rfl, ?_, by omega, X3.out.2.1.trans ((B7.out.trans Y8.out.below).mono (by omega))⟩
  have := Y8.out.own
  rw [frameL, nums6 d hd, nums6 s hs]
  simpa using this

set_option maxHeartbeats 2000000 in
theorem frameBytes_no (d s b : ByteArray) (k : Int) (w : World) (xd : d.size ≤ 1048576) (xs : s.size ≤ 1048576) (xb : b.size ≤ 1048576) (h : ¬ (d.size = 6 ∧ s.size = 6 ∧ (k = 2048 ∨ k = 2054) ∧ b.size ≤ 400)) :
    Calls Try.prog 8 #[.agg #[.string d, .string s, .int .i64 k, .string b]] w fun e w' => e = .returned (.tuple #[.slice none 0 0, .int .i64 1]) ∧ Below w.heap.size w w' := by
  have H : Hid (¬ (d.size = 6 ∧ s.size = 6 ∧ (k = 2048 ∨ k = 2054) ∧ b.size ≤ 400)) := h
  clear h
  go_enter Try.func8, Try.ntmps8
  go_wp2_with fail
  refine (macOf_any d _ (by omega)).mono ?_
  rintro e w1 ⟨⟨m0, m1, m2, m3, m4, m5, rfl⟩, b1⟩
  have z1 := b1.size
  simp only [World.size_alloc] at z1
  have X1 : Hid (Boxed w1 w.heap.size [.string d, .string s, .int .i64 k, .string b] ∧ Below w.heap.size w w1) :=
    ⟨(Boxed.new w _ _).below b1 (by simp), ((Below.refl _ _).alloc (Nat.le_refl _) _).trans (b1.mono (by simp))⟩
  clear b1
  have k1 := (X1.out.1.alloc (by omega) (.cells #[.int .u8 m0, .int .u8 m1, .int .u8 m2, .int .u8 m3, .int .u8 m4, .int .u8 m5] 54)).at 1 _ rfl
  go_wp2_with fail
  refine (macOf_any s _ (by omega)).mono ?_
  rintro e w2 ⟨⟨n0, n1, n2, n3, n4, n5, rfl⟩, b2⟩
  have z2 := b2.size
  simp only [World.size_alloc] at z2
  have X2 : Hid (Boxed w2 w.heap.size [.string d, .string s, .int .i64 k, .string b] ∧ Below w.heap.size w w2) :=
    ⟨(X1.out.1.alloc (by omega) _).below b2 (by simp; omega), (X1.out.2.alloc (by omega) _).trans (b2.mono (by simp; omega))⟩
  clear b2 k1
  have X3 : Hid (Boxed (w2.alloc (.cells #[.int .u8 n0, .int .u8 n1, .int .u8 n2, .int .u8 n3, .int .u8 n4, .int .u8 n5] 54)) w.heap.size [.string d, .string s, .int .i64 k, .string b] ∧ Below w.heap.size w (w2.alloc (.cells #[.int .u8 n0, .int .u8 n1, .int .u8 n2, .int .u8 n3, .int .u8 n4, .int .u8 n5] 54))) :=
    ⟨X2.out.1.alloc (by omega) _, X2.out.2.alloc (by omega) _⟩
  have k2 := X3.out.1.at 2 _ rfl
  have k3 := X3.out.1.at 3 _ rfl
  by_cases hd : d.size = 6
  · have bd : decide (d.size = 6) = true := decide_eq_true hd
    by_cases hs : s.size = 6
    · have bs : decide (s.size = 6) = true := decide_eq_true hs
      by_cases hk : k = 2048 ∨ k = 2054
      · have bk : decide (k = 2048 ∨ k = 2054) = true := decide_eq_true hk
        have hb : 400 < b.size := by
          refine Nat.lt_of_not_le fun hh => H.out ⟨hd, hs, hk, hh⟩
        clear hk
        go_wp2_with fail
        refine (kindOK_any _ _).mono ?_
        rintro e w4 ⟨rfl, hw4⟩
        have hw4' := hw4.symm
        subst hw4'
        clear hw4
        go_wp2
        go_ret2
        exact ⟨rfl, X3.out.2⟩
      · have bk : decide (k = 2048 ∨ k = 2054) = false := decide_eq_false hk
        clear hk
        go_wp2_with fail
        refine (kindOK_any _ _).mono ?_
        rintro e w4 ⟨rfl, hw4⟩
        have hw4' := hw4.symm
        subst hw4'
        clear hw4
        go_wp2
        go_ret2
        exact ⟨rfl, X3.out.2⟩
    · have bs : decide (s.size = 6) = false := decide_eq_false hs
      go_wp2
      go_ret2
      exact ⟨rfl, X3.out.2⟩
  · have bd : decide (d.size = 6) = false := decide_eq_false hd
    go_wp2
    go_ret2
    exact ⟨rfl, X3.out.2⟩
end Go.Proofs.Ytcgdpijmfgkalaa
