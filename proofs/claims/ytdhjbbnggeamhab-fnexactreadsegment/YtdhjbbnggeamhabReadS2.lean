/- ReadSegment, the model, and both. -/
import Derived.Test.YtdhjbbnggeamhabReadS
import Derived.Test.YtdhjbbnggeamhabSpecWire2
import Derived.Test.YtdhjbbnggeamhabLawReadSegment
namespace Go.Proofs.Ytdhjbbnggeamhab
open Go.RowKit Go.PlainAid
set_option linter.unusedVariables false
set_option maxRecDepth 20000

theorem l02ReadSg_form (src dst : Int) (s : ByteArray) (w : World) (hs : s.size ≤ 65536) (h : s.size < 20 ∨ 380 < s.size) :
    Calls Try.prog 29 #[.int .i64 src, .int .i64 dst, .string s] w fun e w' => e = .returned (.tuple #[.agg #[.int .i64 0, .int .i64 0, .int .i64 0, .int .i64 0, .int .i64 0, .int .i64 0, .string ⟨#[]⟩], .int .i64 3]) ∧ Below w.heap.size w w' := by
  rcases h with h | h
  all_goals
    go_enter Try.func29, Try.ntmps29
    go_wp2
    go_returns
    exact ⟨rfl, (Below.refl _ _).alloc (Nat.le_refl _) _⟩

theorem l02ReadSg_head (src dst : Int) (f : Nat → Int) (hf : ∀ k, 0 ≤ f k ∧ f k ≤ 255) (len : Nat) (w : World) (s0 : 0 ≤ src) (s1 : src ≤ 4294967295) (d0 : 0 ≤ dst) (d1 : dst ≤ 4294967295) (h20 : 20 ≤ len) (h380 : len ≤ 380) (hn : 4 * (f 12 / 16) < 20 ∨ (len : Int) < 4 * (f 12 / 16)) :
    Calls Try.prog 29 #[.int .i64 src, .int .i64 dst, .string (strOf f len)] w fun e w' => e = .returned (.tuple #[.agg #[.int .i64 0, .int .i64 0, .int .i64 0, .int .i64 0, .int .i64 0, .int .i64 0, .string ⟨#[]⟩], .int .i64 3]) ∧ Below w.heap.size w w' := by
  obtain ⟨s, hs⟩ : ∃ s, s = strOf f len := ⟨_, rfl⟩
  have hz0 : s.size = len := by rw [hs]; exact strOf_size _ _
  have hb := get_bt s
  have t12 : bt s 12 = f 12 := by rw [hs]; exact strOf_bt f len hf 12 (by omega)
  obtain ⟨z12, z12'⟩ := hf 12
  rw [← hs]
  clear hs hf
  rcases hn with hn | hn
  all_goals
    go_enter Try.func29, Try.ntmps29
    go_wp2
    go_returns
    exact ⟨rfl, (Below.refl _ _).alloc (Nat.le_refl _) _⟩

set_option maxHeartbeats 2000000 in
theorem l02ReadSg_sum (src dst : Int) (f : Nat → Int) (hf : ∀ k, 0 ≤ f k ∧ f k ≤ 255) (len : Nat) (w : World) (s0 : 0 ≤ src) (s1 : src ≤ 4294967295) (d0 : 0 ≤ dst) (d1 : dst ≤ 4294967295) (h20 : 20 ≤ len) (h380 : len ≤ 380) (H : Nat) (hH : (H : Int) = 4 * (f 12 / 16)) (hH0 : 20 ≤ H) (hH1 : H ≤ len) (hm : endsL src dst 6 ((List.range len).map f) ≠ 0) :
    Calls Try.prog 29 #[.int .i64 src, .int .i64 dst, .string (strOf f len)] w fun e w' => e = .returned (.tuple #[.agg #[.int .i64 0, .int .i64 0, .int .i64 0, .int .i64 0, .int .i64 0, .int .i64 0, .string ⟨#[]⟩], .int .i64 8]) ∧ Below w.heap.size w w' := by
  obtain ⟨s, hs⟩ : ∃ s, s = strOf f len := ⟨_, rfl⟩
  have hz0 : s.size = len := by rw [hs]; exact strOf_size _ _
  have hb := get_bt s
  have t12 : bt s 12 = f 12 := by rw [hs]; exact strOf_bt f len hf 12 (by omega)
  obtain ⟨z12, z12'⟩ := hf 12
  obtain ⟨P0, hP0⟩ : ∃ P0, P0 = pseudoS src dst 6 (len : Int) := ⟨_, rfl⟩
  have zP : P0.size = 12 := by rw [hP0]; exact pseudoS_size _ _ _ _
  have HPS : Hid (∀ wx : World, Calls Try.prog 47 #[.int .i64 src, .int .i64 dst, .int .i64 6, .int .i64 (len : Int)] wx fun e w' => e = .returned (.string P0) ∧ Below wx.heap.size wx w') := fun wx => by rw [hP0]; exact l02Pseudo_any _ _ _ _ wx s0 s1 d0 d1 (by omega) (by omega) (by omega) (by omega)
  obtain ⟨E, hE⟩ : ∃ E, E = endsL src dst 6 ((List.range len).map f) := ⟨_, rfl⟩
  have HSM : Hid (∀ wx : World, Calls Try.prog 44 #[.string (P0 ++ s)] wx fun e w' => e = .returned (.int .i64 E) ∧ w' = wx) := fun wx => by
    rw [hE]
    have hl : (((List.range len).map f).length : Int) = (len : Int) := by simp
    unfold endsL
    rw [hl]
    refine sum_str _ _ ?_ (by simp only [ByteArray.size_append]; omega) wx
    rw [nums_append, hP0, hs, pseudoS_nums _ _ _ _ (by omega) (by omega), nums_strOf f len hf]
  have hadd : ∀ wx : World, (Op.stringOp .add P0 s).run Try.prog wx = .ok (.string (P0 ++ s)) wx := fun wx => run_string_add_sum (P := Try.prog) (w := wx) _ _ (by omega)
  have Z0 : Hid (Slots (w.alloc (.cells #[.int .i64 0, .int .i64 0, .int .i64 0, .int .i64 0, .int .i64 0, .int .i64 0, .string ⟨#[]⟩] 32)) w.heap.size [.int .i64 0, .int .i64 0, .int .i64 0, .int .i64 0, .int .i64 0, .int .i64 0, .string ⟨#[]⟩]) := Slots.new w _ _
  have B0 : Hid (Below w.heap.size w (w.alloc (.cells #[.int .i64 0, .int .i64 0, .int .i64 0, .int .i64 0, .int .i64 0, .int .i64 0, .string ⟨#[]⟩] 32))) := (Below.refl _ _).alloc (Nat.le_refl _) _
  have hq : 4 * (f 12 / 16) = (H : Int) := by omega
  have iH : (20 : Int) ≤ (H : Int) := by omega
  have iL : (H : Int) ≤ (len : Int) := by omega
  have bE : (E != 0) = true := by rw [hE]; simpa using hm
  rw [← hs]
  clear hs hP0 hE hm hH hf
  go_enter Try.func29, Try.ntmps29
  go_wp2_with fail
  refine (HPS.out _).mono ?_
  rintro e w2 ⟨rfl, b3⟩
  have Z2 : Hid (Slots w2 w.heap.size [.int .i64 0, .int .i64 0, .int .i64 0, .int .i64 0, .int .i64 0, .int .i64 0, .string ⟨#[]⟩] ∧ Below w.heap.size w w2) := ⟨Z0.out.below b3 (by simp), B0.out.trans (b3.mono (by simp))⟩
  clear b3
  go_wp2_with fail
  refine (HSM.out _).mono ?_
  rintro e w1 ⟨rfl, hw1⟩
  obtain rfl := hw1.symm
  clear hw1
  have k0 := Z2.out.1.1.at 0 _ rfl
  have y0 := Z2.out.1.2 0
  have k1 := Z2.out.1.1.at 1 _ rfl
  have y1 := Z2.out.1.2 1
  have k2 := Z2.out.1.1.at 2 _ rfl
  have y2 := Z2.out.1.2 2
  have k3 := Z2.out.1.1.at 3 _ rfl
  have y3 := Z2.out.1.2 3
  have k4 := Z2.out.1.1.at 4 _ rfl
  have y4 := Z2.out.1.2 4
  have k5 := Z2.out.1.1.at 5 _ rfl
  have y5 := Z2.out.1.2 5
  have k6 := Z2.out.1.1.at 6 _ rfl
  have y6 := Z2.out.1.2 6
  go_wp2
  (try simp only [Exit.inBlock, Exit.then])
  refine bodyPost_ret (v := .tuple #[.agg #[.int .i64 0, .int .i64 0, .int .i64 0, .int .i64 0, .int .i64 0, .int .i64 0, .string ⟨#[]⟩], .int .i64 8]) (by simp [results, Try.results29, go_sem, *]; try rfl) rfl ?_
  exact ⟨rfl, ((((((Z2.out.2.setCell (by simp) _).setCell (by simp) _).setCell (by simp) _).setCell (by simp) _).setCell (by simp) _).setCell (by simp) _).setCell (by simp) _⟩

set_option maxHeartbeats 8000000 in
theorem l02ReadSg_yes (src dst : Int) (f : Nat → Int) (hf : ∀ k, 0 ≤ f k ∧ f k ≤ 255) (len : Nat) (w : World) (s0 : 0 ≤ src) (s1 : src ≤ 4294967295) (d0 : 0 ≤ dst) (d1 : dst ≤ 4294967295) (h20 : 20 ≤ len) (h380 : len ≤ 380) (H : Nat) (hH : (H : Int) = 4 * (f 12 / 16)) (hH0 : 20 ≤ H) (hH1 : H ≤ len) (hm : endsL src dst 6 ((List.range len).map f) = 0) :
    Calls Try.prog 29 #[.int .i64 src, .int .i64 dst, .string (strOf f len)] w fun e w' => e = .returned (.tuple #[.agg #[.int .i64 (pn f 0 2), .int .i64 (pn f 2 2), .int .i64 (pn f 4 4), .int .i64 (pn f 8 4), .int .i64 (f 13 % 32), .int .i64 (pn f 14 2), .string (ps f H (len - H))], .int .i64 0]) ∧ Below w.heap.size w w' := by
  obtain ⟨s, hs⟩ : ∃ s, s = strOf f len := ⟨_, rfl⟩
  have hz0 : s.size = len := by rw [hs]; exact strOf_size _ _
  have hb := get_bt s
  have t12 : bt s 12 = f 12 := by rw [hs]; exact strOf_bt f len hf 12 (by omega)
  obtain ⟨z12, z12'⟩ := hf 12
  obtain ⟨A0, a0⟩ : ∃ P, P = ps f 0 2 := ⟨_, rfl⟩
  obtain ⟨o0, q0⟩ : ∃ o, o = pn f 0 2 := ⟨_, rfl⟩
  have e0 : s.extract 0 2 = A0 := by rw [hs, a0]; exact strOf_extract f hf len 0 2 (by omega) (by omega)
  have HO0 : Hid (∀ wx : World, Calls Try.prog 43 #[.string A0] wx fun e w' => e = .returned (.int .i64 o0) ∧ w' = wx) := fun wx => by rw [a0, q0]; exact of_ps f hf 0 2 (by omega) wx
  obtain ⟨A2, a2⟩ : ∃ P, P = ps f 2 2 := ⟨_, rfl⟩
  obtain ⟨o2, q2⟩ : ∃ o, o = pn f 2 2 := ⟨_, rfl⟩
  have e2 : s.extract 2 4 = A2 := by rw [hs, a2]; exact strOf_extract f hf len 2 4 (by omega) (by omega)
  have HO2 : Hid (∀ wx : World, Calls Try.prog 43 #[.string A2] wx fun e w' => e = .returned (.int .i64 o2) ∧ w' = wx) := fun wx => by rw [a2, q2]; exact of_ps f hf 2 2 (by omega) wx
  obtain ⟨A4, a4⟩ : ∃ P, P = ps f 4 4 := ⟨_, rfl⟩
  obtain ⟨o4, q4⟩ : ∃ o, o = pn f 4 4 := ⟨_, rfl⟩
  have e4 : s.extract 4 8 = A4 := by rw [hs, a4]; exact strOf_extract f hf len 4 8 (by omega) (by omega)
  have HO4 : Hid (∀ wx : World, Calls Try.prog 43 #[.string A4] wx fun e w' => e = .returned (.int .i64 o4) ∧ w' = wx) := fun wx => by rw [a4, q4]; exact of_ps f hf 4 4 (by omega) wx
  obtain ⟨A8, a8⟩ : ∃ P, P = ps f 8 4 := ⟨_, rfl⟩
  obtain ⟨o8, q8⟩ : ∃ o, o = pn f 8 4 := ⟨_, rfl⟩
  have e8 : s.extract 8 12 = A8 := by rw [hs, a8]; exact strOf_extract f hf len 8 12 (by omega) (by omega)
  have HO8 : Hid (∀ wx : World, Calls Try.prog 43 #[.string A8] wx fun e w' => e = .returned (.int .i64 o8) ∧ w' = wx) := fun wx => by rw [a8, q8]; exact of_ps f hf 8 4 (by omega) wx
  obtain ⟨A14, a14⟩ : ∃ P, P = ps f 14 2 := ⟨_, rfl⟩
  obtain ⟨o14, q14⟩ : ∃ o, o = pn f 14 2 := ⟨_, rfl⟩
  have e14 : s.extract 14 16 = A14 := by rw [hs, a14]; exact strOf_extract f hf len 14 16 (by omega) (by omega)
  have HO14 : Hid (∀ wx : World, Calls Try.prog 43 #[.string A14] wx fun e w' => e = .returned (.int .i64 o14) ∧ w' = wx) := fun wx => by rw [a14, q14]; exact of_ps f hf 14 2 (by omega) wx
  obtain ⟨P0, hP0⟩ : ∃ P0, P0 = pseudoS src dst 6 (len : Int) := ⟨_, rfl⟩
  have zP : P0.size = 12 := by rw [hP0]; exact pseudoS_size _ _ _ _
  have HPS : Hid (∀ wx : World, Calls Try.prog 47 #[.int .i64 src, .int .i64 dst, .int .i64 6, .int .i64 (len : Int)] wx fun e w' => e = .returned (.string P0) ∧ Below wx.heap.size wx w') := fun wx => by rw [hP0]; exact l02Pseudo_any _ _ _ _ wx s0 s1 d0 d1 (by omega) (by omega) (by omega) (by omega)
  obtain ⟨E, hE⟩ : ∃ E, E = endsL src dst 6 ((List.range len).map f) := ⟨_, rfl⟩
  have HSM : Hid (∀ wx : World, Calls Try.prog 44 #[.string (P0 ++ s)] wx fun e w' => e = .returned (.int .i64 E) ∧ w' = wx) := fun wx => by
    rw [hE]
    have hl : (((List.range len).map f).length : Int) = (len : Int) := by simp
    unfold endsL
    rw [hl]
    refine sum_str _ _ ?_ (by simp only [ByteArray.size_append]; omega) wx
    rw [nums_append, hP0, hs, pseudoS_nums _ _ _ _ (by omega) (by omega), nums_strOf f len hf]
  have hadd : ∀ wx : World, (Op.stringOp .add P0 s).run Try.prog wx = .ok (.string (P0 ++ s)) wx := fun wx => run_string_add_sum (P := Try.prog) (w := wx) _ _ (by omega)
  have Z0 : Hid (Slots (w.alloc (.cells #[.int .i64 0, .int .i64 0, .int .i64 0, .int .i64 0, .int .i64 0, .int .i64 0, .string ⟨#[]⟩] 32)) w.heap.size [.int .i64 0, .int .i64 0, .int .i64 0, .int .i64 0, .int .i64 0, .int .i64 0, .string ⟨#[]⟩]) := Slots.new w _ _
  have B0 : Hid (Below w.heap.size w (w.alloc (.cells #[.int .i64 0, .int .i64 0, .int .i64 0, .int .i64 0, .int .i64 0, .int .i64 0, .string ⟨#[]⟩] 32))) := (Below.refl _ _).alloc (Nat.le_refl _) _
  have hq : 4 * (f 12 / 16) = (H : Int) := by omega
  have iH : (20 : Int) ≤ (H : Int) := by omega
  have iL : (H : Int) ≤ (len : Int) := by omega
  have HE0 : Hid (E = 0) := by show E = 0; rw [hE]; exact hm
  obtain ⟨PB, pB⟩ : ∃ P, P = ps f H (len - H) := ⟨_, rfl⟩
  have eB : s.extract H len = PB := by rw [hs, pB]; exact strOf_extract f hf len H len (by omega) (by omega)
  have t13 : bt s 13 = f 13 := by rw [hs]; exact strOf_bt f len hf 13 (by omega)
  have hmk : bits BinOp.and IntKind.i64 (f 13) 31 = f 13 % 32 := by have := hf 13; exact Bt.mask 5 (by omega) _ (by omega) (by omega)
  have hw13 : IntKind.i64.wrap (f 13) = f 13 := by have := hf 13; rw [IntKind.wrap_i64]; omega
  have i2 : (2 : Int) ≤ (len : Int) := by omega
  have i4 : (4 : Int) ≤ (len : Int) := by omega
  have i8 : (8 : Int) ≤ (len : Int) := by omega
  have i12 : (12 : Int) ≤ (len : Int) := by omega
  have i13 : (13 : Int) < (len : Int) := by omega
  have i16 : (16 : Int) ≤ (len : Int) := by omega
  rw [← hs, ← q0, ← q2, ← q4, ← q8, ← q14, ← pB]
  clear hs a0 a2 a4 a8 a14 q0 q2 q4 q8 q14 pB hP0 hE hm hH hf
  go_enter Try.func29, Try.ntmps29
  go_wp2_with fail
  refine (HPS.out _).mono ?_
  rintro e w2 ⟨rfl, b3⟩
  have Z2 : Hid (Slots w2 w.heap.size [.int .i64 0, .int .i64 0, .int .i64 0, .int .i64 0, .int .i64 0, .int .i64 0, .string ⟨#[]⟩] ∧ Below w.heap.size w w2) := ⟨Z0.out.below b3 (by simp), B0.out.trans (b3.mono (by simp))⟩
  clear b3
  go_wp2_with fail
  refine (HSM.out _).mono ?_
  rintro e w1 ⟨rfl, hw1⟩
  obtain rfl := hw1.symm
  clear hw1
  rw [HE0.out]
  have k0 := Z2.out.1.1.at 0 _ rfl
  have y0 := Z2.out.1.2 0
  have k1 := Z2.out.1.1.at 1 _ rfl
  have y1 := Z2.out.1.2 1
  have k2 := Z2.out.1.1.at 2 _ rfl
  have y2 := Z2.out.1.2 2
  have k3 := Z2.out.1.1.at 3 _ rfl
  have y3 := Z2.out.1.2 3
  have k4 := Z2.out.1.1.at 4 _ rfl
  have y4 := Z2.out.1.2 4
  have k5 := Z2.out.1.1.at 5 _ rfl
  have y5 := Z2.out.1.2 5
  have k6 := Z2.out.1.1.at 6 _ rfl
  have y6 := Z2.out.1.2 6
  have kd0 : w2.drew.cell? ⟨w.heap.size, 0, none⟩ = some _ := Z2.out.1.1.at 0 _ rfl
  have yd0 : w2.drew.frozen? ⟨w.heap.size, 0, none⟩ = false := Z2.out.1.2 0
  have kd1 : w2.drew.cell? ⟨w.heap.size, 1, none⟩ = some _ := Z2.out.1.1.at 1 _ rfl
  have yd1 : w2.drew.frozen? ⟨w.heap.size, 1, none⟩ = false := Z2.out.1.2 1
  have kd2 : w2.drew.cell? ⟨w.heap.size, 2, none⟩ = some _ := Z2.out.1.1.at 2 _ rfl
  have yd2 : w2.drew.frozen? ⟨w.heap.size, 2, none⟩ = false := Z2.out.1.2 2
  have kd3 : w2.drew.cell? ⟨w.heap.size, 3, none⟩ = some _ := Z2.out.1.1.at 3 _ rfl
  have yd3 : w2.drew.frozen? ⟨w.heap.size, 3, none⟩ = false := Z2.out.1.2 3
  have kd4 : w2.drew.cell? ⟨w.heap.size, 4, none⟩ = some _ := Z2.out.1.1.at 4 _ rfl
  have yd4 : w2.drew.frozen? ⟨w.heap.size, 4, none⟩ = false := Z2.out.1.2 4
  have kd5 : w2.drew.cell? ⟨w.heap.size, 5, none⟩ = some _ := Z2.out.1.1.at 5 _ rfl
  have yd5 : w2.drew.frozen? ⟨w.heap.size, 5, none⟩ = false := Z2.out.1.2 5
  have kd6 : w2.drew.cell? ⟨w.heap.size, 6, none⟩ = some _ := Z2.out.1.1.at 6 _ rfl
  have yd6 : w2.drew.frozen? ⟨w.heap.size, 6, none⟩ = false := Z2.out.1.2 6
  clear HPS HSM HE0 hadd
  go_wp2
  go_region_held3 (fun _ => True) (trivial)
    (first | (go_at_call 43; (with_reducible refine (HO0.out _).mono ?_); rintro e w1 ⟨rfl, rfl⟩) | (go_at_call 43; (with_reducible refine (HO2.out _).mono ?_); rintro e w1 ⟨rfl, rfl⟩) | (go_at_call 43; (with_reducible refine (HO4.out _).mono ?_); rintro e w1 ⟨rfl, rfl⟩) | (go_at_call 43; (with_reducible refine (HO8.out _).mono ?_); rintro e w1 ⟨rfl, rfl⟩) | (go_at_call 43; (with_reducible refine (HO14.out _).mono ?_); rintro e w1 ⟨rfl, rfl⟩))
  all_goals
    rename_i hHeld
    clear hHeld HO0 HO2 HO4 HO8 HO14 Z0 B0 yd0 yd1 yd2 yd3 yd4 yd5 yd6 y0 y1 y2 y3 y4 y5 y6 kd0 kd1 kd2 kd3 kd4 kd5 kd6 hb
    go_wp2
    (try simp only [Exit.inBlock, Exit.then])
    refine bodyPost_ret (v := .tuple #[.agg #[.int .i64 o0, .int .i64 o2, .int .i64 o4, .int .i64 o8, .int .i64 (f 13 % 32), .int .i64 o14, .string PB], .int .i64 0]) (by simp [results, Try.results29, go_sem, *]; try rfl) rfl ?_
    exact ⟨rfl, (((((((Z2.out.2.setCell (by simp) _).setCell (by simp) _).setCell (by simp) _).setCell (by simp) _).setCell (by simp) _).setCell (by simp) _).setCell (by simp) _).drew⟩

theorem specReadSg_long (src dst : Int) (a : Option Addr) (len cap : Nat) (w : World) (hl : 65536 < len) :
    Calls Try.prog 12 #[.int .i64 src, .int .i64 dst, .slice a len cap] w fun e w' => e = .returned (.tuple #[.agg #[.int .i64 0, .int .i64 0, .int .i64 0, .int .i64 0, .int .i64 0, .int .i64 0, .string ⟨#[]⟩], .int .i64 2]) ∧ Below w.heap.size w w' := by
  go_enter Try.func12, Try.ntmps12
  go_wp2
  go_returns
  exact ⟨rfl, (Below.refl _ _).alloc (Nat.le_refl _) _⟩
theorem specReadSg_range (src dst : Int) (a : Option Addr) (len cap : Nat) (w : World) (hl : len ≤ 65536) (h : ¬ ((0 ≤ src ∧ src ≤ 4294967295) ∧ (0 ≤ dst ∧ dst ≤ 4294967295))) :
    Calls Try.prog 12 #[.int .i64 src, .int .i64 dst, .slice a len cap] w fun e w' => e = .returned (.tuple #[.agg #[.int .i64 0, .int .i64 0, .int .i64 0, .int .i64 0, .int .i64 0, .int .i64 0, .string ⟨#[]⟩], .int .i64 4]) ∧ Below w.heap.size w w' := by
  by_cases h1 : 0 ≤ src ∧ src ≤ 4294967295
  · have b1 := dec_y h1
    have b2 := dec_n (fun h2 : 0 ≤ dst ∧ dst ≤ 4294967295 => h ⟨h1, h2⟩)
    clear h h1
    go_enter Try.func12, Try.ntmps12
    go_wp2_with fail
    refine (specIp_any _ _).mono ?_
    rintro e w1 ⟨rfl, hw1⟩
    obtain rfl := hw1.symm
    clear hw1
    go_wp2_with fail
    refine (specIp_any _ _).mono ?_
    rintro e w1 ⟨rfl, hw1⟩
    obtain rfl := hw1.symm
    clear hw1
    go_wp2
    go_returns
    exact ⟨rfl, (Below.refl _ _).alloc (Nat.le_refl _) _⟩
  · have b1 := dec_n h1
    clear h h1
    go_enter Try.func12, Try.ntmps12
    go_wp2_with fail
    refine (specIp_any _ _).mono ?_
    rintro e w1 ⟨rfl, hw1⟩
    obtain rfl := hw1.symm
    clear hw1
    go_wp2
    go_returns
    exact ⟨rfl, (Below.refl _ _).alloc (Nat.le_refl _) _⟩

set_option maxHeartbeats 1000000 in
theorem specReadSg_of (src dst : Int) (h1 : 0 ≤ src ∧ src ≤ 4294967295) (h2 : 0 ≤ dst ∧ dst ≤ 4294967295) (v0 v1 v2 v3 v4 v5 : Int) (v6 : ByteArray) (c : Int) (f : Nat → Int) (len : Nat) (hl : len ≤ 65536)
    (h : ∀ wx : World, Calls Try.prog 29 #[.int .i64 src, .int .i64 dst, .string (strOf f len)] wx fun e w' => e = .returned (.tuple #[.agg #[.int .i64 v0, .int .i64 v1, .int .i64 v2, .int .i64 v3, .int .i64 v4, .int .i64 v5, .string v6], .int .i64 c]) ∧ Below wx.heap.size wx w')
    (w : World) (a : Option Addr) (cap : Nat) (hb : Bytes w a len f) :
    Calls Try.prog 12 #[.int .i64 src, .int .i64 dst, .slice a len cap] w fun e w' => e = .returned (.tuple #[.agg #[.int .i64 v0, .int .i64 v1, .int .i64 v2, .int .i64 v3, .int .i64 v4, .int .i64 v5, .string v6], .int .i64 c]) ∧ Below w.heap.size w w' := by
  have b1 := dec_y h1
  have b2 := dec_y h2
  have H : Hid (∀ wx : World, Calls Try.prog 29 #[.int .i64 src, .int .i64 dst, .string (strOf f len)] wx fun e w' => e = .returned (.tuple #[.agg #[.int .i64 v0, .int .i64 v1, .int .i64 v2, .int .i64 v3, .int .i64 v4, .int .i64 v5, .string v6], .int .i64 c]) ∧ Below wx.heap.size wx w') := h
  have X : Hid (RdS w [.int .i64 0, .int .i64 0, .int .i64 0, .int .i64 0, .int .i64 0, .int .i64 0, .string ⟨#[]⟩] a len f (w.alloc (.cells #[.int .i64 0, .int .i64 0, .int .i64 0, .int .i64 0, .int .i64 0, .int .i64 0, .string ⟨#[]⟩] 32))) := RdS.new hb _
  have hcv := conv_row (P := Try.prog) _ 22 9 5 Try.underlying22 Try.underlying5 Try.underlying9 a len cap f X.out.1
  clear h hb h1 h2
  go_enter Try.func12, Try.ntmps12
  go_wp2_with fail
  refine (specIp_any _ _).mono ?_
  rintro e w1 ⟨rfl, hw1⟩
  obtain rfl := hw1.symm
  clear hw1
  go_wp2_with fail
  refine (specIp_any _ _).mono ?_
  rintro e w1 ⟨rfl, hw1⟩
  obtain rfl := hw1.symm
  clear hw1
  go_wp2_with fail
  refine (H.out _).mono ?_
  rintro e w2 ⟨rfl, b2⟩
  have X2 : Hid (RdS w [.int .i64 0, .int .i64 0, .int .i64 0, .int .i64 0, .int .i64 0, .int .i64 0, .string ⟨#[]⟩] a len f w2) := RdS.next X.out b2
  clear b2 hcv
  have k0 := X2.out.2.2.2.1.at 0 _ rfl
  have y0 := X2.out.2.2.2.2 0
  have k1 := X2.out.2.2.2.1.at 1 _ rfl
  have y1 := X2.out.2.2.2.2 1
  have k2 := X2.out.2.2.2.1.at 2 _ rfl
  have y2 := X2.out.2.2.2.2 2
  have k3 := X2.out.2.2.2.1.at 3 _ rfl
  have y3 := X2.out.2.2.2.2 3
  have k4 := X2.out.2.2.2.1.at 4 _ rfl
  have y4 := X2.out.2.2.2.2 4
  have k5 := X2.out.2.2.2.1.at 5 _ rfl
  have y5 := X2.out.2.2.2.2 5
  have k6 := X2.out.2.2.2.1.at 6 _ rfl
  have y6 := X2.out.2.2.2.2 6
  go_wp2
  (try simp only [Exit.inBlock, Exit.then])
  refine bodyPost_ret (v := .tuple #[.agg #[.int .i64 v0, .int .i64 v1, .int .i64 v2, .int .i64 v3, .int .i64 v4, .int .i64 v5, .string v6], .int .i64 c]) (by simp [results, Try.results12, go_sem, *]; try rfl) rfl ?_
  exact ⟨rfl, ((((((X2.out.2.1.setCell (by simp) _).setCell (by simp) _).setCell (by simp) _).setCell (by simp) _).setCell (by simp) _).setCell (by simp) _).setCell (by simp) _⟩

theorem readSg_both (src dst : Int) (len : Nat) (f : Nat → Int) (hf : ∀ k, 0 ≤ f k ∧ f k ≤ 255) :
    ∃ (v0 v1 v2 v3 v4 v5 : Int) (v6 : ByteArray) (c : Int), RdReadSegment 12 src dst len f v0 v1 v2 v3 v4 v5 v6 c ∧ RdReadSegment 13 src dst len f v0 v1 v2 v3 v4 v5 v6 c := by
  by_cases hl : len ≤ 65536
  · by_cases he : (0 ≤ src ∧ src ≤ 4294967295) ∧ (0 ≤ dst ∧ dst ≤ 4294967295)
    · by_cases h : len < 20 ∨ 380 < len
      · exact ⟨_, _, _, _, _, _, _, _, fun w a cap hb hc hx => specReadSg_of src dst he.1 he.2 _ _ _ _ _ _ _ _ f len hl (fun wx => l02ReadSg_form src dst _ wx (by rw [strOf_size]; exact hl) (by rw [strOf_size]; exact h)) w a cap hb, fun w a cap hb hc hx => readSg_form src dst a len cap w hl he.1 he.2 h⟩
      · have h20 : 20 ≤ len := by omega
        have h380 : len ≤ 380 := by omega
        have hb12 := hf 12
        by_cases hn : 4 * (f 12 / 16) < 20 ∨ (len : Int) < 4 * (f 12 / 16)
        · exact ⟨_, _, _, _, _, _, _, _, fun w a cap hb hc hx => specReadSg_of src dst he.1 he.2 _ _ _ _ _ _ _ _ f len hl (fun wx => l02ReadSg_head src dst f hf len wx he.1.1 he.1.2 he.2.1 he.2.2 h20 h380 hn) w a cap hb, fun w a cap hb hc hx => readSg_head src dst a len cap f w hb hc hx he.1.1 he.1.2 he.2.1 he.2.2 h20 h380 hn⟩
        · obtain ⟨H, hH⟩ : ∃ H : Nat, (H : Int) = 4 * (f 12 / 16) := ⟨(4 * (f 12 / 16)).toNat, by omega⟩
          have hH0 : 20 ≤ H := by omega
          have hH1 : H ≤ len := by omega
          by_cases hm : endsL src dst 6 ((List.range len).map f) = 0
          · exact ⟨_, _, _, _, _, _, _, _, fun w a cap hb hc hx => specReadSg_of src dst he.1 he.2 _ _ _ _ _ _ _ _ f len hl (fun wx => l02ReadSg_yes src dst f hf len wx he.1.1 he.1.2 he.2.1 he.2.2 h20 h380 H hH hH0 hH1 hm) w a cap hb, fun w a cap hb hc hx => readSg_yes src dst a len cap f w hb hc hx he.1.1 he.1.2 he.2.1 he.2.2 h20 h380 H hH hH0 hH1 hm⟩
          · exact ⟨_, _, _, _, _, _, _, _, fun w a cap hb hc hx => specReadSg_of src dst he.1 he.2 _ _ _ _ _ _ _ _ f len hl (fun wx => l02ReadSg_sum src dst f hf len wx he.1.1 he.1.2 he.2.1 he.2.2 h20 h380 H hH hH0 hH1 hm) w a cap hb, fun w a cap hb hc hx => readSg_sum src dst a len cap f w hb hc hx he.1.1 he.1.2 he.2.1 he.2.2 h20 h380 H hH hH0 hH1 hm⟩
    · exact ⟨_, _, _, _, _, _, _, _, fun w a cap hb hc hx => specReadSg_range src dst a len cap w hl he, fun w a cap hb hc hx => readSg_range src dst a len cap w hl he⟩
  · exact ⟨_, _, _, _, _, _, _, _, fun w a cap hb hc hx => specReadSg_long src dst a len cap w (by omega), fun w a cap hb hc hx => readSg_long src dst a len cap w (by omega)⟩
end Go.Proofs.Ytdhjbbnggeamhab
