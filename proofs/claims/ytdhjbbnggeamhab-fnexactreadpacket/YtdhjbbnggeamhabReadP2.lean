/- ReadPacket, the model, and both. -/
import Derived.Test.YtdhjbbnggeamhabReadP
import Derived.Test.YtdhjbbnggeamhabLawReadPacket
namespace Go.Proofs.Ytdhjbbnggeamhab
open Go.RowKit Go.PlainAid Go.Proofs.Ytdhjbbnggeamhab.Pl
set_option linter.unusedVariables false
set_option maxRecDepth 20000

theorem l02ReadPk_form (s : ByteArray) (w : World) (hs : s.size ≤ 65536) (h : s.size < 20 ∨ 400 < s.size) :
    Calls Try.prog 24 #[.string s] w fun e w' => e = .returned (.tuple #[.agg #[.int .i64 0, .int .i64 0, .int .i64 0, .int .i64 0, .int .i64 0, .string ⟨#[]⟩], .int .i64 3]) ∧ Below w.heap.size w w' := by
  rcases h with h | h
  all_goals
    go_enter Try.func24, Try.ntmps24
    go_wp2
    go_returns
    exact ⟨rfl, (Below.refl _ _).alloc (Nat.le_refl _) _⟩

theorem l02ReadPk_first (f : Nat → Int) (hf : ∀ k, 0 ≤ f k ∧ f k ≤ 255) (len : Nat) (w : World) (h20 : 20 ≤ len) (h400 : len ≤ 400) (h0 : f 0 ≠ 69) :
    Calls Try.prog 24 #[.string (strOf f len)] w fun e w' => e = .returned (.tuple #[.agg #[.int .i64 0, .int .i64 0, .int .i64 0, .int .i64 0, .int .i64 0, .string ⟨#[]⟩], .int .i64 3]) ∧ Below w.heap.size w w' := by
  obtain ⟨s, hs⟩ : ∃ s, s = strOf f len := ⟨_, rfl⟩
  have hz0 : s.size = len := by rw [hs]; exact strOf_size _ _
  have hb := get_bt s
  have t0 : bt s 0 = f 0 := by rw [hs]; exact strOf_bt f len hf 0 (by omega)
  have t8 : bt s 8 = f 8 := by rw [hs]; exact strOf_bt f len hf 8 (by omega)
  have t9 : bt s 9 = f 9 := by rw [hs]; exact strOf_bt f len hf 9 (by omega)
  obtain ⟨A2, a2⟩ : ∃ P, P = ps f 2 2 := ⟨_, rfl⟩
  obtain ⟨o2, q2⟩ : ∃ o, o = pn f 2 2 := ⟨_, rfl⟩
  have e2 : s.extract 2 4 = A2 := by rw [hs, a2]; exact strOf_extract f hf len 2 4 (by omega) (by omega)
  have HO2 : Hid (∀ wx : World, Calls Try.prog 43 #[.string A2] wx fun e w' => e = .returned (.int .i64 o2) ∧ w' = wx) := fun wx => by rw [a2, q2]; exact of_ps f hf 2 2 (by omega) wx
  obtain ⟨A4, a4⟩ : ∃ P, P = ps f 4 2 := ⟨_, rfl⟩
  obtain ⟨o4, q4⟩ : ∃ o, o = pn f 4 2 := ⟨_, rfl⟩
  have e4 : s.extract 4 6 = A4 := by rw [hs, a4]; exact strOf_extract f hf len 4 6 (by omega) (by omega)
  have HO4 : Hid (∀ wx : World, Calls Try.prog 43 #[.string A4] wx fun e w' => e = .returned (.int .i64 o4) ∧ w' = wx) := fun wx => by rw [a4, q4]; exact of_ps f hf 4 2 (by omega) wx
  obtain ⟨A6, a6⟩ : ∃ P, P = ps f 6 2 := ⟨_, rfl⟩
  obtain ⟨o6, q6⟩ : ∃ o, o = pn f 6 2 := ⟨_, rfl⟩
  have e6 : s.extract 6 8 = A6 := by rw [hs, a6]; exact strOf_extract f hf len 6 8 (by omega) (by omega)
  have HO6 : Hid (∀ wx : World, Calls Try.prog 43 #[.string A6] wx fun e w' => e = .returned (.int .i64 o6) ∧ w' = wx) := fun wx => by rw [a6, q6]; exact of_ps f hf 6 2 (by omega) wx
  obtain ⟨A12, a12⟩ : ∃ P, P = ps f 12 4 := ⟨_, rfl⟩
  obtain ⟨o12, q12⟩ : ∃ o, o = pn f 12 4 := ⟨_, rfl⟩
  have e12 : s.extract 12 16 = A12 := by rw [hs, a12]; exact strOf_extract f hf len 12 16 (by omega) (by omega)
  have HO12 : Hid (∀ wx : World, Calls Try.prog 43 #[.string A12] wx fun e w' => e = .returned (.int .i64 o12) ∧ w' = wx) := fun wx => by rw [a12, q12]; exact of_ps f hf 12 4 (by omega) wx
  obtain ⟨A16, a16⟩ : ∃ P, P = ps f 16 4 := ⟨_, rfl⟩
  obtain ⟨o16, q16⟩ : ∃ o, o = pn f 16 4 := ⟨_, rfl⟩
  have e16 : s.extract 16 20 = A16 := by rw [hs, a16]; exact strOf_extract f hf len 16 20 (by omega) (by omega)
  have HO16 : Hid (∀ wx : World, Calls Try.prog 43 #[.string A16] wx fun e w' => e = .returned (.int .i64 o16) ∧ w' = wx) := fun wx => by rw [a16, q16]; exact of_ps f hf 16 4 (by omega) wx
  obtain ⟨AH, aH⟩ : ∃ P, P = ps f 0 20 := ⟨_, rfl⟩
  have zH : AH.size = 20 := by rw [aH]; exact ps_size _ _ _
  have eH : s.extract 0 20 = AH := by rw [hs, aH]; exact strOf_extract f hf len 0 20 (by omega) (by omega)
  obtain ⟨C, hC⟩ : ∃ C, C = chk f 20 := ⟨_, rfl⟩
  have HC : Hid (∀ wx : World, Calls Try.prog 44 #[.string AH] wx fun e w' => e = .returned (.int .i64 C) ∧ w' = wx) := fun wx => by
    have := sum16_any AH wx (by omega)
    rw [zH, chk_congr (bt AH) f 20 (fun j hj => by rw [aH]; exact (strOf_bt _ _ (fun k => hf _) j hj).trans (by rw [Nat.zero_add]))] at this
    rw [hC]
    exact this
  have i4 : (4 : Int) ≤ (len : Int) := by omega
  have i6 : (6 : Int) ≤ (len : Int) := by omega
  have i8 : (8 : Int) ≤ (len : Int) := by omega
  have i16 : (16 : Int) ≤ (len : Int) := by omega
  have i20 : (20 : Int) ≤ (len : Int) := by omega
  have bn : (f 0 != 69) = true := by simpa using h0
  rw [← hs]
  clear hs a2 a4 a6 a12 a16 aH q2 q4 q6 q12 q16 hC
  clear hf h0
  go_enter Try.func24, Try.ntmps24
  go_wp2
  go_returns
  exact ⟨rfl, (Below.refl _ _).alloc (Nat.le_refl _) _⟩

theorem l02ReadPk_length_lo (f : Nat → Int) (hf : ∀ k, 0 ≤ f k ∧ f k ≤ 255) (len : Nat) (w : World) (h20 : 20 ≤ len) (h400 : len ≤ 400) (h0 : f 0 = 69) (hn : pn f 2 2 < 20) :
    Calls Try.prog 24 #[.string (strOf f len)] w fun e w' => e = .returned (.tuple #[.agg #[.int .i64 0, .int .i64 0, .int .i64 0, .int .i64 0, .int .i64 0, .string ⟨#[]⟩], .int .i64 3]) ∧ Below w.heap.size w w' := by
  obtain ⟨s, hs⟩ : ∃ s, s = strOf f len := ⟨_, rfl⟩
  have hz0 : s.size = len := by rw [hs]; exact strOf_size _ _
  have hb := get_bt s
  have t0 : bt s 0 = f 0 := by rw [hs]; exact strOf_bt f len hf 0 (by omega)
  have t8 : bt s 8 = f 8 := by rw [hs]; exact strOf_bt f len hf 8 (by omega)
  have t9 : bt s 9 = f 9 := by rw [hs]; exact strOf_bt f len hf 9 (by omega)
  obtain ⟨A2, a2⟩ : ∃ P, P = ps f 2 2 := ⟨_, rfl⟩
  obtain ⟨o2, q2⟩ : ∃ o, o = pn f 2 2 := ⟨_, rfl⟩
  have e2 : s.extract 2 4 = A2 := by rw [hs, a2]; exact strOf_extract f hf len 2 4 (by omega) (by omega)
  have HO2 : Hid (∀ wx : World, Calls Try.prog 43 #[.string A2] wx fun e w' => e = .returned (.int .i64 o2) ∧ w' = wx) := fun wx => by rw [a2, q2]; exact of_ps f hf 2 2 (by omega) wx
  obtain ⟨A4, a4⟩ : ∃ P, P = ps f 4 2 := ⟨_, rfl⟩
  obtain ⟨o4, q4⟩ : ∃ o, o = pn f 4 2 := ⟨_, rfl⟩
  have e4 : s.extract 4 6 = A4 := by rw [hs, a4]; exact strOf_extract f hf len 4 6 (by omega) (by omega)
  have HO4 : Hid (∀ wx : World, Calls Try.prog 43 #[.string A4] wx fun e w' => e = .returned (.int .i64 o4) ∧ w' = wx) := fun wx => by rw [a4, q4]; exact of_ps f hf 4 2 (by omega) wx
  obtain ⟨A6, a6⟩ : ∃ P, P = ps f 6 2 := ⟨_, rfl⟩
  obtain ⟨o6, q6⟩ : ∃ o, o = pn f 6 2 := ⟨_, rfl⟩
  have e6 : s.extract 6 8 = A6 := by rw [hs, a6]; exact strOf_extract f hf len 6 8 (by omega) (by omega)
  have HO6 : Hid (∀ wx : World, Calls Try.prog 43 #[.string A6] wx fun e w' => e = .returned (.int .i64 o6) ∧ w' = wx) := fun wx => by rw [a6, q6]; exact of_ps f hf 6 2 (by omega) wx
  obtain ⟨A12, a12⟩ : ∃ P, P = ps f 12 4 := ⟨_, rfl⟩
  obtain ⟨o12, q12⟩ : ∃ o, o = pn f 12 4 := ⟨_, rfl⟩
  have e12 : s.extract 12 16 = A12 := by rw [hs, a12]; exact strOf_extract f hf len 12 16 (by omega) (by omega)
  have HO12 : Hid (∀ wx : World, Calls Try.prog 43 #[.string A12] wx fun e w' => e = .returned (.int .i64 o12) ∧ w' = wx) := fun wx => by rw [a12, q12]; exact of_ps f hf 12 4 (by omega) wx
  obtain ⟨A16, a16⟩ : ∃ P, P = ps f 16 4 := ⟨_, rfl⟩
  obtain ⟨o16, q16⟩ : ∃ o, o = pn f 16 4 := ⟨_, rfl⟩
  have e16 : s.extract 16 20 = A16 := by rw [hs, a16]; exact strOf_extract f hf len 16 20 (by omega) (by omega)
  have HO16 : Hid (∀ wx : World, Calls Try.prog 43 #[.string A16] wx fun e w' => e = .returned (.int .i64 o16) ∧ w' = wx) := fun wx => by rw [a16, q16]; exact of_ps f hf 16 4 (by omega) wx
  obtain ⟨AH, aH⟩ : ∃ P, P = ps f 0 20 := ⟨_, rfl⟩
  have zH : AH.size = 20 := by rw [aH]; exact ps_size _ _ _
  have eH : s.extract 0 20 = AH := by rw [hs, aH]; exact strOf_extract f hf len 0 20 (by omega) (by omega)
  obtain ⟨C, hC⟩ : ∃ C, C = chk f 20 := ⟨_, rfl⟩
  have HC : Hid (∀ wx : World, Calls Try.prog 44 #[.string AH] wx fun e w' => e = .returned (.int .i64 C) ∧ w' = wx) := fun wx => by
    have := sum16_any AH wx (by omega)
    rw [zH, chk_congr (bt AH) f 20 (fun j hj => by rw [aH]; exact (strOf_bt _ _ (fun k => hf _) j hj).trans (by rw [Nat.zero_add]))] at this
    rw [hC]
    exact this
  have i4 : (4 : Int) ≤ (len : Int) := by omega
  have i6 : (6 : Int) ≤ (len : Int) := by omega
  have i8 : (8 : Int) ≤ (len : Int) := by omega
  have i16 : (16 : Int) ≤ (len : Int) := by omega
  have i20 : (20 : Int) ≤ (len : Int) := by omega
  have bn : (f 0 != 69) = false := by simpa using h0
  rw [← q2] at hn
  rw [← hs]
  clear hs a2 a4 a6 a12 a16 aH q2 q4 q6 q12 q16 hC
  clear hf h0
  go_enter Try.func24, Try.ntmps24
  go_wp2_with fail
  refine (HO2.out _).mono ?_
  rintro e w1 ⟨rfl, hw1⟩
  obtain rfl := hw1.symm
  clear hw1
  go_wp2
  go_returns
  exact ⟨rfl, (Below.refl _ _).alloc (Nat.le_refl _) _⟩

theorem l02ReadPk_length_hi (f : Nat → Int) (hf : ∀ k, 0 ≤ f k ∧ f k ≤ 255) (len : Nat) (w : World) (h20 : 20 ≤ len) (h400 : len ≤ 400) (h0 : f 0 = 69) (hn : (len : Int) < pn f 2 2) :
    Calls Try.prog 24 #[.string (strOf f len)] w fun e w' => e = .returned (.tuple #[.agg #[.int .i64 0, .int .i64 0, .int .i64 0, .int .i64 0, .int .i64 0, .string ⟨#[]⟩], .int .i64 3]) ∧ Below w.heap.size w w' := by
  obtain ⟨s, hs⟩ : ∃ s, s = strOf f len := ⟨_, rfl⟩
  have hz0 : s.size = len := by rw [hs]; exact strOf_size _ _
  have hb := get_bt s
  have t0 : bt s 0 = f 0 := by rw [hs]; exact strOf_bt f len hf 0 (by omega)
  have t8 : bt s 8 = f 8 := by rw [hs]; exact strOf_bt f len hf 8 (by omega)
  have t9 : bt s 9 = f 9 := by rw [hs]; exact strOf_bt f len hf 9 (by omega)
  obtain ⟨A2, a2⟩ : ∃ P, P = ps f 2 2 := ⟨_, rfl⟩
  obtain ⟨o2, q2⟩ : ∃ o, o = pn f 2 2 := ⟨_, rfl⟩
  have e2 : s.extract 2 4 = A2 := by rw [hs, a2]; exact strOf_extract f hf len 2 4 (by omega) (by omega)
  have HO2 : Hid (∀ wx : World, Calls Try.prog 43 #[.string A2] wx fun e w' => e = .returned (.int .i64 o2) ∧ w' = wx) := fun wx => by rw [a2, q2]; exact of_ps f hf 2 2 (by omega) wx
  obtain ⟨A4, a4⟩ : ∃ P, P = ps f 4 2 := ⟨_, rfl⟩
  obtain ⟨o4, q4⟩ : ∃ o, o = pn f 4 2 := ⟨_, rfl⟩
  have e4 : s.extract 4 6 = A4 := by rw [hs, a4]; exact strOf_extract f hf len 4 6 (by omega) (by omega)
  have HO4 : Hid (∀ wx : World, Calls Try.prog 43 #[.string A4] wx fun e w' => e = .returned (.int .i64 o4) ∧ w' = wx) := fun wx => by rw [a4, q4]; exact of_ps f hf 4 2 (by omega) wx
  obtain ⟨A6, a6⟩ : ∃ P, P = ps f 6 2 := ⟨_, rfl⟩
  obtain ⟨o6, q6⟩ : ∃ o, o = pn f 6 2 := ⟨_, rfl⟩
  have e6 : s.extract 6 8 = A6 := by rw [hs, a6]; exact strOf_extract f hf len 6 8 (by omega) (by omega)
  have HO6 : Hid (∀ wx : World, Calls Try.prog 43 #[.string A6] wx fun e w' => e = .returned (.int .i64 o6) ∧ w' = wx) := fun wx => by rw [a6, q6]; exact of_ps f hf 6 2 (by omega) wx
  obtain ⟨A12, a12⟩ : ∃ P, P = ps f 12 4 := ⟨_, rfl⟩
  obtain ⟨o12, q12⟩ : ∃ o, o = pn f 12 4 := ⟨_, rfl⟩
  have e12 : s.extract 12 16 = A12 := by rw [hs, a12]; exact strOf_extract f hf len 12 16 (by omega) (by omega)
  have HO12 : Hid (∀ wx : World, Calls Try.prog 43 #[.string A12] wx fun e w' => e = .returned (.int .i64 o12) ∧ w' = wx) := fun wx => by rw [a12, q12]; exact of_ps f hf 12 4 (by omega) wx
  obtain ⟨A16, a16⟩ : ∃ P, P = ps f 16 4 := ⟨_, rfl⟩
  obtain ⟨o16, q16⟩ : ∃ o, o = pn f 16 4 := ⟨_, rfl⟩
  have e16 : s.extract 16 20 = A16 := by rw [hs, a16]; exact strOf_extract f hf len 16 20 (by omega) (by omega)
  have HO16 : Hid (∀ wx : World, Calls Try.prog 43 #[.string A16] wx fun e w' => e = .returned (.int .i64 o16) ∧ w' = wx) := fun wx => by rw [a16, q16]; exact of_ps f hf 16 4 (by omega) wx
  obtain ⟨AH, aH⟩ : ∃ P, P = ps f 0 20 := ⟨_, rfl⟩
  have zH : AH.size = 20 := by rw [aH]; exact ps_size _ _ _
  have eH : s.extract 0 20 = AH := by rw [hs, aH]; exact strOf_extract f hf len 0 20 (by omega) (by omega)
  obtain ⟨C, hC⟩ : ∃ C, C = chk f 20 := ⟨_, rfl⟩
  have HC : Hid (∀ wx : World, Calls Try.prog 44 #[.string AH] wx fun e w' => e = .returned (.int .i64 C) ∧ w' = wx) := fun wx => by
    have := sum16_any AH wx (by omega)
    rw [zH, chk_congr (bt AH) f 20 (fun j hj => by rw [aH]; exact (strOf_bt _ _ (fun k => hf _) j hj).trans (by rw [Nat.zero_add]))] at this
    rw [hC]
    exact this
  have i4 : (4 : Int) ≤ (len : Int) := by omega
  have i6 : (6 : Int) ≤ (len : Int) := by omega
  have i8 : (8 : Int) ≤ (len : Int) := by omega
  have i16 : (16 : Int) ≤ (len : Int) := by omega
  have i20 : (20 : Int) ≤ (len : Int) := by omega
  have bn : (f 0 != 69) = false := by simpa using h0
  rw [← q2] at hn
  rw [← hs]
  clear hs a2 a4 a6 a12 a16 aH q2 q4 q6 q12 q16 hC
  clear hf h0
  go_enter Try.func24, Try.ntmps24
  go_wp2_with fail
  refine (HO2.out _).mono ?_
  rintro e w1 ⟨rfl, hw1⟩
  obtain rfl := hw1.symm
  clear hw1
  go_wp2
  go_returns
  exact ⟨rfl, (Below.refl _ _).alloc (Nat.le_refl _) _⟩

theorem l02ReadPk_sum (f : Nat → Int) (hf : ∀ k, 0 ≤ f k ∧ f k ≤ 255) (len : Nat) (w : World) (h20 : 20 ≤ len) (h400 : len ≤ 400) (h0 : f 0 = 69) (K : Nat) (hK : (K : Int) = pn f 2 2) (hK0 : 20 ≤ K) (hK1 : K ≤ len) (hm : chk f 20 ≠ 0) :
    Calls Try.prog 24 #[.string (strOf f len)] w fun e w' => e = .returned (.tuple #[.agg #[.int .i64 0, .int .i64 0, .int .i64 0, .int .i64 0, .int .i64 0, .string ⟨#[]⟩], .int .i64 8]) ∧ Below w.heap.size w w' := by
  obtain ⟨s, hs⟩ : ∃ s, s = strOf f len := ⟨_, rfl⟩
  have hz0 : s.size = len := by rw [hs]; exact strOf_size _ _
  have hb := get_bt s
  have t0 : bt s 0 = f 0 := by rw [hs]; exact strOf_bt f len hf 0 (by omega)
  have t8 : bt s 8 = f 8 := by rw [hs]; exact strOf_bt f len hf 8 (by omega)
  have t9 : bt s 9 = f 9 := by rw [hs]; exact strOf_bt f len hf 9 (by omega)
  obtain ⟨A2, a2⟩ : ∃ P, P = ps f 2 2 := ⟨_, rfl⟩
  obtain ⟨o2, q2⟩ : ∃ o, o = pn f 2 2 := ⟨_, rfl⟩
  have e2 : s.extract 2 4 = A2 := by rw [hs, a2]; exact strOf_extract f hf len 2 4 (by omega) (by omega)
  have HO2 : Hid (∀ wx : World, Calls Try.prog 43 #[.string A2] wx fun e w' => e = .returned (.int .i64 o2) ∧ w' = wx) := fun wx => by rw [a2, q2]; exact of_ps f hf 2 2 (by omega) wx
  obtain ⟨A4, a4⟩ : ∃ P, P = ps f 4 2 := ⟨_, rfl⟩
  obtain ⟨o4, q4⟩ : ∃ o, o = pn f 4 2 := ⟨_, rfl⟩
  have e4 : s.extract 4 6 = A4 := by rw [hs, a4]; exact strOf_extract f hf len 4 6 (by omega) (by omega)
  have HO4 : Hid (∀ wx : World, Calls Try.prog 43 #[.string A4] wx fun e w' => e = .returned (.int .i64 o4) ∧ w' = wx) := fun wx => by rw [a4, q4]; exact of_ps f hf 4 2 (by omega) wx
  obtain ⟨A6, a6⟩ : ∃ P, P = ps f 6 2 := ⟨_, rfl⟩
  obtain ⟨o6, q6⟩ : ∃ o, o = pn f 6 2 := ⟨_, rfl⟩
  have e6 : s.extract 6 8 = A6 := by rw [hs, a6]; exact strOf_extract f hf len 6 8 (by omega) (by omega)
  have HO6 : Hid (∀ wx : World, Calls Try.prog 43 #[.string A6] wx fun e w' => e = .returned (.int .i64 o6) ∧ w' = wx) := fun wx => by rw [a6, q6]; exact of_ps f hf 6 2 (by omega) wx
  obtain ⟨A12, a12⟩ : ∃ P, P = ps f 12 4 := ⟨_, rfl⟩
  obtain ⟨o12, q12⟩ : ∃ o, o = pn f 12 4 := ⟨_, rfl⟩
  have e12 : s.extract 12 16 = A12 := by rw [hs, a12]; exact strOf_extract f hf len 12 16 (by omega) (by omega)
  have HO12 : Hid (∀ wx : World, Calls Try.prog 43 #[.string A12] wx fun e w' => e = .returned (.int .i64 o12) ∧ w' = wx) := fun wx => by rw [a12, q12]; exact of_ps f hf 12 4 (by omega) wx
  obtain ⟨A16, a16⟩ : ∃ P, P = ps f 16 4 := ⟨_, rfl⟩
  obtain ⟨o16, q16⟩ : ∃ o, o = pn f 16 4 := ⟨_, rfl⟩
  have e16 : s.extract 16 20 = A16 := by rw [hs, a16]; exact strOf_extract f hf len 16 20 (by omega) (by omega)
  have HO16 : Hid (∀ wx : World, Calls Try.prog 43 #[.string A16] wx fun e w' => e = .returned (.int .i64 o16) ∧ w' = wx) := fun wx => by rw [a16, q16]; exact of_ps f hf 16 4 (by omega) wx
  obtain ⟨AH, aH⟩ : ∃ P, P = ps f 0 20 := ⟨_, rfl⟩
  have zH : AH.size = 20 := by rw [aH]; exact ps_size _ _ _
  have eH : s.extract 0 20 = AH := by rw [hs, aH]; exact strOf_extract f hf len 0 20 (by omega) (by omega)
  obtain ⟨C, hC⟩ : ∃ C, C = chk f 20 := ⟨_, rfl⟩
  have HC : Hid (∀ wx : World, Calls Try.prog 44 #[.string AH] wx fun e w' => e = .returned (.int .i64 C) ∧ w' = wx) := fun wx => by
    have := sum16_any AH wx (by omega)
    rw [zH, chk_congr (bt AH) f 20 (fun j hj => by rw [aH]; exact (strOf_bt _ _ (fun k => hf _) j hj).trans (by rw [Nat.zero_add]))] at this
    rw [hC]
    exact this
  have i4 : (4 : Int) ≤ (len : Int) := by omega
  have i6 : (6 : Int) ≤ (len : Int) := by omega
  have i8 : (8 : Int) ≤ (len : Int) := by omega
  have i16 : (16 : Int) ≤ (len : Int) := by omega
  have i20 : (20 : Int) ≤ (len : Int) := by omega
  have bn : (f 0 != 69) = false := by simpa using h0
  have qK : o2 = (K : Int) := by rw [q2, hK]
  subst qK
  have k1 : (20 : Int) ≤ (K : Int) := by omega
  have k2 : (K : Int) ≤ (len : Int) := by omega
  have bC : (C != 0) = true := by rw [hC]; simpa using hm
  rw [← hs]
  clear hs a2 a4 a6 a12 a16 aH q2 q4 q6 q12 q16 hC
  clear hf h0 hK hm
  go_enter Try.func24, Try.ntmps24
  go_wp2_with fail
  refine (HO2.out _).mono ?_
  rintro e w1 ⟨rfl, hw1⟩
  obtain rfl := hw1.symm
  clear hw1
  go_wp2_with fail
  refine (HC.out _).mono ?_
  rintro e w1 ⟨rfl, hw1⟩
  obtain rfl := hw1.symm
  clear hw1
  go_wp2
  go_returns
  exact ⟨rfl, (Below.refl _ _).alloc (Nat.le_refl _) _⟩

theorem l02ReadPk_part (f : Nat → Int) (hf : ∀ k, 0 ≤ f k ∧ f k ≤ 255) (len : Nat) (w : World) (h20 : 20 ≤ len) (h400 : len ≤ 400) (h0 : f 0 = 69) (K : Nat) (hK : (K : Int) = pn f 2 2) (hK0 : 20 ≤ K) (hK1 : K ≤ len) (hm : chk f 20 = 0) (hp : pn f 6 2 % 16384 ≠ 0) :
    Calls Try.prog 24 #[.string (strOf f len)] w fun e w' => e = .returned (.tuple #[.agg #[.int .i64 0, .int .i64 0, .int .i64 0, .int .i64 0, .int .i64 0, .string ⟨#[]⟩], .int .i64 11]) ∧ Below w.heap.size w w' := by
  obtain ⟨s, hs⟩ : ∃ s, s = strOf f len := ⟨_, rfl⟩
  have hz0 : s.size = len := by rw [hs]; exact strOf_size _ _
  have hb := get_bt s
  have t0 : bt s 0 = f 0 := by rw [hs]; exact strOf_bt f len hf 0 (by omega)
  have t8 : bt s 8 = f 8 := by rw [hs]; exact strOf_bt f len hf 8 (by omega)
  have t9 : bt s 9 = f 9 := by rw [hs]; exact strOf_bt f len hf 9 (by omega)
  obtain ⟨A2, a2⟩ : ∃ P, P = ps f 2 2 := ⟨_, rfl⟩
  obtain ⟨o2, q2⟩ : ∃ o, o = pn f 2 2 := ⟨_, rfl⟩
  have e2 : s.extract 2 4 = A2 := by rw [hs, a2]; exact strOf_extract f hf len 2 4 (by omega) (by omega)
  have HO2 : Hid (∀ wx : World, Calls Try.prog 43 #[.string A2] wx fun e w' => e = .returned (.int .i64 o2) ∧ w' = wx) := fun wx => by rw [a2, q2]; exact of_ps f hf 2 2 (by omega) wx
  obtain ⟨A4, a4⟩ : ∃ P, P = ps f 4 2 := ⟨_, rfl⟩
  obtain ⟨o4, q4⟩ : ∃ o, o = pn f 4 2 := ⟨_, rfl⟩
  have e4 : s.extract 4 6 = A4 := by rw [hs, a4]; exact strOf_extract f hf len 4 6 (by omega) (by omega)
  have HO4 : Hid (∀ wx : World, Calls Try.prog 43 #[.string A4] wx fun e w' => e = .returned (.int .i64 o4) ∧ w' = wx) := fun wx => by rw [a4, q4]; exact of_ps f hf 4 2 (by omega) wx
  obtain ⟨A6, a6⟩ : ∃ P, P = ps f 6 2 := ⟨_, rfl⟩
  obtain ⟨o6, q6⟩ : ∃ o, o = pn f 6 2 := ⟨_, rfl⟩
  have e6 : s.extract 6 8 = A6 := by rw [hs, a6]; exact strOf_extract f hf len 6 8 (by omega) (by omega)
  have HO6 : Hid (∀ wx : World, Calls Try.prog 43 #[.string A6] wx fun e w' => e = .returned (.int .i64 o6) ∧ w' = wx) := fun wx => by rw [a6, q6]; exact of_ps f hf 6 2 (by omega) wx
  obtain ⟨A12, a12⟩ : ∃ P, P = ps f 12 4 := ⟨_, rfl⟩
  obtain ⟨o12, q12⟩ : ∃ o, o = pn f 12 4 := ⟨_, rfl⟩
  have e12 : s.extract 12 16 = A12 := by rw [hs, a12]; exact strOf_extract f hf len 12 16 (by omega) (by omega)
  have HO12 : Hid (∀ wx : World, Calls Try.prog 43 #[.string A12] wx fun e w' => e = .returned (.int .i64 o12) ∧ w' = wx) := fun wx => by rw [a12, q12]; exact of_ps f hf 12 4 (by omega) wx
  obtain ⟨A16, a16⟩ : ∃ P, P = ps f 16 4 := ⟨_, rfl⟩
  obtain ⟨o16, q16⟩ : ∃ o, o = pn f 16 4 := ⟨_, rfl⟩
  have e16 : s.extract 16 20 = A16 := by rw [hs, a16]; exact strOf_extract f hf len 16 20 (by omega) (by omega)
  have HO16 : Hid (∀ wx : World, Calls Try.prog 43 #[.string A16] wx fun e w' => e = .returned (.int .i64 o16) ∧ w' = wx) := fun wx => by rw [a16, q16]; exact of_ps f hf 16 4 (by omega) wx
  obtain ⟨AH, aH⟩ : ∃ P, P = ps f 0 20 := ⟨_, rfl⟩
  have zH : AH.size = 20 := by rw [aH]; exact ps_size _ _ _
  have eH : s.extract 0 20 = AH := by rw [hs, aH]; exact strOf_extract f hf len 0 20 (by omega) (by omega)
  obtain ⟨C, hC⟩ : ∃ C, C = chk f 20 := ⟨_, rfl⟩
  have HC : Hid (∀ wx : World, Calls Try.prog 44 #[.string AH] wx fun e w' => e = .returned (.int .i64 C) ∧ w' = wx) := fun wx => by
    have := sum16_any AH wx (by omega)
    rw [zH, chk_congr (bt AH) f 20 (fun j hj => by rw [aH]; exact (strOf_bt _ _ (fun k => hf _) j hj).trans (by rw [Nat.zero_add]))] at this
    rw [hC]
    exact this
  have i4 : (4 : Int) ≤ (len : Int) := by omega
  have i6 : (6 : Int) ≤ (len : Int) := by omega
  have i8 : (8 : Int) ≤ (len : Int) := by omega
  have i16 : (16 : Int) ≤ (len : Int) := by omega
  have i20 : (20 : Int) ≤ (len : Int) := by omega
  have bn : (f 0 != 69) = false := by simpa using h0
  have qK : o2 = (K : Int) := by rw [q2, hK]
  subst qK
  have k1 : (20 : Int) ≤ (K : Int) := by omega
  have k2 : (K : Int) ≤ (len : Int) := by omega
  have l6 := pn2 f hf 6
  have hc0 : C = 0 := by rw [hC]; exact hm
  have hmk : bits BinOp.and IntKind.i64 o6 16383 = o6 % 16384 := by rw [q6]; exact Bt.mask 14 (by omega) _ (by omega) (by omega)
  obtain ⟨R, hR⟩ : ∃ R, R = o6 % 16384 := ⟨_, rfl⟩
  rw [← hR] at hmk
  have bR : (R != 0) = true := by rw [hR, q6]; simpa using hp
  have HC0 : Hid (C = 0) := hc0
  clear hc0 hR l6
  rw [← hs]
  clear hs a2 a4 a6 a12 a16 aH q2 q4 q6 q12 q16 hC
  clear hf h0 hK hm hp
  go_enter Try.func24, Try.ntmps24
  go_wp2_with fail
  refine (HO2.out _).mono ?_
  rintro e w1 ⟨rfl, hw1⟩
  obtain rfl := hw1.symm
  clear hw1
  go_wp2_with fail
  refine (HC.out _).mono ?_
  rintro e w1 ⟨rfl, hw1⟩
  obtain rfl := hw1.symm
  clear hw1
  rw [HC0.out]
  go_wp2_with fail
  refine (HO6.out _).mono ?_
  rintro e w1 ⟨rfl, hw1⟩
  obtain rfl := hw1.symm
  clear hw1
  go_wp2
  go_returns
  exact ⟨rfl, (Below.refl _ _).alloc (Nat.le_refl _) _⟩

set_option maxHeartbeats 4000000 in
theorem l02ReadPk_yes (f : Nat → Int) (hf : ∀ k, 0 ≤ f k ∧ f k ≤ 255) (len : Nat) (w : World) (h20 : 20 ≤ len) (h400 : len ≤ 400) (h0 : f 0 = 69) (K : Nat) (hK : (K : Int) = pn f 2 2) (hK0 : 20 ≤ K) (hK1 : K ≤ len) (n : Nat) (hn : K = 20 + n) (hm : chk f 20 = 0) (hp : pn f 6 2 % 16384 = 0) :
    Calls Try.prog 24 #[.string (strOf f len)] w fun e w' => e = .returned (.tuple #[.agg #[.int .i64 (pn f 12 4), .int .i64 (pn f 16 4), .int .i64 (f 9), .int .i64 (f 8), .int .i64 (pn f 4 2), .string (ps f 20 n)], .int .i64 0]) ∧ Below w.heap.size w w' := by
  obtain ⟨s, hs⟩ : ∃ s, s = strOf f len := ⟨_, rfl⟩
  have hz0 : s.size = len := by rw [hs]; exact strOf_size _ _
  have hb := get_bt s
  have t0 : bt s 0 = f 0 := by rw [hs]; exact strOf_bt f len hf 0 (by omega)
  have t8 : bt s 8 = f 8 := by rw [hs]; exact strOf_bt f len hf 8 (by omega)
  have t9 : bt s 9 = f 9 := by rw [hs]; exact strOf_bt f len hf 9 (by omega)
  obtain ⟨A2, a2⟩ : ∃ P, P = ps f 2 2 := ⟨_, rfl⟩
  obtain ⟨o2, q2⟩ : ∃ o, o = pn f 2 2 := ⟨_, rfl⟩
  have e2 : s.extract 2 4 = A2 := by rw [hs, a2]; exact strOf_extract f hf len 2 4 (by omega) (by omega)
  have HO2 : Hid (∀ wx : World, Calls Try.prog 43 #[.string A2] wx fun e w' => e = .returned (.int .i64 o2) ∧ w' = wx) := fun wx => by rw [a2, q2]; exact of_ps f hf 2 2 (by omega) wx
  obtain ⟨A4, a4⟩ : ∃ P, P = ps f 4 2 := ⟨_, rfl⟩
  obtain ⟨o4, q4⟩ : ∃ o, o = pn f 4 2 := ⟨_, rfl⟩
  have e4 : s.extract 4 6 = A4 := by rw [hs, a4]; exact strOf_extract f hf len 4 6 (by omega) (by omega)
  have HO4 : Hid (∀ wx : World, Calls Try.prog 43 #[.string A4] wx fun e w' => e = .returned (.int .i64 o4) ∧ w' = wx) := fun wx => by rw [a4, q4]; exact of_ps f hf 4 2 (by omega) wx
  obtain ⟨A6, a6⟩ : ∃ P, P = ps f 6 2 := ⟨_, rfl⟩
  obtain ⟨o6, q6⟩ : ∃ o, o = pn f 6 2 := ⟨_, rfl⟩
  have e6 : s.extract 6 8 = A6 := by rw [hs, a6]; exact strOf_extract f hf len 6 8 (by omega) (by omega)
  have HO6 : Hid (∀ wx : World, Calls Try.prog 43 #[.string A6] wx fun e w' => e = .returned (.int .i64 o6) ∧ w' = wx) := fun wx => by rw [a6, q6]; exact of_ps f hf 6 2 (by omega) wx
  obtain ⟨A12, a12⟩ : ∃ P, P = ps f 12 4 := ⟨_, rfl⟩
  obtain ⟨o12, q12⟩ : ∃ o, o = pn f 12 4 := ⟨_, rfl⟩
  have e12 : s.extract 12 16 = A12 := by rw [hs, a12]; exact strOf_extract f hf len 12 16 (by omega) (by omega)
  have HO12 : Hid (∀ wx : World, Calls Try.prog 43 #[.string A12] wx fun e w' => e = .returned (.int .i64 o12) ∧ w' = wx) := fun wx => by rw [a12, q12]; exact of_ps f hf 12 4 (by omega) wx
  obtain ⟨A16, a16⟩ : ∃ P, P = ps f 16 4 := ⟨_, rfl⟩
  obtain ⟨o16, q16⟩ : ∃ o, o = pn f 16 4 := ⟨_, rfl⟩
  have e16 : s.extract 16 20 = A16 := by rw [hs, a16]; exact strOf_extract f hf len 16 20 (by omega) (by omega)
  have HO16 : Hid (∀ wx : World, Calls Try.prog 43 #[.string A16] wx fun e w' => e = .returned (.int .i64 o16) ∧ w' = wx) := fun wx => by rw [a16, q16]; exact of_ps f hf 16 4 (by omega) wx
  obtain ⟨AH, aH⟩ : ∃ P, P = ps f 0 20 := ⟨_, rfl⟩
  have zH : AH.size = 20 := by rw [aH]; exact ps_size _ _ _
  have eH : s.extract 0 20 = AH := by rw [hs, aH]; exact strOf_extract f hf len 0 20 (by omega) (by omega)
  obtain ⟨C, hC⟩ : ∃ C, C = chk f 20 := ⟨_, rfl⟩
  have HC : Hid (∀ wx : World, Calls Try.prog 44 #[.string AH] wx fun e w' => e = .returned (.int .i64 C) ∧ w' = wx) := fun wx => by
    have := sum16_any AH wx (by omega)
    rw [zH, chk_congr (bt AH) f 20 (fun j hj => by rw [aH]; exact (strOf_bt _ _ (fun k => hf _) j hj).trans (by rw [Nat.zero_add]))] at this
    rw [hC]
    exact this
  have i4 : (4 : Int) ≤ (len : Int) := by omega
  have i6 : (6 : Int) ≤ (len : Int) := by omega
  have i8 : (8 : Int) ≤ (len : Int) := by omega
  have i16 : (16 : Int) ≤ (len : Int) := by omega
  have i20 : (20 : Int) ≤ (len : Int) := by omega
  have bn : (f 0 != 69) = false := by simpa using h0
  have qK : o2 = (K : Int) := by rw [q2, hK]
  subst qK
  have k1 : (20 : Int) ≤ (K : Int) := by omega
  have k2 : (K : Int) ≤ (len : Int) := by omega
  have l6 := pn2 f hf 6
  have hc0 : C = 0 := by rw [hC]; exact hm
  have hmk : bits BinOp.and IntKind.i64 o6 16383 = 0 := by rw [q6, ← hp]; exact Bt.mask 14 (by omega) _ (by omega) (by omega)
  have HC0 : Hid (C = 0) := hc0
  obtain ⟨PB, pB⟩ : ∃ P, P = ps f 20 n := ⟨_, rfl⟩
  have eB : s.extract 20 K = PB := by rw [hs, pB, strOf_extract f hf len 20 K (by omega) (by omega), show K - 20 = n by omega]
  have hw9 : IntKind.i64.wrap (f 9) = f 9 := by have := hf 9; rw [IntKind.wrap_i64]; omega
  have hw8 : IntKind.i64.wrap (f 8) = f 8 := by have := hf 8; rw [IntKind.wrap_i64]; omega
  rw [← hs, ← q4, ← q12, ← q16, ← pB]
  clear hs a2 a4 a6 a12 a16 aH q2 q4 q6 q12 q16 hC
  clear hf h0 hK hm hp hc0 l6 pB hn
  go_enter Try.func24, Try.ntmps24
  go_wp2_with fail
  refine (HO2.out _).mono ?_
  rintro e w1 ⟨rfl, hw1⟩
  obtain rfl := hw1.symm
  clear hw1
  go_wp2_with fail
  refine (HC.out _).mono ?_
  rintro e w1 ⟨rfl, hw1⟩
  obtain rfl := hw1.symm
  clear hw1
  rw [HC0.out]
  go_wp2_with fail
  refine (HO6.out _).mono ?_
  rintro e w1 ⟨rfl, hw1⟩
  obtain rfl := hw1.symm
  clear hw1
  go_wp2
  go_region_held3 (fun _ => True) (trivial)
    (first | (go_at_call 43; (with_reducible refine (HO12.out _).mono ?_); rintro e w1 ⟨rfl, rfl⟩) | (go_at_call 43; (with_reducible refine (HO16.out _).mono ?_); rintro e w1 ⟨rfl, rfl⟩) | (go_at_call 43; (with_reducible refine (HO4.out _).mono ?_); rintro e w1 ⟨rfl, rfl⟩))
  all_goals
    go_wp2
    (try simp only [Exit.inBlock, Exit.then])
    refine bodyPost_ret (v := .tuple #[.agg #[.int .i64 o12, .int .i64 o16, .int .i64 (f 9), .int .i64 (f 8), .int .i64 o4, .string PB], .int .i64 0]) (by simp [results, Try.results24, go_sem, *]; try rfl) rfl ?_
    exact ⟨rfl, ((Below.refl _ _).alloc (Nat.le_refl _) _).drew⟩

theorem specReadPk_long (a : Option Addr) (len cap : Nat) (w : World) (hl : 65536 < len) :
    Calls Try.prog 7 #[.slice a len cap] w fun e w' => e = .returned (.tuple #[.agg #[.int .i64 0, .int .i64 0, .int .i64 0, .int .i64 0, .int .i64 0, .string ⟨#[]⟩], .int .i64 2]) ∧ Below w.heap.size w w' := by
  go_enter Try.func7, Try.ntmps7
  go_wp2
  go_returns
  exact ⟨rfl, (Below.refl _ _).alloc (Nat.le_refl _) _⟩

set_option maxHeartbeats 1000000 in
theorem specReadPk_of (v0 v1 v2 v3 v4 : Int) (v5 : ByteArray) (c : Int) (f : Nat → Int) (len : Nat) (hl : len ≤ 65536)
    (h : ∀ wx : World, Calls Try.prog 24 #[.string (strOf f len)] wx fun e w' => e = .returned (.tuple #[.agg #[.int .i64 v0, .int .i64 v1, .int .i64 v2, .int .i64 v3, .int .i64 v4, .string v5], .int .i64 c]) ∧ Below wx.heap.size wx w')
    (w : World) (a : Option Addr) (cap : Nat) (hb : Bytes w a len f) :
    Calls Try.prog 7 #[.slice a len cap] w fun e w' => e = .returned (.tuple #[.agg #[.int .i64 v0, .int .i64 v1, .int .i64 v2, .int .i64 v3, .int .i64 v4, .string v5], .int .i64 c]) ∧ Below w.heap.size w w' := by
  have H : Hid (∀ wx : World, Calls Try.prog 24 #[.string (strOf f len)] wx fun e w' => e = .returned (.tuple #[.agg #[.int .i64 v0, .int .i64 v1, .int .i64 v2, .int .i64 v3, .int .i64 v4, .string v5], .int .i64 c]) ∧ Below wx.heap.size wx w') := h
  have X : Hid (RdS w [.int .i64 0, .int .i64 0, .int .i64 0, .int .i64 0, .int .i64 0, .string ⟨#[]⟩] a len f (w.alloc (.cells #[.int .i64 0, .int .i64 0, .int .i64 0, .int .i64 0, .int .i64 0, .string ⟨#[]⟩] 24))) := RdS.new hb _
  have hcv := conv_row (P := Try.prog) _ 22 9 5 Try.underlying22 Try.underlying5 Try.underlying9 a len cap f X.out.1
  clear h hb
  go_enter Try.func7, Try.ntmps7
  go_wp2_with fail
  refine (H.out _).mono ?_
  rintro e w2 ⟨rfl, b2⟩
  have X2 : Hid (RdS w [.int .i64 0, .int .i64 0, .int .i64 0, .int .i64 0, .int .i64 0, .string ⟨#[]⟩] a len f w2) := RdS.next X.out b2
  clear b2 hcv
  have k0 := X2.out.2.2.2.1.at 0 _ rfl
  have y0 := X2.out.2.2.2.2 0
  have k1 := X2.out.2.2.2.1.at 1 _ rfl
  have y1 := X2.out.2.2.2.2 1
  have k2 := X2.out.2.2.2.1.at 2 _ rfl
  have y2 := X2.out.2.2.2.2 2
  have k3 := X2.out.2.2.2.1.at 3 _ rfl
  have y3 := X2.out.2.2.2.2 3
  have k4 := X2.out.2.2.2.1.at 4 _ rfl
  have y4 := X2.out.2.2.2.2 4
  have k5 := X2.out.2.2.2.1.at 5 _ rfl
  have y5 := X2.out.2.2.2.2 5
  go_wp2
  (try simp only [Exit.inBlock, Exit.then])
  refine bodyPost_ret (v := .tuple #[.agg #[.int .i64 v0, .int .i64 v1, .int .i64 v2, .int .i64 v3, .int .i64 v4, .string v5], .int .i64 c]) (by simp [results, Try.results7, go_sem, *]; try rfl) rfl ?_
  exact ⟨rfl, (((((X2.out.2.1.setCell (by simp) _).setCell (by simp) _).setCell (by simp) _).setCell (by simp) _).setCell (by simp) _).setCell (by simp) _⟩

theorem readPk_both (len : Nat) (f : Nat → Int) (hf : ∀ k, 0 ≤ f k ∧ f k ≤ 255) :
    ∃ (v0 v1 v2 v3 v4 : Int) (v5 : ByteArray) (c : Int), RdReadPacket 7 len f v0 v1 v2 v3 v4 v5 c ∧ RdReadPacket 9 len f v0 v1 v2 v3 v4 v5 c := by
  by_cases hl : len ≤ 65536
  · by_cases h : len < 20 ∨ 400 < len
    · exact ⟨_, _, _, _, _, _, _, fun w a cap hb hc hx => specReadPk_of _ _ _ _ _ _ _ f len hl (fun wx => l02ReadPk_form _ wx (by rw [strOf_size]; exact hl) (by rw [strOf_size]; exact h)) w a cap hb, fun w a cap hb hc hx => readPk_form a len cap w hl h⟩
    · have h20 : 20 ≤ len := by omega
      have h400 : len ≤ 400 := by omega
      by_cases h0 : f 0 = 69
      · have lb := pn2 f hf 2
        by_cases hlo : pn f 2 2 < 20
        · exact ⟨_, _, _, _, _, _, _, fun w a cap hb hc hx => specReadPk_of _ _ _ _ _ _ _ f len hl (fun wx => l02ReadPk_length_lo f hf len wx h20 h400 h0 hlo) w a cap hb, fun w a cap hb hc hx => readPk_length a len cap f w hb hc hx h20 h400 h0 _ rfl (.inl hlo)⟩
        · by_cases hhi : (len : Int) < pn f 2 2
          · exact ⟨_, _, _, _, _, _, _, fun w a cap hb hc hx => specReadPk_of _ _ _ _ _ _ _ f len hl (fun wx => l02ReadPk_length_hi f hf len wx h20 h400 h0 hhi) w a cap hb, fun w a cap hb hc hx => readPk_length a len cap f w hb hc hx h20 h400 h0 _ rfl (.inr hhi)⟩
          · obtain ⟨K, hK⟩ : ∃ K : Nat, (K : Int) = pn f 2 2 := ⟨(pn f 2 2).toNat, by omega⟩
            have hK0 : 20 ≤ K := by omega
            have hK1 : K ≤ len := by omega
            obtain ⟨n, hn⟩ : ∃ n, K = 20 + n := ⟨K - 20, by omega⟩
            by_cases hm : chk f 20 = 0
            · by_cases hp : pn f 6 2 % 16384 = 0
              · exact ⟨_, _, _, _, _, _, _, fun w a cap hb hc hx => specReadPk_of _ _ _ _ _ _ _ f len hl (fun wx => l02ReadPk_yes f hf len wx h20 h400 h0 K hK hK0 hK1 n hn hm hp) w a cap hb, fun w a cap hb hc hx => readPk_yes a len cap f w hb hc hx h20 h400 h0 K hK hK0 hK1 n hn hm hp⟩
              · exact ⟨_, _, _, _, _, _, _, fun w a cap hb hc hx => specReadPk_of _ _ _ _ _ _ _ f len hl (fun wx => l02ReadPk_part f hf len wx h20 h400 h0 K hK hK0 hK1 hm hp) w a cap hb, fun w a cap hb hc hx => readPk_part a len cap f w hb hc hx h20 h400 h0 K hK hK0 hK1 hm hp⟩
            · exact ⟨_, _, _, _, _, _, _, fun w a cap hb hc hx => specReadPk_of _ _ _ _ _ _ _ f len hl (fun wx => l02ReadPk_sum f hf len wx h20 h400 h0 K hK hK0 hK1 hm) w a cap hb, fun w a cap hb hc hx => readPk_sum a len cap f w hb hc hx h20 h400 h0 K hK hK0 hK1 hm⟩
      · exact ⟨_, _, _, _, _, _, _, fun w a cap hb hc hx => specReadPk_of _ _ _ _ _ _ _ f len hl (fun wx => l02ReadPk_first f hf len wx h20 h400 h0) w a cap hb, fun w a cap hb hc hx => readPk_first a len cap f w hb hc hx h20 h400 h0⟩
  · exact ⟨_, _, _, _, _, _, _, fun w a cap hb hc hx => specReadPk_long a len cap w (by omega), fun w a cap hb hc hx => readPk_long a len cap w (by omega)⟩
end Go.Proofs.Ytdhjbbnggeamhab
