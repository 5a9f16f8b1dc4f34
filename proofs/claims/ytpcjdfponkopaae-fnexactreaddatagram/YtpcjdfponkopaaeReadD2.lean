/- ReadDatagram, the model. -/
import Derived.Test.YtpcjdfponkopaaeReadD
import Derived.Test.YtpcjdfponkopaaeSpecWire2
import Derived.Test.YtpcjdfponkopaaeLawReadDatagram
namespace Go.Proofs.Ytpcjdfponkopaae
open Go.RowKit Go.PlainAid
set_option linter.unusedVariables false
set_option maxRecDepth 20000

theorem l02ReadDg_form (src dst : Int) (s : ByteArray) (w : World) (hs : s.size ≤ 65536) (h : s.size < 8 ∨ 380 < s.size) :
    Calls Try.prog 13 #[.int .i64 src, .int .i64 dst, .string s] w fun e w' => e = .returned (.tuple #[.agg #[.int .i64 0, .int .i64 0, .string ⟨#[]⟩], .int .i64 3]) ∧ Below w.heap.size w w' := by
  rcases h with h | h
  all_goals
    go_enter Try.func13, Try.ntmps13
    go_wp2
    go_returns
    exact ⟨rfl, (Below.refl _ _).alloc (Nat.le_refl _) _⟩

set_option maxHeartbeats 2000000 in
theorem l02ReadDg_other (src dst : Int) (f : Nat → Int) (hf : ∀ k, 0 ≤ f k ∧ f k ≤ 255) (len : Nat) (w : World) (s0 : 0 ≤ src) (s1 : src ≤ 4294967295) (d0 : 0 ≤ dst) (d1 : dst ≤ 4294967295) (h8 : 8 ≤ len) (h380 : len ≤ 380) (hn : (len : Int) ≠ pn f 4 2) :
    Calls Try.prog 13 #[.int .i64 src, .int .i64 dst, .string (strOf f len)] w fun e w' => e = .returned (.tuple #[.agg #[.int .i64 0, .int .i64 0, .string ⟨#[]⟩], .int .i64 3]) ∧ Below w.heap.size w w' := by
  obtain ⟨s, hs⟩ : ∃ s, s = strOf f len := ⟨_, rfl⟩
  have hz0 : s.size = len := by rw [hs]; exact strOf_size _ _
  obtain ⟨A1, a1⟩ : ∃ P, P = ps f 0 2 := ⟨_, rfl⟩
  obtain ⟨A2, a2⟩ : ∃ P, P = ps f 2 2 := ⟨_, rfl⟩
  obtain ⟨A3, a3⟩ : ∃ P, P = ps f 4 2 := ⟨_, rfl⟩
  obtain ⟨A4, a4⟩ : ∃ P, P = ps f 6 2 := ⟨_, rfl⟩
  obtain ⟨P4, p4⟩ : ∃ P, P = ps f 8 (len - 8) := ⟨_, rfl⟩
  obtain ⟨o1, q1⟩ : ∃ o, o = pn f 0 2 := ⟨_, rfl⟩
  obtain ⟨o2, q2⟩ : ∃ o, o = pn f 2 2 := ⟨_, rfl⟩
  obtain ⟨o3, q3⟩ : ∃ o, o = pn f 4 2 := ⟨_, rfl⟩
  obtain ⟨o4, q4⟩ : ∃ o, o = pn f 6 2 := ⟨_, rfl⟩
  have e1 : s.extract 0 2 = A1 := by rw [hs, a1]; exact strOf_extract f hf len 0 2 (by omega) (by omega)
  have e2 : s.extract 2 4 = A2 := by rw [hs, a2]; exact strOf_extract f hf len 2 4 (by omega) (by omega)
  have e3 : s.extract 4 6 = A3 := by rw [hs, a3]; exact strOf_extract f hf len 4 6 (by omega) (by omega)
  have e4 : s.extract 6 8 = A4 := by rw [hs, a4]; exact strOf_extract f hf len 6 8 (by omega) (by omega)
  have e5 : s.extract 8 len = P4 := by rw [hs, p4]; exact strOf_extract f hf len 8 len (by omega) (by omega)
  have HO1 : Hid (∀ wx : World, Calls Try.prog 19 #[.string A1] wx fun e w' => e = .returned (.int .i64 o1) ∧ w' = wx) := fun wx => by rw [a1, q1]; exact of_ps f hf 0 2 (by omega) wx
  have HO2 : Hid (∀ wx : World, Calls Try.prog 19 #[.string A2] wx fun e w' => e = .returned (.int .i64 o2) ∧ w' = wx) := fun wx => by rw [a2, q2]; exact of_ps f hf 2 2 (by omega) wx
  have HO3 : Hid (∀ wx : World, Calls Try.prog 19 #[.string A3] wx fun e w' => e = .returned (.int .i64 o3) ∧ w' = wx) := fun wx => by rw [a3, q3]; exact of_ps f hf 4 2 (by omega) wx
  have HO4 : Hid (∀ wx : World, Calls Try.prog 19 #[.string A4] wx fun e w' => e = .returned (.int .i64 o4) ∧ w' = wx) := fun wx => by rw [a4, q4]; exact of_ps f hf 6 2 (by omega) wx
  obtain ⟨P0, hP0⟩ : ∃ P0, P0 = pseudoS src dst 17 (len : Int) := ⟨_, rfl⟩
  have zP : P0.size = 12 := by rw [hP0]; exact pseudoS_size _ _ _ _
  have HPS : Hid (∀ wx : World, Calls Try.prog 21 #[.int .i64 src, .int .i64 dst, .int .i64 17, .int .i64 (len : Int)] wx fun e w' => e = .returned (.string P0) ∧ Below wx.heap.size wx w') := fun wx => by rw [hP0]; exact l02Pseudo_any _ _ _ _ wx s0 s1 d0 d1 (by omega) (by omega) (by omega) (by omega)
  obtain ⟨E, hE⟩ : ∃ E, E = endsL src dst 17 ((List.range len).map f) := ⟨_, rfl⟩
  have HSM : Hid (∀ wx : World, Calls Try.prog 20 #[.string (P0 ++ s)] wx fun e w' => e = .returned (.int .i64 E) ∧ w' = wx) := fun wx => by
    rw [hE]
    have hl : (((List.range len).map f).length : Int) = (len : Int) := by simp
    unfold endsL
    rw [hl]
    refine sum_str _ _ ?_ (by simp only [ByteArray.size_append]; omega) wx
    rw [nums_append, hP0, hs, pseudoS_nums _ _ _ _ (by omega) (by omega), nums_strOf f len hf]
  have hadd : ∀ wx : World, (Op.stringOp .add P0 s).run Try.prog wx = .ok (.string (P0 ++ s)) wx := fun wx => run_string_add_sum (P := Try.prog) (w := wx) _ _ (by omega)
  have i2 : (2 : Int) ≤ (len : Int) := by omega
  have i4 : (4 : Int) ≤ (len : Int) := by omega
  have i6 : (6 : Int) ≤ (len : Int) := by omega
  have i8 : (8 : Int) ≤ (len : Int) := by omega
  have n2 : 2 ≤ len := by omega
  have n4 : 4 ≤ len := by omega
  have n6 : 6 ≤ len := by omega
  have Z0 : Hid (Slots (w.alloc (.cells #[.int .i64 0, .int .i64 0, .string ⟨#[]⟩] 24)) w.heap.size [.int .i64 0, .int .i64 0, .string ⟨#[]⟩]) := Slots.new w _ _
  have B0 : Hid (Below w.heap.size w (w.alloc (.cells #[.int .i64 0, .int .i64 0, .string ⟨#[]⟩] 24))) := (Below.refl _ _).alloc (Nat.le_refl _) _
  have bn : (o3 != (len : Int)) = true := by rw [q3]; simpa using fun h => hn h.symm
  rw [← hs]
  clear hs a1 a2 a3 a4 p4 q1 q2 q3 q4 hP0 hE
  clear hn
  go_enter Try.func13, Try.ntmps13
  go_wp2_with fail
  refine (HO3.out _).mono ?_
  rintro e w1 ⟨rfl, hw1⟩
  obtain rfl := hw1.symm
  clear hw1
  go_wp2
  go_returns
  exact ⟨rfl, (Below.refl _ _).alloc (Nat.le_refl _) _⟩

set_option maxHeartbeats 2000000 in
theorem l02ReadDg_sum (src dst : Int) (f : Nat → Int) (hf : ∀ k, 0 ≤ f k ∧ f k ≤ 255) (len : Nat) (w : World) (s0 : 0 ≤ src) (s1 : src ≤ 4294967295) (d0 : 0 ≤ dst) (d1 : dst ≤ 4294967295) (h8 : 8 ≤ len) (h380 : len ≤ 380) (hn : (len : Int) = pn f 4 2) (hz : pn f 6 2 ≠ 0) (hm : endsL src dst 17 ((List.range len).map f) ≠ 0) :
    Calls Try.prog 13 #[.int .i64 src, .int .i64 dst, .string (strOf f len)] w fun e w' => e = .returned (.tuple #[.agg #[.int .i64 0, .int .i64 0, .string ⟨#[]⟩], .int .i64 8]) ∧ Below w.heap.size w w' := by
  obtain ⟨s, hs⟩ : ∃ s, s = strOf f len := ⟨_, rfl⟩
  have hz0 : s.size = len := by rw [hs]; exact strOf_size _ _
  obtain ⟨A1, a1⟩ : ∃ P, P = ps f 0 2 := ⟨_, rfl⟩
  obtain ⟨A2, a2⟩ : ∃ P, P = ps f 2 2 := ⟨_, rfl⟩
  obtain ⟨A3, a3⟩ : ∃ P, P = ps f 4 2 := ⟨_, rfl⟩
  obtain ⟨A4, a4⟩ : ∃ P, P = ps f 6 2 := ⟨_, rfl⟩
  obtain ⟨P4, p4⟩ : ∃ P, P = ps f 8 (len - 8) := ⟨_, rfl⟩
  obtain ⟨o1, q1⟩ : ∃ o, o = pn f 0 2 := ⟨_, rfl⟩
  obtain ⟨o2, q2⟩ : ∃ o, o = pn f 2 2 := ⟨_, rfl⟩
  obtain ⟨o3, q3⟩ : ∃ o, o = pn f 4 2 := ⟨_, rfl⟩
  obtain ⟨o4, q4⟩ : ∃ o, o = pn f 6 2 := ⟨_, rfl⟩
  have e1 : s.extract 0 2 = A1 := by rw [hs, a1]; exact strOf_extract f hf len 0 2 (by omega) (by omega)
  have e2 : s.extract 2 4 = A2 := by rw [hs, a2]; exact strOf_extract f hf len 2 4 (by omega) (by omega)
  have e3 : s.extract 4 6 = A3 := by rw [hs, a3]; exact strOf_extract f hf len 4 6 (by omega) (by omega)
  have e4 : s.extract 6 8 = A4 := by rw [hs, a4]; exact strOf_extract f hf len 6 8 (by omega) (by omega)
  have e5 : s.extract 8 len = P4 := by rw [hs, p4]; exact strOf_extract f hf len 8 len (by omega) (by omega)
  have HO1 : Hid (∀ wx : World, Calls Try.prog 19 #[.string A1] wx fun e w' => e = .returned (.int .i64 o1) ∧ w' = wx) := fun wx => by rw [a1, q1]; exact of_ps f hf 0 2 (by omega) wx
  have HO2 : Hid (∀ wx : World, Calls Try.prog 19 #[.string A2] wx fun e w' => e = .returned (.int .i64 o2) ∧ w' = wx) := fun wx => by rw [a2, q2]; exact of_ps f hf 2 2 (by omega) wx
  have HO3 : Hid (∀ wx : World, Calls Try.prog 19 #[.string A3] wx fun e w' => e = .returned (.int .i64 o3) ∧ w' = wx) := fun wx => by rw [a3, q3]; exact of_ps f hf 4 2 (by omega) wx
  have HO4 : Hid (∀ wx : World, Calls Try.prog 19 #[.string A4] wx fun e w' => e = .returned (.int .i64 o4) ∧ w' = wx) := fun wx => by rw [a4, q4]; exact of_ps f hf 6 2 (by omega) wx
  obtain ⟨P0, hP0⟩ : ∃ P0, P0 = pseudoS src dst 17 (len : Int) := ⟨_, rfl⟩
  have zP : P0.size = 12 := by rw [hP0]; exact pseudoS_size _ _ _ _
  have HPS : Hid (∀ wx : World, Calls Try.prog 21 #[.int .i64 src, .int .i64 dst, .int .i64 17, .int .i64 (len : Int)] wx fun e w' => e = .returned (.string P0) ∧ Below wx.heap.size wx w') := fun wx => by rw [hP0]; exact l02Pseudo_any _ _ _ _ wx s0 s1 d0 d1 (by omega) (by omega) (by omega) (by omega)
  obtain ⟨E, hE⟩ : ∃ E, E = endsL src dst 17 ((List.range len).map f) := ⟨_, rfl⟩
  have HSM : Hid (∀ wx : World, Calls Try.prog 20 #[.string (P0 ++ s)] wx fun e w' => e = .returned (.int .i64 E) ∧ w' = wx) := fun wx => by
    rw [hE]
    have hl : (((List.range len).map f).length : Int) = (len : Int) := by simp
    unfold endsL
    rw [hl]
    refine sum_str _ _ ?_ (by simp only [ByteArray.size_append]; omega) wx
    rw [nums_append, hP0, hs, pseudoS_nums _ _ _ _ (by omega) (by omega), nums_strOf f len hf]
  have hadd : ∀ wx : World, (Op.stringOp .add P0 s).run Try.prog wx = .ok (.string (P0 ++ s)) wx := fun wx => run_string_add_sum (P := Try.prog) (w := wx) _ _ (by omega)
  have i2 : (2 : Int) ≤ (len : Int) := by omega
  have i4 : (4 : Int) ≤ (len : Int) := by omega
  have i6 : (6 : Int) ≤ (len : Int) := by omega
  have i8 : (8 : Int) ≤ (len : Int) := by omega
  have n2 : 2 ≤ len := by omega
  have n4 : 4 ≤ len := by omega
  have n6 : 6 ≤ len := by omega
  have Z0 : Hid (Slots (w.alloc (.cells #[.int .i64 0, .int .i64 0, .string ⟨#[]⟩] 24)) w.heap.size [.int .i64 0, .int .i64 0, .string ⟨#[]⟩]) := Slots.new w _ _
  have B0 : Hid (Below w.heap.size w (w.alloc (.cells #[.int .i64 0, .int .i64 0, .string ⟨#[]⟩] 24))) := (Below.refl _ _).alloc (Nat.le_refl _) _
  have bn : (o3 != (len : Int)) = false := by rw [q3, ← hn]; simp
  have bz : (o4 != 0) = true := by rw [q4]; simpa using hz
  have bE : (E != 0) = true := by rw [hE]; simpa using hm
  rw [← hs]
  clear hs a1 a2 a3 a4 p4 q1 q2 q3 q4 hP0 hE
  clear hn hz hm
  go_enter Try.func13, Try.ntmps13
  go_wp2_with fail
  refine (HO3.out _).mono ?_
  rintro e w1 ⟨rfl, hw1⟩
  obtain rfl := hw1.symm
  clear hw1
  go_wp2_with fail
  refine (HO4.out _).mono ?_
  rintro e w1 ⟨rfl, hw1⟩
  obtain rfl := hw1.symm
  clear hw1
  go_wp2_with fail
  refine (HPS.out _).mono ?_
  rintro e w2 ⟨rfl, b3⟩
  have Z2 : Hid (Slots w2 w.heap.size [.int .i64 0, .int .i64 0, .string ⟨#[]⟩] ∧ Below w.heap.size w w2) := ⟨Z0.out.below b3 (by simp), B0.out.trans (b3.mono (by simp))⟩
  clear b3
  go_wp2_with fail
  refine (HSM.out _).mono ?_
  rintro e w1 ⟨rfl, hw1⟩
  obtain rfl := hw1.symm
  clear hw1
  have k0 := Z2.out.1.1.at 0 _ rfl
  have y0 := Z2.out.1.2 0
  have k1 := Z2.out.1.1.at 1 _ rfl
  have y1 := Z2.out.1.2 1
  have k2 := Z2.out.1.1.at 2 _ rfl
  have y2 := Z2.out.1.2 2
  go_wp2
  (try simp only [Exit.inBlock, Exit.then])
  refine bodyPost_ret (v := .tuple #[.agg #[.int .i64 0, .int .i64 0, .string ⟨#[]⟩], .int .i64 8]) (by simp [results, Try.results13, go_sem, *]; try rfl) rfl ?_
  exact ⟨rfl, ((Z2.out.2.setCell (by simp) _).setCell (by simp) _).setCell (by simp) _⟩

set_option maxHeartbeats 4000000 in
theorem l02ReadDg_nosum (src dst : Int) (f : Nat → Int) (hf : ∀ k, 0 ≤ f k ∧ f k ≤ 255) (len : Nat) (w : World) (s0 : 0 ≤ src) (s1 : src ≤ 4294967295) (d0 : 0 ≤ dst) (d1 : dst ≤ 4294967295) (h8 : 8 ≤ len) (h380 : len ≤ 380) (hn : (len : Int) = pn f 4 2) (hz : pn f 6 2 = 0) :
    Calls Try.prog 13 #[.int .i64 src, .int .i64 dst, .string (strOf f len)] w fun e w' => e = .returned (.tuple #[.agg #[.int .i64 (pn f 0 2), .int .i64 (pn f 2 2), .string (ps f 8 (len - 8))], .int .i64 0]) ∧ Below w.heap.size w w' := by
  obtain ⟨s, hs⟩ : ∃ s, s = strOf f len := ⟨_, rfl⟩
  have hz0 : s.size = len := by rw [hs]; exact strOf_size _ _
  obtain ⟨A1, a1⟩ : ∃ P, P = ps f 0 2 := ⟨_, rfl⟩
  obtain ⟨A2, a2⟩ : ∃ P, P = ps f 2 2 := ⟨_, rfl⟩
  obtain ⟨A3, a3⟩ : ∃ P, P = ps f 4 2 := ⟨_, rfl⟩
  obtain ⟨A4, a4⟩ : ∃ P, P = ps f 6 2 := ⟨_, rfl⟩
  obtain ⟨P4, p4⟩ : ∃ P, P = ps f 8 (len - 8) := ⟨_, rfl⟩
  obtain ⟨o1, q1⟩ : ∃ o, o = pn f 0 2 := ⟨_, rfl⟩
  obtain ⟨o2, q2⟩ : ∃ o, o = pn f 2 2 := ⟨_, rfl⟩
  obtain ⟨o3, q3⟩ : ∃ o, o = pn f 4 2 := ⟨_, rfl⟩
  obtain ⟨o4, q4⟩ : ∃ o, o = pn f 6 2 := ⟨_, rfl⟩
  have e1 : s.extract 0 2 = A1 := by rw [hs, a1]; exact strOf_extract f hf len 0 2 (by omega) (by omega)
  have e2 : s.extract 2 4 = A2 := by rw [hs, a2]; exact strOf_extract f hf len 2 4 (by omega) (by omega)
  have e3 : s.extract 4 6 = A3 := by rw [hs, a3]; exact strOf_extract f hf len 4 6 (by omega) (by omega)
  have e4 : s.extract 6 8 = A4 := by rw [hs, a4]; exact strOf_extract f hf len 6 8 (by omega) (by omega)
  have e5 : s.extract 8 len = P4 := by rw [hs, p4]; exact strOf_extract f hf len 8 len (by omega) (by omega)
  have HO1 : Hid (∀ wx : World, Calls Try.prog 19 #[.string A1] wx fun e w' => e = .returned (.int .i64 o1) ∧ w' = wx) := fun wx => by rw [a1, q1]; exact of_ps f hf 0 2 (by omega) wx
  have HO2 : Hid (∀ wx : World, Calls Try.prog 19 #[.string A2] wx fun e w' => e = .returned (.int .i64 o2) ∧ w' = wx) := fun wx => by rw [a2, q2]; exact of_ps f hf 2 2 (by omega) wx
  have HO3 : Hid (∀ wx : World, Calls Try.prog 19 #[.string A3] wx fun e w' => e = .returned (.int .i64 o3) ∧ w' = wx) := fun wx => by rw [a3, q3]; exact of_ps f hf 4 2 (by omega) wx
  have HO4 : Hid (∀ wx : World, Calls Try.prog 19 #[.string A4] wx fun e w' => e = .returned (.int .i64 o4) ∧ w' = wx) := fun wx => by rw [a4, q4]; exact of_ps f hf 6 2 (by omega) wx
  obtain ⟨P0, hP0⟩ : ∃ P0, P0 = pseudoS src dst 17 (len : Int) := ⟨_, rfl⟩
  have zP : P0.size = 12 := by rw [hP0]; exact pseudoS_size _ _ _ _
  have HPS : Hid (∀ wx : World, Calls Try.prog 21 #[.int .i64 src, .int .i64 dst, .int .i64 17, .int .i64 (len : Int)] wx fun e w' => e = .returned (.string P0) ∧ Below wx.heap.size wx w') := fun wx => by rw [hP0]; exact l02Pseudo_any _ _ _ _ wx s0 s1 d0 d1 (by omega) (by omega) (by omega) (by omega)
  obtain ⟨E, hE⟩ : ∃ E, E = endsL src dst 17 ((List.range len).map f) := ⟨_, rfl⟩
  have HSM : Hid (∀ wx : World, Calls Try.prog 20 #[.string (P0 ++ s)] wx fun e w' => e = .returned (.int .i64 E) ∧ w' = wx) := fun wx => by
    rw [hE]
    have hl : (((List.range len).map f).length : Int) = (len : Int) := by simp
    unfold endsL
    rw [hl]
    refine sum_str _ _ ?_ (by simp only [ByteArray.size_append]; omega) wx
    rw [nums_append, hP0, hs, pseudoS_nums _ _ _ _ (by omega) (by omega), nums_strOf f len hf]
  have hadd : ∀ wx : World, (Op.stringOp .add P0 s).run Try.prog wx = .ok (.string (P0 ++ s)) wx := fun wx => run_string_add_sum (P := Try.prog) (w := wx) _ _ (by omega)
  have i2 : (2 : Int) ≤ (len : Int) := by omega
  have i4 : (4 : Int) ≤ (len : Int) := by omega
  have i6 : (6 : Int) ≤ (len : Int) := by omega
  have i8 : (8 : Int) ≤ (len : Int) := by omega
  have n2 : 2 ≤ len := by omega
  have n4 : 4 ≤ len := by omega
  have n6 : 6 ≤ len := by omega
  have Z0 : Hid (Slots (w.alloc (.cells #[.int .i64 0, .int .i64 0, .string ⟨#[]⟩] 24)) w.heap.size [.int .i64 0, .int .i64 0, .string ⟨#[]⟩]) := Slots.new w _ _
  have B0 : Hid (Below w.heap.size w (w.alloc (.cells #[.int .i64 0, .int .i64 0, .string ⟨#[]⟩] 24))) := (Below.refl _ _).alloc (Nat.le_refl _) _
  have bn : (o3 != (len : Int)) = false := by rw [q3, ← hn]; simp
  have bz : (o4 != 0) = false := by rw [q4, hz]; rfl
  rw [← hs, ← q1, ← q2, ← p4]
  clear hs a1 a2 a3 a4 p4 q1 q2 q3 q4 hP0 hE
  clear hn hz 
  go_enter Try.func13, Try.ntmps13
  go_wp2_with fail
  refine (HO3.out _).mono ?_
  rintro e w1 ⟨rfl, hw1⟩
  obtain rfl := hw1.symm
  clear hw1
  go_wp2_with fail
  refine (HO4.out _).mono ?_
  rintro e w1 ⟨rfl, hw1⟩
  obtain rfl := hw1.symm
  clear hw1
  go_wp2
  go_region_held3 (fun _ => True) (trivial)
    (first | (go_at_call 19; (with_reducible refine (HO1.out _).mono ?_); rintro e w1 ⟨rfl, rfl⟩) | (go_at_call 19; (with_reducible refine (HO2.out _).mono ?_); rintro e w1 ⟨rfl, rfl⟩))
  all_goals
    go_wp2
    (try simp only [Exit.inBlock, Exit.then])
    refine bodyPost_ret (v := .tuple #[.agg #[.int .i64 o1, .int .i64 o2, .string P4], .int .i64 0]) (by simp [results, Try.results13, go_sem, *]; try rfl) rfl ?_
    first | exact ⟨rfl, ((Below.refl _ _).alloc (Nat.le_refl _) _).drew⟩ | exact ⟨rfl, (((B0.out).drew.setCell (by simp) _).setCell (by simp) _).setCell (by simp) _⟩

set_option maxHeartbeats 4000000 in
theorem l02ReadDg_yes (src dst : Int) (f : Nat → Int) (hf : ∀ k, 0 ≤ f k ∧ f k ≤ 255) (len : Nat) (w : World) (s0 : 0 ≤ src) (s1 : src ≤ 4294967295) (d0 : 0 ≤ dst) (d1 : dst ≤ 4294967295) (h8 : 8 ≤ len) (h380 : len ≤ 380) (hn : (len : Int) = pn f 4 2) (hz : pn f 6 2 ≠ 0) (hm : endsL src dst 17 ((List.range len).map f) = 0) :
    Calls Try.prog 13 #[.int .i64 src, .int .i64 dst, .string (strOf f len)] w fun e w' => e = .returned (.tuple #[.agg #[.int .i64 (pn f 0 2), .int .i64 (pn f 2 2), .string (ps f 8 (len - 8))], .int .i64 0]) ∧ Below w.heap.size w w' := by
  obtain ⟨s, hs⟩ : ∃ s, s = strOf f len := ⟨_, rfl⟩
  have hz0 : s.size = len := by rw [hs]; exact strOf_size _ _
  obtain ⟨A1, a1⟩ : ∃ P, P = ps f 0 2 := ⟨_, rfl⟩
  obtain ⟨A2, a2⟩ : ∃ P, P = ps f 2 2 := ⟨_, rfl⟩
  obtain ⟨A3, a3⟩ : ∃ P, P = ps f 4 2 := ⟨_, rfl⟩
  obtain ⟨A4, a4⟩ : ∃ P, P = ps f 6 2 := ⟨_, rfl⟩
  obtain ⟨P4, p4⟩ : ∃ P, P = ps f 8 (len - 8) := ⟨_, rfl⟩
  obtain ⟨o1, q1⟩ : ∃ o, o = pn f 0 2 := ⟨_, rfl⟩
  obtain ⟨o2, q2⟩ : ∃ o, o = pn f 2 2 := ⟨_, rfl⟩
  obtain ⟨o3, q3⟩ : ∃ o, o = pn f 4 2 := ⟨_, rfl⟩
  obtain ⟨o4, q4⟩ : ∃ o, o = pn f 6 2 := ⟨_, rfl⟩
  have e1 : s.extract 0 2 = A1 := by rw [hs, a1]; exact strOf_extract f hf len 0 2 (by omega) (by omega)
  have e2 : s.extract 2 4 = A2 := by rw [hs, a2]; exact strOf_extract f hf len 2 4 (by omega) (by omega)
  have e3 : s.extract 4 6 = A3 := by rw [hs, a3]; exact strOf_extract f hf len 4 6 (by omega) (by omega)
  have e4 : s.extract 6 8 = A4 := by rw [hs, a4]; exact strOf_extract f hf len 6 8 (by omega) (by omega)
  have e5 : s.extract 8 len = P4 := by rw [hs, p4]; exact strOf_extract f hf len 8 len (by omega) (by omega)
  have HO1 : Hid (∀ wx : World, Calls Try.prog 19 #[.string A1] wx fun e w' => e = .returned (.int .i64 o1) ∧ w' = wx) := fun wx => by rw [a1, q1]; exact of_ps f hf 0 2 (by omega) wx
  have HO2 : Hid (∀ wx : World, Calls Try.prog 19 #[.string A2] wx fun e w' => e = .returned (.int .i64 o2) ∧ w' = wx) := fun wx => by rw [a2, q2]; exact of_ps f hf 2 2 (by omega) wx
  have HO3 : Hid (∀ wx : World, Calls Try.prog 19 #[.string A3] wx fun e w' => e = .returned (.int .i64 o3) ∧ w' = wx) := fun wx => by rw [a3, q3]; exact of_ps f hf 4 2 (by omega) wx
  have HO4 : Hid (∀ wx : World, Calls Try.prog 19 #[.string A4] wx fun e w' => e = .returned (.int .i64 o4) ∧ w' = wx) := fun wx => by rw [a4, q4]; exact of_ps f hf 6 2 (by omega) wx
  obtain ⟨P0, hP0⟩ : ∃ P0, P0 = pseudoS src dst 17 (len : Int) := ⟨_, rfl⟩
  have zP : P0.size = 12 := by rw [hP0]; exact pseudoS_size _ _ _ _
  have HPS : Hid (∀ wx : World, Calls Try.prog 21 #[.int .i64 src, .int .i64 dst, .int .i64 17, .int .i64 (len : Int)] wx fun e w' => e = .returned (.string P0) ∧ Below wx.heap.size wx w') := fun wx => by rw [hP0]; exact l02Pseudo_any _ _ _ _ wx s0 s1 d0 d1 (by omega) (by omega) (by omega) (by omega)
  obtain ⟨E, hE⟩ : ∃ E, E = endsL src dst 17 ((List.range len).map f) := ⟨_, rfl⟩
  have HSM : Hid (∀ wx : World, Calls Try.prog 20 #[.string (P0 ++ s)] wx fun e w' => e = .returned (.int .i64 E) ∧ w' = wx) := fun wx => by
    rw [hE]
    have hl : (((List.range len).map f).length : Int) = (len : Int) := by simp
    unfold endsL
    rw [hl]
    refine sum_str _ _ ?_ (by simp only [ByteArray.size_append]; omega) wx
    rw [nums_append, hP0, hs, pseudoS_nums _ _ _ _ (by omega) (by omega), nums_strOf f len hf]
  have hadd : ∀ wx : World, (Op.stringOp .add P0 s).run Try.prog wx = .ok (.string (P0 ++ s)) wx := fun wx => run_string_add_sum (P := Try.prog) (w := wx) _ _ (by omega)
  have i2 : (2 : Int) ≤ (len : Int) := by omega
  have i4 : (4 : Int) ≤ (len : Int) := by omega
  have i6 : (6 : Int) ≤ (len : Int) := by omega
  have i8 : (8 : Int) ≤ (len : Int) := by omega
  have n2 : 2 ≤ len := by omega
  have n4 : 4 ≤ len := by omega
  have n6 : 6 ≤ len := by omega
  have Z0 : Hid (Slots (w.alloc (.cells #[.int .i64 0, .int .i64 0, .string ⟨#[]⟩] 24)) w.heap.size [.int .i64 0, .int .i64 0, .string ⟨#[]⟩]) := Slots.new w _ _
  have B0 : Hid (Below w.heap.size w (w.alloc (.cells #[.int .i64 0, .int .i64 0, .string ⟨#[]⟩] 24))) := (Below.refl _ _).alloc (Nat.le_refl _) _
  have bn : (o3 != (len : Int)) = false := by rw [q3, ← hn]; simp
  have bz : (o4 != 0) = true := by rw [q4]; simpa using hz
  have hE0 : E = 0 := by rw [hE]; exact hm
  have HE0 : Hid (E = 0) := hE0
  clear hE0
  rw [← hs, ← q1, ← q2, ← p4]
  clear hs a1 a2 a3 a4 p4 q1 q2 q3 q4 hP0 hE
  clear hn hz hm
  go_enter Try.func13, Try.ntmps13
  go_wp2_with fail
  refine (HO3.out _).mono ?_
  rintro e w1 ⟨rfl, hw1⟩
  obtain rfl := hw1.symm
  clear hw1
  go_wp2_with fail
  refine (HO4.out _).mono ?_
  rintro e w1 ⟨rfl, hw1⟩
  obtain rfl := hw1.symm
  clear hw1
  go_wp2_with fail
  refine (HPS.out _).mono ?_
  rintro e w2 ⟨rfl, b3⟩
  have Z2 : Hid (Slots w2 w.heap.size [.int .i64 0, .int .i64 0, .string ⟨#[]⟩] ∧ Below w.heap.size w w2) := ⟨Z0.out.below b3 (by simp), B0.out.trans (b3.mono (by simp))⟩
  clear b3
  go_wp2_with fail
  refine (HSM.out _).mono ?_
  rintro e w1 ⟨rfl, hw1⟩
  obtain rfl := hw1.symm
  clear hw1
  rw [HE0.out]
  have k0 := Z2.out.1.1.at 0 _ rfl
  have y0 := Z2.out.1.2 0
  have k1 := Z2.out.1.1.at 1 _ rfl
  have y1 := Z2.out.1.2 1
  have k2 := Z2.out.1.1.at 2 _ rfl
  have y2 := Z2.out.1.2 2
  have kd0 : w2.drew.cell? ⟨w.heap.size, 0, none⟩ = some _ := Z2.out.1.1.at 0 _ rfl
  have yd0 : w2.drew.frozen? ⟨w.heap.size, 0, none⟩ = false := Z2.out.1.2 0
  have kd1 : w2.drew.cell? ⟨w.heap.size, 1, none⟩ = some _ := Z2.out.1.1.at 1 _ rfl
  have yd1 : w2.drew.frozen? ⟨w.heap.size, 1, none⟩ = false := Z2.out.1.2 1
  have kd2 : w2.drew.cell? ⟨w.heap.size, 2, none⟩ = some _ := Z2.out.1.1.at 2 _ rfl
  have yd2 : w2.drew.frozen? ⟨w.heap.size, 2, none⟩ = false := Z2.out.1.2 2
  go_wp2
  go_region_held3 (fun _ => True) (trivial)
    (first | (go_at_call 19; (with_reducible refine (HO1.out _).mono ?_); rintro e w1 ⟨rfl, rfl⟩) | (go_at_call 19; (with_reducible refine (HO2.out _).mono ?_); rintro e w1 ⟨rfl, rfl⟩))
  all_goals
    go_wp2
    (try simp only [Exit.inBlock, Exit.then])
    refine bodyPost_ret (v := .tuple #[.agg #[.int .i64 o1, .int .i64 o2, .string P4], .int .i64 0]) (by simp [results, Try.results13, go_sem, *]; try rfl) rfl ?_
    first | exact ⟨rfl, ((Below.refl _ _).alloc (Nat.le_refl _) _).drew⟩ | exact ⟨rfl, (((Z2.out.2).drew.setCell (by simp) _).setCell (by simp) _).setCell (by simp) _⟩

theorem specReadDg_long (src dst : Int) (a : Option Addr) (len cap : Nat) (w : World) (hl : 65536 < len) :
    Calls Try.prog 5 #[.int .i64 src, .int .i64 dst, .slice a len cap] w fun e w' => e = .returned (.tuple #[.agg #[.int .i64 0, .int .i64 0, .string ⟨#[]⟩], .int .i64 2]) ∧ Below w.heap.size w w' := by
  go_enter Try.func5, Try.ntmps5
  go_wp2
  go_returns
  exact ⟨rfl, (Below.refl _ _).alloc (Nat.le_refl _) _⟩
theorem specReadDg_range (src dst : Int) (a : Option Addr) (len cap : Nat) (w : World) (hl : len ≤ 65536) (h : ¬ ((0 ≤ src ∧ src ≤ 4294967295) ∧ (0 ≤ dst ∧ dst ≤ 4294967295))) :
    Calls Try.prog 5 #[.int .i64 src, .int .i64 dst, .slice a len cap] w fun e w' => e = .returned (.tuple #[.agg #[.int .i64 0, .int .i64 0, .string ⟨#[]⟩], .int .i64 4]) ∧ Below w.heap.size w w' := by
  by_cases h1 : 0 ≤ src ∧ src ≤ 4294967295
  · have b1 := dec_y h1
    have b2 := dec_n (fun h2 : 0 ≤ dst ∧ dst ≤ 4294967295 => h ⟨h1, h2⟩)
    clear h h1
    go_enter Try.func5, Try.ntmps5
    go_wp2_with fail
    refine (specIp_any _ _).mono ?_
    rintro e w1 ⟨rfl, hw1⟩
    obtain rfl := hw1.symm
    clear hw1
    go_wp2_with fail
    refine (specIp_any _ _).mono ?_
    rintro e w1 ⟨rfl, hw1⟩
    obtain rfl := hw1.symm
    clear hw1
    go_wp2
    go_returns
    exact ⟨rfl, (Below.refl _ _).alloc (Nat.le_refl _) _⟩
  · have b1 := dec_n h1
    clear h h1
    go_enter Try.func5, Try.ntmps5
    go_wp2_with fail
    refine (specIp_any _ _).mono ?_
    rintro e w1 ⟨rfl, hw1⟩
    obtain rfl := hw1.symm
    clear hw1
    go_wp2
    go_returns
    exact ⟨rfl, (Below.refl _ _).alloc (Nat.le_refl _) _⟩

set_option maxHeartbeats 1000000 in
theorem specReadDg_of (src dst : Int) (h1 : 0 ≤ src ∧ src ≤ 4294967295) (h2 : 0 ≤ dst ∧ dst ≤ 4294967295) (v0 v1 : Int) (v2 : ByteArray) (c : Int) (f : Nat → Int) (len : Nat) (hl : len ≤ 65536)
    (h : ∀ wx : World, Calls Try.prog 13 #[.int .i64 src, .int .i64 dst, .string (strOf f len)] wx fun e w' => e = .returned (.tuple #[.agg #[.int .i64 v0, .int .i64 v1, .string v2], .int .i64 c]) ∧ Below wx.heap.size wx w')
    (w : World) (a : Option Addr) (cap : Nat) (hb : Bytes w a len f) :
    Calls Try.prog 5 #[.int .i64 src, .int .i64 dst, .slice a len cap] w fun e w' => e = .returned (.tuple #[.agg #[.int .i64 v0, .int .i64 v1, .string v2], .int .i64 c]) ∧ Below w.heap.size w w' := by
  have b1 := dec_y h1
  have b2 := dec_y h2
  have H : Hid (∀ wx : World, Calls Try.prog 13 #[.int .i64 src, .int .i64 dst, .string (strOf f len)] wx fun e w' => e = .returned (.tuple #[.agg #[.int .i64 v0, .int .i64 v1, .string v2], .int .i64 c]) ∧ Below wx.heap.size wx w') := h
  have X : Hid (RdS w [.int .i64 0, .int .i64 0, .string ⟨#[]⟩] a len f (w.alloc (.cells #[.int .i64 0, .int .i64 0, .string ⟨#[]⟩] 24))) := RdS.new hb _
  have hcv := conv_row (P := Try.prog) _ 22 9 5 Try.underlying22 Try.underlying5 Try.underlying9 a len cap f X.out.1
  clear h hb h1 h2
  go_enter Try.func5, Try.ntmps5
  go_wp2_with fail
  refine (specIp_any _ _).mono ?_
  rintro e w1 ⟨rfl, hw1⟩
  obtain rfl := hw1.symm
  clear hw1
  go_wp2_with fail
  refine (specIp_any _ _).mono ?_
  rintro e w1 ⟨rfl, hw1⟩
  obtain rfl := hw1.symm
  clear hw1
  go_wp2_with fail
  refine (H.out _).mono ?_
  rintro e w2 ⟨rfl, b2⟩
  have X2 : Hid (RdS w [.int .i64 0, .int .i64 0, .string ⟨#[]⟩] a len f w2) := RdS.next X.out b2
  clear b2 hcv
  have k0 := X2.out.2.2.2.1.at 0 _ rfl
  have y0 := X2.out.2.2.2.2 0
  have k1 := X2.out.2.2.2.1.at 1 _ rfl
  have y1 := X2.out.2.2.2.2 1
  have k2 := X2.out.2.2.2.1.at 2 _ rfl
  have y2 := X2.out.2.2.2.2 2
  go_wp2
  (try simp only [Exit.inBlock, Exit.then])
  refine bodyPost_ret (v := .tuple #[.agg #[.int .i64 v0, .int .i64 v1, .string v2], .int .i64 c]) (by simp [results, Try.results5, go_sem, *]; try rfl) rfl ?_
  exact ⟨rfl, ((X2.out.2.1.setCell (by simp) _).setCell (by simp) _).setCell (by simp) _⟩

theorem readDg_both (src dst : Int) (len : Nat) (f : Nat → Int) (hf : ∀ k, 0 ≤ f k ∧ f k ≤ 255) :
    ∃ (v0 : Int) (v1 : Int) (v2 : ByteArray) (c : Int), RdReadDatagram 5 src dst len f v0 v1 v2 c ∧ RdReadDatagram 7 src dst len f v0 v1 v2 c := by
  by_cases hl : len ≤ 65536
  · by_cases he : (0 ≤ src ∧ src ≤ 4294967295) ∧ (0 ≤ dst ∧ dst ≤ 4294967295)
    · by_cases h : len < 8 ∨ 380 < len
      · exact ⟨_, _, _, _, fun w a cap hb hc hx => specReadDg_of src dst he.1 he.2 _ _ _ _ f len hl (fun wx => l02ReadDg_form src dst _ wx (by rw [strOf_size]; exact hl) (by rw [strOf_size]; exact h)) w a cap hb, fun w a cap hb hc hx => readDg_form src dst a len cap w hl he.1 he.2 h⟩
      · by_cases hn : (len : Int) = pn f 4 2
        · by_cases hz : pn f 6 2 = 0
          · exact ⟨_, _, _, _, fun w a cap hb hc hx => specReadDg_of src dst he.1 he.2 _ _ _ _ f len hl (fun wx => l02ReadDg_nosum src dst f hf len wx he.1.1 he.1.2 he.2.1 he.2.2 (by omega) (by omega) hn hz) w a cap hb, fun w a cap hb hc hx => readDg_nosum src dst a len cap f w hb hc hx he.1.1 he.1.2 he.2.1 he.2.2 (by omega) (by omega) hn hz⟩
          · by_cases hm : endsL src dst 17 ((List.range len).map f) = 0
            · exact ⟨_, _, _, _, fun w a cap hb hc hx => specReadDg_of src dst he.1 he.2 _ _ _ _ f len hl (fun wx => l02ReadDg_yes src dst f hf len wx he.1.1 he.1.2 he.2.1 he.2.2 (by omega) (by omega) hn hz hm) w a cap hb, fun w a cap hb hc hx => readDg_yes src dst a len cap f w hb hc hx he.1.1 he.1.2 he.2.1 he.2.2 (by omega) (by omega) hn hz hm⟩
            · exact ⟨_, _, _, _, fun w a cap hb hc hx => specReadDg_of src dst he.1 he.2 _ _ _ _ f len hl (fun wx => l02ReadDg_sum src dst f hf len wx he.1.1 he.1.2 he.2.1 he.2.2 (by omega) (by omega) hn hz hm) w a cap hb, fun w a cap hb hc hx => readDg_sum src dst a len cap f w hb hc hx he.1.1 he.1.2 he.2.1 he.2.2 (by omega) (by omega) hn hz hm⟩
        · exact ⟨_, _, _, _, fun w a cap hb hc hx => specReadDg_of src dst he.1 he.2 _ _ _ _ f len hl (fun wx => l02ReadDg_other src dst f hf len wx he.1.1 he.1.2 he.2.1 he.2.2 (by omega) (by omega) hn) w a cap hb, fun w a cap hb hc hx => readDg_other src dst a len cap f w hb hc hx he.1.1 he.1.2 he.2.1 he.2.2 (by omega) (by omega) hn⟩
    · exact ⟨_, _, _, _, fun w a cap hb hc hx => specReadDg_range src dst a len cap w hl he, fun w a cap hb hc hx => readDg_range src dst a len cap w hl he⟩
  · exact ⟨_, _, _, _, fun w a cap hb hc hx => specReadDg_long src dst a len cap w (by omega), fun w a cap hb hc hx => readDg_long src dst a len cap w (by omega)⟩
end Go.Proofs.Ytpcjdfponkopaae
