/- ReadPacket, the program. -/
import Derived.Test.YtmhlanbmlkidhaaCut2
import Derived.Test.YtmhlanbmlkidhaaSum
import Derived.Test.YtmhlanbmlkidhaaBits
import Derived.Deep.RegionHeld3
namespace Go.Proofs.Ytmhlanbmlkidhaa
open Go.RowKit Go.PlainAid Go.Proofs.Ytmhlanbmlkidhaa.Pl
set_option linter.unusedVariables false
set_option maxRecDepth 20000

/-- Where a part lies: an empty one where the whole does. -/
def pOff (off at_ size : Nat) : Nat := if size = 0 then off else off + at_
theorem part_ex (b off len cap at_ size : Nat) (w : World) (h : at_ + size ≤ cap) (hc : cap ≤ 9223372036854775807) :
    Calls Try.prog 43 #[.slice (some ⟨b, off, none⟩) len cap, .int .i64 at_, .int .i64 size] w fun e w' => e = .returned (.slice (some ⟨b, pOff off at_ size, none⟩) size size) ∧ w' = w := by
  go_enter Try.func43, Try.ntmps43
  go_wp2
  · go_ret
    obtain rfl : size = 0 := by omega
    exact ⟨by simp [pOff], rfl⟩
  · go_ret
    exact ⟨by rw [pOff, if_neg (by omega)]; rfl, rfl⟩
theorem pOff_pos {off at_ size : Nat} (h : 0 < size) : pOff off at_ size = off + at_ := by rw [pOff, if_neg (by omega)]
theorem conv_pOff {wx : World} {b off len : Nat} {f : Nat → Int} (h : Bytes wx (some ⟨b, off, none⟩) len f) (a m c : Nat) (hm : a + m ≤ len) : (convert 22 9 (.slice (some ⟨b, pOff off a m, none⟩) m c)).run Try.prog wx = .ok (.string (ps f a m)) wx := by
  rcases Nat.eq_zero_or_pos m with h0 | h0
  · subst h0; exact conv_none f h.1 a wx _ c
  · rw [pOff_pos h0]; exact conv_ps h a m c hm
theorem Bytes.pre {w : World} {a : Option Addr} {len : Nat} {f : Nat → Int} (h : Bytes w a len f) (n : Nat) (hn : n ≤ len) : Bytes w a n f :=
  ⟨h.1, fun h0 => by obtain ⟨b, off, e, hc⟩ := h.2 (by omega); exact ⟨b, off, e, fun i hi => hc i (by omega)⟩⟩
theorem Bytes.cellAt {w : World} {b off len : Nat} {f : Nat → Int} (h : Bytes w (some ⟨b, off, none⟩) len f) (i : Nat) (hi : i < len) : w.cell? ⟨b, off + i, none⟩ = some (.int .u8 (f i)) := by
  obtain ⟨b', off', e, hc⟩ := h.2 (by omega)
  cases e
  exact hc i hi

theorem readPk_long (a : Option Addr) (len cap : Nat) (w : World) (hl : 65536 < len) :
    Calls Try.prog 18 #[.slice a len cap] w fun e w' => e = .returned (.tuple #[.agg #[.int .i64 0, .int .i64 0, .int .i64 0, .int .i64 0, .int .i64 0, .string ⟨#[]⟩], .int .i64 2]) ∧ Below w.heap.size w w' := by
  go_enter Try.func18, Try.ntmps18
  go_wp2
  go_returns
  exact ⟨rfl, (Below.refl _ _).alloc (Nat.le_refl _) _⟩
theorem readPk_form (a : Option Addr) (len cap : Nat) (w : World) (hl : len ≤ 65536) (h : len < 20 ∨ 400 < len) :
    Calls Try.prog 18 #[.slice a len cap] w fun e w' => e = .returned (.tuple #[.agg #[.int .i64 0, .int .i64 0, .int .i64 0, .int .i64 0, .int .i64 0, .string ⟨#[]⟩], .int .i64 3]) ∧ Below w.heap.size w w' := by
  rcases h with h | h
  all_goals
    go_enter Try.func18, Try.ntmps18
    go_wp2
    go_returns
    exact ⟨rfl, (Below.refl _ _).alloc (Nat.le_refl _) _⟩

theorem readPk_first (a : Option Addr) (len cap : Nat) (f : Nat → Int) (w : World) (h : Bytes w a len f) (hc : len ≤ cap) (hx : cap ≤ 9223372036854775807) (h20 : 20 ≤ len) (h400 : len ≤ 400) (hf : f 0 ≠ 69) :
    Calls Try.prog 18 #[.slice a len cap] w fun e w' => e = .returned (.tuple #[.agg #[.int .i64 0, .int .i64 0, .int .i64 0, .int .i64 0, .int .i64 0, .string ⟨#[]⟩], .int .i64 3]) ∧ Below w.heap.size w w' := by
  obtain ⟨b, off, rfl, -⟩ := h.2 (by omega)
  have X : Hid (RdS w [.int .i64 0, .int .i64 0, .int .i64 0, .int .i64 0, .int .i64 0, .string ⟨#[]⟩] (some ⟨b, off, none⟩) len f (w.alloc (.cells #[.int .i64 0, .int .i64 0, .int .i64 0, .int .i64 0, .int .i64 0, .string ⟨#[]⟩] 39))) := RdS.new h _
  have c0 := X.out.1.cellAt 0 (by omega)
  simp only [Nat.add_zero] at c0
  have hb0 := h.1 0
  have bn : (f 0 != 69) = true := by simpa using hf
  clear h hf
  go_enter Try.func18, Try.ntmps18
  go_wp2
  go_returns
  exact ⟨rfl, (Below.refl _ _).alloc (Nat.le_refl _) _⟩

theorem readPk_length (a : Option Addr) (len cap : Nat) (f : Nat → Int) (w : World) (h : Bytes w a len f) (hc : len ≤ cap) (hx : cap ≤ 9223372036854775807) (h20 : 20 ≤ len) (h400 : len ≤ 400) (hf : f 0 = 69) (L : Int) (hL : L = pn f 2 2) (hn : L < 20 ∨ (len : Int) < L) :
    Calls Try.prog 18 #[.slice a len cap] w fun e w' => e = .returned (.tuple #[.agg #[.int .i64 0, .int .i64 0, .int .i64 0, .int .i64 0, .int .i64 0, .string ⟨#[]⟩], .int .i64 3]) ∧ Below w.heap.size w w' := by
  obtain ⟨b, off, rfl, -⟩ := h.2 (by omega)
  have X : Hid (RdS w [.int .i64 0, .int .i64 0, .int .i64 0, .int .i64 0, .int .i64 0, .string ⟨#[]⟩] (some ⟨b, off, none⟩) len f (w.alloc (.cells #[.int .i64 0, .int .i64 0, .int .i64 0, .int .i64 0, .int .i64 0, .string ⟨#[]⟩] 39))) := RdS.new h _
  have c0 := X.out.1.cellAt 0 (by omega)
  simp only [Nat.add_zero] at c0
  have hb0 := h.1 0
  have bn : (f 0 != 69) = false := by simpa using hf
  have M2 : Hid (∀ wx : World, Hid (RdS w [.int .i64 0, .int .i64 0, .int .i64 0, .int .i64 0, .int .i64 0, .string ⟨#[]⟩] (some ⟨b, off, none⟩) len f wx) → Calls Try.prog 36 #[.slice (some ⟨b, off, none⟩) 20 20, .int .i64 2, .int .i64 2] wx fun e w' => e = .returned (.int .i64 L) ∧ w' = wx) := fun wx hX => by rw [hL]; exact at_pn _ 20 20 f 2 2 wx (hX.out.1.pre 20 (by omega)) (by omega) (by omega) (by omega) (by omega) (by omega)
  have l0 := pn2 f h.1 2
  rw [← hL] at l0
  clear h hf hL
  rcases hn with hn | hn
  all_goals
    go_enter Try.func18, Try.ntmps18
    go_wp2_with fail
    refine (part_any b off len cap 0 20 _ (by omega) (by omega)).mono ?_
    rintro e w1 ⟨a', rfl, ha, hw1⟩
    obtain rfl := hw1.symm
    obtain rfl : a' = some ⟨b, off, none⟩ := by simpa using ha (by omega)
    clear hw1 ha
    go_wp2_with fail
    refine (M2.out _ X).mono ?_
    rintro e w1 ⟨rfl, hw1⟩
    obtain rfl := hw1.symm
    clear hw1
    go_wp2
    go_returns
    exact ⟨rfl, (Below.refl _ _).alloc (Nat.le_refl _) _⟩

theorem readPk_sum (a : Option Addr) (len cap : Nat) (f : Nat → Int) (w : World) (h : Bytes w a len f) (hc : len ≤ cap) (hx : cap ≤ 9223372036854775807) (h20 : 20 ≤ len) (h400 : len ≤ 400) (hf : f 0 = 69) (K : Nat) (hK : (K : Int) = pn f 2 2) (hK0 : 20 ≤ K) (hK1 : K ≤ len) (hs : chk f 20 ≠ 0) :
    Calls Try.prog 18 #[.slice a len cap] w fun e w' => e = .returned (.tuple #[.agg #[.int .i64 0, .int .i64 0, .int .i64 0, .int .i64 0, .int .i64 0, .string ⟨#[]⟩], .int .i64 8]) ∧ Below w.heap.size w w' := by
  obtain ⟨b, off, rfl, -⟩ := h.2 (by omega)
  have X : Hid (RdS w [.int .i64 0, .int .i64 0, .int .i64 0, .int .i64 0, .int .i64 0, .string ⟨#[]⟩] (some ⟨b, off, none⟩) len f (w.alloc (.cells #[.int .i64 0, .int .i64 0, .int .i64 0, .int .i64 0, .int .i64 0, .string ⟨#[]⟩] 39))) := RdS.new h _
  have c0 := X.out.1.cellAt 0 (by omega)
  simp only [Nat.add_zero] at c0
  have hb0 := h.1 0
  have bn : (f 0 != 69) = false := by simpa using hf
  have q1 : (20 : Int) ≤ (K : Int) := by omega
  have q2 : (K : Int) ≤ (len : Int) := by omega
  have M2 : Hid (∀ wx : World, Hid (RdS w [.int .i64 0, .int .i64 0, .int .i64 0, .int .i64 0, .int .i64 0, .string ⟨#[]⟩] (some ⟨b, off, none⟩) len f wx) → Calls Try.prog 36 #[.slice (some ⟨b, off, none⟩) 20 20, .int .i64 2, .int .i64 2] wx fun e w' => e = .returned (.int .i64 (K : Int)) ∧ w' = wx) := fun wx hX => by rw [hK]; exact at_pn _ 20 20 f 2 2 wx (hX.out.1.pre 20 (by omega)) (by omega) (by omega) (by omega) (by omega) (by omega)
  obtain ⟨C, hC⟩ : ∃ C, C = chk f 20 := ⟨_, rfl⟩
  have MC : Hid (∀ wx : World, Hid (RdS w [.int .i64 0, .int .i64 0, .int .i64 0, .int .i64 0, .int .i64 0, .string ⟨#[]⟩] (some ⟨b, off, none⟩) len f wx) → Calls Try.prog 47 #[.slice (some ⟨b, off, none⟩) 20 20] wx fun e w' => e = .returned (.int .i64 C) ∧ w' = wx) := fun wx hX => by rw [hC]; exact check16_any _ 20 20 f wx (hX.out.1.pre 20 (by omega)) (by omega)
  have bC : (C != 0) = true := by rw [hC]; simpa using hs
  clear h hf hK hC hs
  go_enter Try.func18, Try.ntmps18
  go_wp2_with fail
  refine (part_any b off len cap 0 20 _ (by omega) (by omega)).mono ?_
  rintro e w1 ⟨a', rfl, ha, hw1⟩
  obtain rfl := hw1.symm
  obtain rfl : a' = some ⟨b, off, none⟩ := by simpa using ha (by omega)
  clear hw1 ha
  go_wp2_with fail
  refine (M2.out _ X).mono ?_
  rintro e w1 ⟨rfl, hw1⟩
  obtain rfl := hw1.symm
  clear hw1
  go_wp2_with fail
  refine (MC.out _ X).mono ?_
  rintro e w1 ⟨rfl, hw1⟩
  obtain rfl := hw1.symm
  clear hw1
  go_wp2
  go_returns
  exact ⟨rfl, (Below.refl _ _).alloc (Nat.le_refl _) _⟩

theorem readPk_part (a : Option Addr) (len cap : Nat) (f : Nat → Int) (w : World) (h : Bytes w a len f) (hc : len ≤ cap) (hx : cap ≤ 9223372036854775807) (h20 : 20 ≤ len) (h400 : len ≤ 400) (hf : f 0 = 69) (K : Nat) (hK : (K : Int) = pn f 2 2) (hK0 : 20 ≤ K) (hK1 : K ≤ len) (hs : chk f 20 = 0) (hp : pn f 6 2 % 16384 ≠ 0) :
    Calls Try.prog 18 #[.slice a len cap] w fun e w' => e = .returned (.tuple #[.agg #[.int .i64 0, .int .i64 0, .int .i64 0, .int .i64 0, .int .i64 0, .string ⟨#[]⟩], .int .i64 11]) ∧ Below w.heap.size w w' := by
  obtain ⟨b, off, rfl, -⟩ := h.2 (by omega)
  have X : Hid (RdS w [.int .i64 0, .int .i64 0, .int .i64 0, .int .i64 0, .int .i64 0, .string ⟨#[]⟩] (some ⟨b, off, none⟩) len f (w.alloc (.cells #[.int .i64 0, .int .i64 0, .int .i64 0, .int .i64 0, .int .i64 0, .string ⟨#[]⟩] 39))) := RdS.new h _
  have c0 := X.out.1.cellAt 0 (by omega)
  simp only [Nat.add_zero] at c0
  have hb0 := h.1 0
  have bn : (f 0 != 69) = false := by simpa using hf
  have q1 : (20 : Int) ≤ (K : Int) := by omega
  have q2 : (K : Int) ≤ (len : Int) := by omega
  have M2 : Hid (∀ wx : World, Hid (RdS w [.int .i64 0, .int .i64 0, .int .i64 0, .int .i64 0, .int .i64 0, .string ⟨#[]⟩] (some ⟨b, off, none⟩) len f wx) → Calls Try.prog 36 #[.slice (some ⟨b, off, none⟩) 20 20, .int .i64 2, .int .i64 2] wx fun e w' => e = .returned (.int .i64 (K : Int)) ∧ w' = wx) := fun wx hX => by rw [hK]; exact at_pn _ 20 20 f 2 2 wx (hX.out.1.pre 20 (by omega)) (by omega) (by omega) (by omega) (by omega) (by omega)
  obtain ⟨C, hC⟩ : ∃ C, C = chk f 20 := ⟨_, rfl⟩
  have MC : Hid (∀ wx : World, Hid (RdS w [.int .i64 0, .int .i64 0, .int .i64 0, .int .i64 0, .int .i64 0, .string ⟨#[]⟩] (some ⟨b, off, none⟩) len f wx) → Calls Try.prog 47 #[.slice (some ⟨b, off, none⟩) 20 20] wx fun e w' => e = .returned (.int .i64 C) ∧ w' = wx) := fun wx hX => by rw [hC]; exact check16_any _ 20 20 f wx (hX.out.1.pre 20 (by omega)) (by omega)
  have hC0 : C = 0 := by rw [hC]; exact hs
  obtain ⟨Q, hQ⟩ : ∃ Q, Q = pn f 6 2 := ⟨_, rfl⟩
  have M6 : Hid (∀ wx : World, Hid (RdS w [.int .i64 0, .int .i64 0, .int .i64 0, .int .i64 0, .int .i64 0, .string ⟨#[]⟩] (some ⟨b, off, none⟩) len f wx) → Calls Try.prog 36 #[.slice (some ⟨b, off, none⟩) 20 20, .int .i64 6, .int .i64 2] wx fun e w' => e = .returned (.int .i64 Q) ∧ w' = wx) := fun wx hX => by rw [hQ]; exact at_pn _ 20 20 f 6 2 wx (hX.out.1.pre 20 (by omega)) (by omega) (by omega) (by omega) (by omega) (by omega)
  have l6 := pn2 f h.1 6
  have hm : bits BinOp.and IntKind.i64 Q 16383 = Q % 16384 := by rw [hQ]; exact Bt.mask 14 (by omega) _ (by omega) (by omega)
  obtain ⟨R, hR⟩ : ∃ R, R = Q % 16384 := ⟨_, rfl⟩
  rw [← hR] at hm
  have bR : (R != 0) = true := by rw [hR, hQ]; simpa using hp
  subst hC0
  clear h hf hK hC hs hp hQ hR l6
  go_enter Try.func18, Try.ntmps18
  go_wp2_with fail
  refine (part_any b off len cap 0 20 _ (by omega) (by omega)).mono ?_
  rintro e w1 ⟨a', rfl, ha, hw1⟩
  obtain rfl := hw1.symm
  obtain rfl : a' = some ⟨b, off, none⟩ := by simpa using ha (by omega)
  clear hw1 ha
  go_wp2_with fail
  refine (M2.out _ X).mono ?_
  rintro e w1 ⟨rfl, hw1⟩
  obtain rfl := hw1.symm
  clear hw1
  go_wp2_with fail
  refine (MC.out _ X).mono ?_
  rintro e w1 ⟨rfl, hw1⟩
  obtain rfl := hw1.symm
  clear hw1
  go_wp2_with fail
  refine (M6.out _ X).mono ?_
  rintro e w1 ⟨rfl, hw1⟩
  obtain rfl := hw1.symm
  clear hw1
  go_wp2
  go_returns
  exact ⟨rfl, (Below.refl _ _).alloc (Nat.le_refl _) _⟩

set_option maxHeartbeats 4000000 in
theorem readPk_yes (a : Option Addr) (len cap : Nat) (f : Nat → Int) (w : World) (h : Bytes w a len f) (hc : len ≤ cap) (hx : cap ≤ 9223372036854775807) (h20 : 20 ≤ len) (h400 : len ≤ 400) (hf : f 0 = 69) (K : Nat) (hK : (K : Int) = pn f 2 2) (hK0 : 20 ≤ K) (hK1 : K ≤ len) (n : Nat) (hn : K = 20 + n) (hs : chk f 20 = 0) (hp : pn f 6 2 % 16384 = 0) :
    Calls Try.prog 18 #[.slice a len cap] w fun e w' => e = .returned (.tuple #[.agg #[.int .i64 (pn f 12 4), .int .i64 (pn f 16 4), .int .i64 (f 9), .int .i64 (f 8), .int .i64 (pn f 4 2), .string (ps f 20 n)], .int .i64 0]) ∧ Below w.heap.size w w' := by
  obtain ⟨b, off, rfl, -⟩ := h.2 (by omega)
  have X : Hid (RdS w [.int .i64 0, .int .i64 0, .int .i64 0, .int .i64 0, .int .i64 0, .string ⟨#[]⟩] (some ⟨b, off, none⟩) len f (w.alloc (.cells #[.int .i64 0, .int .i64 0, .int .i64 0, .int .i64 0, .int .i64 0, .string ⟨#[]⟩] 39))) := RdS.new h _
  have c0 := X.out.1.cellAt 0 (by omega)
  simp only [Nat.add_zero] at c0
  have hb0 := h.1 0
  have bn : (f 0 != 69) = false := by simpa using hf
  have q1 : (20 : Int) ≤ (K : Int) := by omega
  have q2 : (K : Int) ≤ (len : Int) := by omega
  have M2 : Hid (∀ wx : World, Hid (RdS w [.int .i64 0, .int .i64 0, .int .i64 0, .int .i64 0, .int .i64 0, .string ⟨#[]⟩] (some ⟨b, off, none⟩) len f wx) → Calls Try.prog 36 #[.slice (some ⟨b, off, none⟩) 20 20, .int .i64 2, .int .i64 2] wx fun e w' => e = .returned (.int .i64 (K : Int)) ∧ w' = wx) := fun wx hX => by rw [hK]; exact at_pn _ 20 20 f 2 2 wx (hX.out.1.pre 20 (by omega)) (by omega) (by omega) (by omega) (by omega) (by omega)
  obtain ⟨C, hC⟩ : ∃ C, C = chk f 20 := ⟨_, rfl⟩
  have MC : Hid (∀ wx : World, Hid (RdS w [.int .i64 0, .int .i64 0, .int .i64 0, .int .i64 0, .int .i64 0, .string ⟨#[]⟩] (some ⟨b, off, none⟩) len f wx) → Calls Try.prog 47 #[.slice (some ⟨b, off, none⟩) 20 20] wx fun e w' => e = .returned (.int .i64 C) ∧ w' = wx) := fun wx hX => by rw [hC]; exact check16_any _ 20 20 f wx (hX.out.1.pre 20 (by omega)) (by omega)
  have hC0 : C = 0 := by rw [hC]; exact hs
  obtain ⟨Q, hQ⟩ : ∃ Q, Q = pn f 6 2 := ⟨_, rfl⟩
  have M6 : Hid (∀ wx : World, Hid (RdS w [.int .i64 0, .int .i64 0, .int .i64 0, .int .i64 0, .int .i64 0, .string ⟨#[]⟩] (some ⟨b, off, none⟩) len f wx) → Calls Try.prog 36 #[.slice (some ⟨b, off, none⟩) 20 20, .int .i64 6, .int .i64 2] wx fun e w' => e = .returned (.int .i64 Q) ∧ w' = wx) := fun wx hX => by rw [hQ]; exact at_pn _ 20 20 f 6 2 wx (hX.out.1.pre 20 (by omega)) (by omega) (by omega) (by omega) (by omega) (by omega)
  have l6 := pn2 f h.1 6
  have hm : bits BinOp.and IntKind.i64 Q 16383 = 0 := by rw [hQ, ← hp]; exact Bt.mask 14 (by omega) _ (by omega) (by omega)
  have M12 : Hid (∀ wx : World, Hid (RdS w [.int .i64 0, .int .i64 0, .int .i64 0, .int .i64 0, .int .i64 0, .string ⟨#[]⟩] (some ⟨b, off, none⟩) len f wx) → Calls Try.prog 36 #[.slice (some ⟨b, off, none⟩) 20 20, .int .i64 12, .int .i64 4] wx fun e w' => e = .returned (.int .i64 (pn f 12 4)) ∧ w' = wx) := fun wx hX =>  at_pn _ 20 20 f 12 4 wx (hX.out.1.pre 20 (by omega)) (by omega) (by omega) (by omega) (by omega) (by omega)
  have M16 : Hid (∀ wx : World, Hid (RdS w [.int .i64 0, .int .i64 0, .int .i64 0, .int .i64 0, .int .i64 0, .string ⟨#[]⟩] (some ⟨b, off, none⟩) len f wx) → Calls Try.prog 36 #[.slice (some ⟨b, off, none⟩) 20 20, .int .i64 16, .int .i64 4] wx fun e w' => e = .returned (.int .i64 (pn f 16 4)) ∧ w' = wx) := fun wx hX =>  at_pn _ 20 20 f 16 4 wx (hX.out.1.pre 20 (by omega)) (by omega) (by omega) (by omega) (by omega) (by omega)
  have M4 : Hid (∀ wx : World, Hid (RdS w [.int .i64 0, .int .i64 0, .int .i64 0, .int .i64 0, .int .i64 0, .string ⟨#[]⟩] (some ⟨b, off, none⟩) len f wx) → Calls Try.prog 36 #[.slice (some ⟨b, off, none⟩) 20 20, .int .i64 4, .int .i64 2] wx fun e w' => e = .returned (.int .i64 (pn f 4 2)) ∧ w' = wx) := fun wx hX =>  at_pn _ 20 20 f 4 2 wx (hX.out.1.pre 20 (by omega)) (by omega) (by omega) (by omega) (by omega) (by omega)
  have MP : Hid (∀ wx : World, Hid (RdS w [.int .i64 0, .int .i64 0, .int .i64 0, .int .i64 0, .int .i64 0, .string ⟨#[]⟩] (some ⟨b, off, none⟩) len f wx) → Calls Try.prog 43 #[.slice (some ⟨b, off, none⟩) len cap, .int .i64 20, .int .i64 n] wx fun e w' => e = .returned (.slice (some ⟨b, pOff off 20 n, none⟩) n n) ∧ w' = wx) := fun wx hX => part_ex b off len cap 20 n wx (by omega) (by omega)
  have X0 : Hid (RdS w [.int .i64 0, .int .i64 0, .int .i64 0, .int .i64 0, .int .i64 0, .string ⟨#[]⟩] (some ⟨b, off, none⟩) len f (w.alloc (.cells #[.int .i64 0, .int .i64 0, .int .i64 0, .int .i64 0, .int .i64 0, .string ⟨#[]⟩] 39)).drew) := X.out.drew
  have cvA : ∀ o, (convert 22 9 (.slice (some ⟨b, pOff off 20 n, none⟩) n n)).run Try.prog (w.alloc o).drew = .ok (.string (ps f 20 n)) (w.alloc o).drew := fun o => conv_pOff (wx := (w.alloc o).drew) (keep_bytes ((Below.refl _ _).alloc (Nat.le_refl _) o).drew h) 20 n n (by omega)
  have hsub : (K : Int) - 20 = (n : Int) := by omega
  have hw : IntKind.i64.wrap (n : Int) = (n : Int) := by rw [IntKind.wrap_i64]; omega
  have c8 := X0.out.1.cellAt 8 (by omega)
  have c9 := X0.out.1.cellAt 9 (by omega)
  have hw9 : IntKind.i64.wrap (f 9) = f 9 := by have := h.1 9; rw [IntKind.wrap_i64]; omega
  have hw8 : IntKind.i64.wrap (f 8) = f 8 := by have := h.1 8; rw [IntKind.wrap_i64]; omega
  have cw8 := h.cellAt 8 (by omega)
  have cw9 := h.cellAt 9 (by omega)
  have nn8 := World.new_ne w _ cw8
  have nn9 := World.new_ne w _ cw9
  have k0 := X.out.2.2.2.1.at 0 _ rfl
  have y0 := X.out.2.2.2.2 0
  have k1 := X.out.2.2.2.1.at 1 _ rfl
  have y1 := X.out.2.2.2.2 1
  have k2 := X.out.2.2.2.1.at 2 _ rfl
  have y2 := X.out.2.2.2.2 2
  have k3 := X.out.2.2.2.1.at 3 _ rfl
  have y3 := X.out.2.2.2.2 3
  have k4 := X.out.2.2.2.1.at 4 _ rfl
  have y4 := X.out.2.2.2.2 4
  have k5 := X.out.2.2.2.1.at 5 _ rfl
  have y5 := X.out.2.2.2.2 5
  have kd0 := X0.out.2.2.2.1.at 0 _ rfl
  have yd0 := X0.out.2.2.2.2 0
  have kd1 := X0.out.2.2.2.1.at 1 _ rfl
  have yd1 := X0.out.2.2.2.2 1
  have kd2 := X0.out.2.2.2.1.at 2 _ rfl
  have yd2 := X0.out.2.2.2.2 2
  have kd3 := X0.out.2.2.2.1.at 3 _ rfl
  have yd3 := X0.out.2.2.2.2 3
  have kd4 := X0.out.2.2.2.1.at 4 _ rfl
  have yd4 := X0.out.2.2.2.2 4
  have kd5 := X0.out.2.2.2.1.at 5 _ rfl
  have yd5 := X0.out.2.2.2.2 5
  subst hC0
  clear h hf hK hC hs hp hQ l6 hn
  go_enter Try.func18, Try.ntmps18
  go_wp2_with fail
  refine (part_any b off len cap 0 20 _ (by omega) (by omega)).mono ?_
  rintro e w1 ⟨a', rfl, ha, hw1⟩
  obtain rfl := hw1.symm
  obtain rfl : a' = some ⟨b, off, none⟩ := by simpa using ha (by omega)
  clear hw1 ha
  go_wp2_with fail
  refine (M2.out _ X).mono ?_
  rintro e w1 ⟨rfl, hw1⟩
  obtain rfl := hw1.symm
  clear hw1
  go_wp2_with fail
  refine (MC.out _ X).mono ?_
  rintro e w1 ⟨rfl, hw1⟩
  obtain rfl := hw1.symm
  clear hw1
  go_wp2_with fail
  refine (M6.out _ X).mono ?_
  rintro e w1 ⟨rfl, hw1⟩
  obtain rfl := hw1.symm
  clear hw1
  go_wp2
  go_region_held3 (fun w' => w'.cell? ⟨b, off + 8, none⟩ = some (.int .u8 (f 8)) ∧ w'.cell? ⟨b, off + 9, none⟩ = some (.int .u8 (f 9)) ∧ (convert 22 9 (.slice (some ⟨b, pOff off 20 n, none⟩) n n)).run Try.prog w' = .ok (.string (ps f 20 n)) w') (go_keep)
    (first
      | (go_at_call 36; (with_reducible refine (M12.out _ X0).mono ?_); rintro e w9 ⟨rfl, rfl⟩)
      | (go_at_call 36; (with_reducible refine (M16.out _ X0).mono ?_); rintro e w9 ⟨rfl, rfl⟩)
      | (go_at_call 36; (with_reducible refine (M4.out _ X0).mono ?_); rintro e w9 ⟨rfl, rfl⟩)
      | (go_at_call 43; (with_reducible refine (MP.out _ X0).mono ?_); rintro e w9 ⟨rfl, rfl⟩))
  all_goals
    go_wp2
    (try simp only [Exit.inBlock, Exit.then])
    refine bodyPost_ret (v := .tuple #[.agg #[.int .i64 (pn f 12 4), .int .i64 (pn f 16 4), .int .i64 (f 9), .int .i64 (f 8), .int .i64 (pn f 4 2), .string (ps f 20 n)], .int .i64 0]) (by simp [results, Try.results18, go_sem, *]; try rfl) rfl ?_
    first | exact ⟨rfl, ((Below.refl _ _).alloc (Nat.le_refl _) _).drew⟩ | exact ⟨rfl, (((((X0.out.2.1.setCell (by simp) _).setCell (by simp) _).setCell (by simp) _).setCell (by simp) _).setCell (by simp) _).setCell (by simp) _⟩
end Go.Proofs.Ytmhlanbmlkidhaa
