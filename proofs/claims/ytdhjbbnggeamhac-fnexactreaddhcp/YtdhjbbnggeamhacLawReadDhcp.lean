/- ReadDhcp of the model out of its reader of strings; the walk of laws.FnExactReadDhcp. -/
import Derived.Test.YtdhjbbnggeamhacCutting
import Derived.Test.YtdhjbbnggeamhacCopy
namespace Go.Proofs.Ytdhjbbnggeamhac
open Go.RowKit Go.PlainAid
set_option linter.unusedVariables false
set_option maxRecDepth 20000

set_option maxHeartbeats 1000000 in
theorem eqDhcp_same (v0 : Int) (v1 : Int) (v2 : Int) (v3 : Bool) (v4 : ByteArray) (w : World) :
    Calls Try.prog 7 #[.agg #[.int .i64 v0, .int .i64 v1, .int .i64 v2, .bool v3, .string v4], .agg #[.int .i64 v0, .int .i64 v1, .int .i64 v2, .bool v3, .string v4]] w fun e w' => e = .returned (.bool true) ∧ Below w.heap.size w w' := by
  have q0 : (v0 != v0) = false := by simp
  have q1 : (v1 != v1) = false := by simp
  have q2 : (v2 != v2) = false := by simp
  have q3 : (v3 != v3) = false := by simp
  have q4 : (v4.toList == v4.toList) = true := by simp
  go_enter Try.func7, Try.ntmps7
  go_wp2
  go_ret
  exact ⟨rfl, ((Below.refl _ _).alloc (Nat.le_refl _) _).alloc (by simp) _⟩

/-- What a reader answers of a row with these bytes. -/
def RdReadDhcp (K : Nat)  (len : Nat) (f : Nat → Int) (v0 : Int) (v1 : Int) (v2 : Int) (v3 : Bool) (v4 : ByteArray) (c : Int) : Prop :=
  ∀ (w : World) (a : Option Addr) (cap : Nat), Bytes w a len f → len ≤ cap → cap ≤ 1048576 → Calls Try.prog K #[.slice a len cap] w fun e w' => e = .returned (.tuple #[.agg #[.int .i64 v0, .int .i64 v1, .int .i64 v2, .bool v3, .string v4], .int .i64 c]) ∧ Below w.heap.size w w'

set_option maxHeartbeats 4000000 in
theorem lawReadDhcp_any  (a : Option Addr) (len cap : Nat) (f : Nat → Int) (w : World) (h : Bytes w a len f) (hlen : len ≤ 1048576) (hlt : ∀ b off, 0 < len → a = some ⟨b, off, none⟩ → b < w.heap.size)
    (hboth : ∃ (v0 : Int) (v1 : Int) (v2 : Int) (v3 : Bool) (v4 : ByteArray) (c : Int), RdReadDhcp 4  len f v0 v1 v2 v3 v4 c ∧ RdReadDhcp 6  len f v0 v1 v2 v3 v4 c) :
    Calls Try.prog 3 #[.slice a len cap] w fun e w' => e = .returned (.bool true) ∧ Below w.heap.size w w' := by
  obtain ⟨v0, v1, v2, v3, v4, c, hS, hI⟩ := hboth
  have HS : Hid (RdReadDhcp 4  len f v0 v1 v2 v3 v4 c) := hS
  have HI : Hid (RdReadDhcp 6  len f v0 v1 v2 v3 v4 c) := hI
  have HF : Hid (∀ k, 0 ≤ f k ∧ f k ≤ 255) := h.1
  have H : Hid (Bytes w a len f) := h
  have HL : Hid (∀ b off, 0 < len → a = some ⟨b, off, none⟩ → b < w.heap.size) := hlt
  clear hS hI h hlt
  have hne : (c != c) = false := by simp
  go_enter Try.func3, Try.ntmps3
  go_wp2_with fail
  refine (toByteS_any a len cap f w H.out hlen HL.out).mono ?_
  rintro e w1 ⟨rfl, hf1⟩
  have F1 : Hid (Fill w w1 len len f) := hf1
  have z1 := hf1.1.size
  clear hf1
  go_wp2_with fail
  refine (HS.out w1 _ _ (F1.out.bytes HF.out) (Nat.le_refl _) hlen).mono ?_
  rintro e w2 ⟨rfl, b2⟩
  have z2 := b2.size
  have A2 : Hid (Below w.heap.size w (w2.alloc (.cells #[.int .i64 v0, .int .i64 v1, .int .i64 v2, .bool v3, .string v4] 24))) := (F1.out.1.trans (b2.mono z1)).alloc (by omega) _
  have K2 : Hid (Boxed (w2.alloc (.cells #[.int .i64 v0, .int .i64 v1, .int .i64 v2, .bool v3, .string v4] 24)) w2.heap.size [.int .i64 v0, .int .i64 v1, .int .i64 v2, .bool v3, .string v4]) := Boxed.new w2 _ _
  clear b2
  go_wp2_with fail
  refine (toByteS_any a len cap f (w2.alloc (.cells #[.int .i64 v0, .int .i64 v1, .int .i64 v2, .bool v3, .string v4] 24)) (H.out.below A2.out HL.out) hlen (fun b off h1 h2 => Nat.lt_of_lt_of_le (HL.out b off h1 h2) A2.out.size)).mono ?_
  rintro e w3 ⟨rfl, hf3⟩
  have z3 : w2.heap.size + 1 ≤ w3.heap.size := by have := hf3.1.size; simpa using this
  have z3' : w2.heap.size + 1 < w3.heap.size := by have := hf3.2.1; simpa using this
  have F3 : Hid (Bytes w3 (some ⟨w2.heap.size + 1, 0, none⟩) len f) := by
    show Bytes _ _ _ _
    have := hf3.bytes HF.out
    simpa using this
  have B3 : Hid (Below w.heap.size w w3) := A2.out.trans (hf3.1.mono (by simp; omega))
  have K3 : Hid (Boxed w3 w2.heap.size [.int .i64 v0, .int .i64 v1, .int .i64 v2, .bool v3, .string v4]) := K2.out.below hf3.1 (by simp)
  clear hf3
  go_wp2_with fail
  refine (HI.out w3 _ _ F3.out (Nat.le_refl _) hlen).mono ?_
  rintro e w4 ⟨rfl, b4⟩
  have z4 := b4.size
  have A4 : Hid (Below w3.heap.size w3 (w4.alloc (.cells #[.int .i64 v0, .int .i64 v1, .int .i64 v2, .bool v3, .string v4] 24))) := b4.alloc z4 _
  have K4 : Hid (Boxed (w4.alloc (.cells #[.int .i64 v0, .int .i64 v1, .int .i64 v2, .bool v3, .string v4] 24)) w4.heap.size [.int .i64 v0, .int .i64 v1, .int .i64 v2, .bool v3, .string v4]) := Boxed.new w4 _ _
  have K5 : Hid (Boxed (w4.alloc (.cells #[.int .i64 v0, .int .i64 v1, .int .i64 v2, .bool v3, .string v4] 24)) w2.heap.size [.int .i64 v0, .int .i64 v1, .int .i64 v2, .bool v3, .string v4]) := K3.out.below A4.out (by omega)
  clear b4
  have k0 := K5.out.at 0 _ rfl
  have j0 := K4.out.at 0 _ rfl
  have k1 := K5.out.at 1 _ rfl
  have j1 := K4.out.at 1 _ rfl
  have k2 := K5.out.at 2 _ rfl
  have j2 := K4.out.at 2 _ rfl
  have k3 := K5.out.at 3 _ rfl
  have j3 := K4.out.at 3 _ rfl
  have k4 := K5.out.at 4 _ rfl
  have j4 := K4.out.at 4 _ rfl
  go_wp2_with fail
  refine (eqDhcp_same v0 v1 v2 v3 v4 _).mono ?_
  rintro e w5 ⟨rfl, b5⟩
  have z5 : w4.heap.size + 1 ≤ w5.heap.size := by have := b5.size; simpa using this
  have X5 : Hid (Below w3.heap.size w3 w5) := A4.out.trans (b5.mono (by simp; omega))
  clear b5 k0 j0 k1 j1 k2 j2 k3 j3 k4 j4
  have W5 : Hid (Below w.heap.size w w5) := B3.out.trans (X5.out.mono B3.out.size)
  go_wp2_with fail
  refine (toByteS_any a len cap f w5 (H.out.below W5.out HL.out) hlen (fun b off h1 h2 => Nat.lt_of_lt_of_le (HL.out b off h1 h2) W5.out.size)).mono ?_
  rintro e w6 ⟨rfl, hf6⟩
  have F6 : Hid (Fill w5 w6 len len f) := hf6
  clear hf6
  have B36 : Hid (Below w3.heap.size w3 w6) := X5.out.trans (F6.out.1.mono X5.out.size)
  go_wp2_with fail
  refine (eqByteS_yes _ _ len _ _ f w6 ?_ (F6.out.bytes HF.out) hlen).mono ?_
  · exact F3.out.below B36.out (fun b off _ h2 => by cases h2; exact z3')
  rintro e w7 ⟨rfl, b7⟩
  have B7 : Hid (Below w6.heap.size w6 w7) := b7
  clear b7
  go_wp2
  go_ret
  exact ⟨rfl, (W5.out.trans (F6.out.1.mono W5.out.size)).trans (B7.out.mono (Nat.le_trans W5.out.size F6.out.1.size))⟩

theorem lawReadDhcp_long  (a : Option Addr) (len cap : Nat) (w : World) (hlen : 1048576 < len) :
    Calls Try.prog 3 #[.slice a len cap] w fun e w' => e = .returned (.bool true) ∧ Below w.heap.size w w' := by
  go_enter Try.func3, Try.ntmps3
  go_wp2
  go_ret
  exact ⟨rfl, Below.refl _ _⟩
end Go.Proofs.Ytdhjbbnggeamhac
