/- A row of bytes of the call's own that is appended to, told as a list of numbers; as a string; a string's bytes in new memory. Nothing of the program is imported. A number's digits: the model's l00Digits at every number from 0 on. The bitwise operators on int where no operand is negative: and, or, exclusive or, and with masks, or of parts that do not meet. Nothing of the program is imported. The program's small tests: hasRoom, addressOK. The contracts of laws.toByteS (a copy in new memory) and laws.eqByteS (whether two rows are one). NumberOf, the program's and the model's: both answer the number of 1 to 6 bytes, the higher ones first; the walk of its law. The small tests of both sides, each answering whether a condition holds. markText of the laws. Lists of places and rules marked and held. Rows of roles of one's own, each with rules of its own. Roles marked. Configurations marked. Users, sessions, fails, records, guests, as values. Users, sessions, fails, records, guests: what comes in as an argument, opened. The byte's row of the program's table of types. -/
import Derived.Test.YtnlepjcjakghcaaGreatDoorJ1
import Derived.Lib.ConvBytes
import Derived.Lib.ItoaNum
import Derived.Deep.RegionHeld3
import Derived.Laws.BitsAllLaws
import Derived.Deep.QuietTactic
namespace Go.Proofs.YtnlepjcjakghcaaGreatDoor
open Go.RowKit Go.PlainAid
set_option linter.unusedVariables false

/-- The slice value v owns the bytes L, in a block from B on. -/
def OwnL (e : TypeId) (w : World) (B : Nat) (v : Value) (L : List Int) : Prop := w.ownsRow B e 1 v L.length (L.map (Value.int .u8))

theorem OwnL.snoc {e : TypeId} {w : World} {B : Nat} {v : Value} {L : List Int} {x : Int} (h : w.ownsRow B e 1 v (L.length + 1) (L.map (Value.int .u8) ++ [.int .u8 x])) : OwnL e w B v (L ++ [x]) := by
  unfold OwnL; simpa using h
theorem OwnL.more {e : TypeId} {w : World} {B : Nat} {v : Value} {L M : List Int} (h : w.ownsRow B e 1 v (L.length + M.length) (L.map (Value.int .u8) ++ M.map (.int .u8))) : OwnL e w B v (L ++ M) := by
  unfold OwnL; simpa using h

theorem OwnL.slice {e : TypeId} {w : World} {B : Nat} {v : Value} {L : List Int} (h : OwnL e w B v L) (hL : ∀ x ∈ L, 0 ≤ x ∧ x ≤ 255) :
    ∃ a cap, v = .slice a L.length cap ∧ Bytes w a L.length (fun j => L.getD j 0) ∧ ∀ b off, a = some ⟨b, off, none⟩ → B ≤ b := by
  have hf : ∀ k, 0 ≤ L.getD k 0 ∧ L.getD k 0 ≤ 255 := by
    intro k
    by_cases hk : k < L.length
    · rw [List.getD_eq_getElem?_getD, List.getElem?_eq_getElem hk]; exact hL _ (List.getElem_mem hk)
    · rw [List.getD_eq_getElem?_getD, List.getElem?_eq_none (by omega)]; simp
  rcases h.2 with ⟨h1, h2⟩ | ⟨g, cap, cur, h1, hB, hg, hle, hm, hs, ht⟩
  · have e0 : L = [] := by simpa using h2
    subst e0
    exact ⟨none, 0, by simpa using h1, ⟨hf, fun h0 => absurd h0 (by simp)⟩, fun b off h => by cases h⟩
  · refine ⟨some ⟨g, 0, none⟩, cap, by simpa using h1, ⟨hf, fun h0 => ⟨g, 0, rfl, fun i hi => ?_⟩⟩, fun b off h => by cases h; exact hB⟩
    have hc := World.ownsRow.cells h (g := g) (by rw [h1]; rfl) i (.int .u8 (L.getD i 0)) (by simp [hi])
    have ea : (⟨g, 0, none⟩ : Addr).add i = ⟨g, 0 + i, none⟩ := by unfold Addr.add; split <;> simp_all
    rw [ea] at hc
    exact hc

theorem strOf_list (L : List Int) : strOf (fun j => L.getD j 0) L.length = strOfNums L := by
  unfold strOf
  congr 1
  apply List.ext_getElem?
  intro i
  by_cases hi : i < L.length
  · simp [hi]
  · simp [hi]

/-- 'string(out)'. -/
theorem conv_own {P : Program} (w : World) (src dst e : TypeId) (hs : P.underlying src = some (.slice e)) (he : P.underlying e = some (.int .u8)) (hd : P.underlying dst = some .string)
    (a : Option Addr) (cap : Nat) (L : List Int) (h : Bytes w a L.length (fun j => L.getD j 0)) :
    (convert src dst (.slice a L.length cap)).run P w = .ok (.string (strOfNums L)) w := by
  rw [conv_row w src dst e hs he hd a L.length cap _ h, strOf_list]

/-- '[]byte(s)': the bytes in new memory. -/
theorem conv_bytes {P : Program} (w : World) (src dst e : TypeId) (s : ByteArray) (hs : P.underlying src = some .string) (hd : P.underlying dst = some (.slice e)) (he : P.underlying e = some (.int .u8)) :
    ∃ cap w', (convert src dst (.string s)).run P w = .ok (.slice (some ⟨w.heap.size, 0, none⟩) s.size cap) w' ∧ Below w.heap.size w w' ∧ w'.heap.size = w.heap.size + 1 ∧
      (∀ i, i < s.size → w'.frozen? ⟨w.heap.size, i, none⟩ = false) ∧ ∀ i, i < s.size → w'.cell? ⟨w.heap.size, i, none⟩ = some (.int .u8 (bt s i)) := by
  refine ⟨_, _, Go.Lib.run_convert_string_bytes w src dst e s hs hd he, ⟨rfl, rfl, rfl, ?_, ?_⟩, Go.Lib.bytesWorld_size w e s, ?_, ?_⟩
  · rw [Go.Lib.bytesWorld_size]; omega
  · intro k hk; exact Go.Lib.bytesWorld_at_old w e s k hk
  · intro i hi
    have hb := Go.Lib.bytesWorld_at_new w e s
    have hz : s.size ≤ (Go.Lib.bytesCells w e s).size := by simp [Go.Lib.bytesCells]
    simp [World.frozen?, hb]
    omega
  · intro i hi
    rw [Go.Lib.bytesWorld_cell w e s i hi]
    have : (s.data.toList.getD i 0) = s[i] := by
      have hi' : i < s.data.size := hi
      rw [List.getD_eq_getElem?_getD, List.getElem?_eq_getElem (by simpa using hi')]; rfl
    rw [this, get_bt s i hi]
end Go.Proofs.YtnlepjcjakghcaaGreatDoor

namespace Go.Proofs.YtnlepjcjakghcaaGreatDoor
open Go.RowKit Go.PlainAid
set_option linter.unusedVariables false
set_option maxRecDepth 20000

/-- 'string([]byte{x})'. -/
theorem conv_one (wx : World) (b : Nat) (x : Int) (h0 : 0 ≤ x) (h1 : x ≤ 255) (hb : wx.cell? ⟨b, 0, none⟩ = some (.int .u8 x)) : (convert 22 9 (.slice (some ⟨b, 0, none⟩) 1 1)).run Tryz.prog wx = .ok (.string (strOfNums [x])) wx := by
  have hB : Bytes wx (some ⟨b, 0, none⟩) [x].length (fun j => [x].getD j 0) := by
    refine ⟨fun k => ?_, fun _ => ⟨b, 0, rfl, fun i hi => ?_⟩⟩
    · rcases k with _ | k <;> simp <;> omega
    · obtain rfl : i = 0 := by simpa using hi
      simpa using hb
  exact conv_own (P := Tryz.prog) wx 22 9 5 Tryz.underlying22 Tryz.underlying5 Tryz.underlying9 (some ⟨b, 0, none⟩) 1 [x] hB

end Go.Proofs.YtnlepjcjakghcaaGreatDoor

namespace Go.Proofs.YtnlepjcjakghcaaGreatDoor.Bt
open Go.RowKit
set_option linter.unusedVariables false

theorem ofInt_i64 (a : Nat) (ha : a < 9223372036854775808) : (BitVec.ofInt 64 (a : Int)).toNat = a := by
  rw [BitVec.ofInt_natCast, BitVec.toNat_ofNat]; exact Nat.mod_eq_of_lt (by omega)
theorem or_nat (a b : Nat) (ha : a < 9223372036854775808) (hb : b < 9223372036854775808) : bits .or .i64 (a : Int) (b : Int) = ((a ||| b : Nat) : Int) := by
  have hx : a ||| b < 2 ^ 63 := Nat.or_lt_two_pow (by omega) (by omega)
  show IntKind.i64.wrap ((BitVec.ofInt 64 (a : Int) ||| BitVec.ofInt 64 (b : Int)).toNat : Int) = _
  rw [BitVec.toNat_or, ofInt_i64 a ha, ofInt_i64 b hb, IntKind.wrap_i64]
  omega
/-- 'x << 8 | y', y below 256. -/
theorem join8 (x y : Int) (h0 : 0 ≤ x) (h1 : x ≤ 36028797018963967) (h2 : 0 ≤ y) (h3 : y ≤ 255) : bits BinOp.or IntKind.i64 (x * 256) y = x * 256 + y := by
  obtain ⟨a, rfl⟩ := Int.eq_ofNat_of_zero_le h0
  obtain ⟨b, rfl⟩ := Int.eq_ofNat_of_zero_le h2
  have e : ((a : Int) * 256) = ((a * 256 : Nat) : Int) := by omega
  rw [e, or_nat (a * 256) b (by omega) (by omega), nat_join 8 (a * 256) b (by omega) (by omega)]
  omega
end Go.Proofs.YtnlepjcjakghcaaGreatDoor.Bt

namespace Go.Proofs.YtnlepjcjakghcaaGreatDoor
open Go.RowKit Go.PlainAid
set_option linter.unusedVariables false

theorem hasRoom_y (n : Int) (m : Nat) (w : World) (h1 : 1 ≤ m) (h6 : m ≤ 6) (hn : 0 ≤ n) (hr : n < 2 ^ (8 * m)) (hx : n ≤ 9223372036854775807) :
    Calls Tryz.prog 99 #[.int .i64 n, .int .i64 m] w fun e w' => e = .returned (.bool true) ∧ w' = w := by
  have b3 : decide (0 ≤ n) = true := by simp; omega
  have b4 : (n / 2 ^ (8 * m) == 0) = true := by simp; exact Int.ediv_eq_zero_of_lt hn hr
  clear hr
  go_enter Tryz.func99, Tryz.ntmps99
  go_wp2
  go_ret
  exact ⟨rfl, rfl⟩
theorem hasRoom_n (n : Int) (m : Nat) (w : World) (h1 : 1 ≤ m) (h6 : m ≤ 6) (h : n < 0 ∨ 2 ^ (8 * m) ≤ n) (hx : n ≤ 9223372036854775807) :
    Calls Tryz.prog 99 #[.int .i64 n, .int .i64 m] w fun e w' => e = .returned (.bool false) ∧ w' = w := by
  by_cases h0 : n < 0
  · have b3 : decide (0 ≤ n) = false := by simp; omega
    clear h
    go_enter Tryz.func99, Tryz.ntmps99
    go_wp2
    go_ret
    exact ⟨rfl, rfl⟩
  · have b3 : decide (0 ≤ n) = true := by simp; omega
    have hp : (0 : Int) < 2 ^ (8 * m) := Int.pow_pos (by omega)
    have hq : 1 ≤ n / 2 ^ (8 * m) := by rw [Int.le_ediv_iff_mul_le hp]; omega
    have b4 : (n / 2 ^ (8 * m) == 0) = false := by rw [beq_eq_false_iff_ne]; omega
    clear h hp hq
    go_enter Tryz.func99, Tryz.ntmps99
    go_wp2
    go_ret
    exact ⟨rfl, rfl⟩

theorem addressOK_y (n : Int) (w : World) (h0 : 0 ≤ n) (h1 : n ≤ 4294967295) :
    Calls Tryz.prog 69 #[.int .i64 n] w fun e w' => e = .returned (.bool true) ∧ w' = w := by
  go_enter Tryz.func69, Tryz.ntmps69
  go_wp2
  go_ret
  exact ⟨congrArg (fun b => Ending.returned (.bool b)) (by simp), rfl⟩
theorem addressOK_n (n : Int) (w : World) (h : ¬ (0 ≤ n ∧ n ≤ 4294967295)) :
    Calls Tryz.prog 69 #[.int .i64 n] w fun e w' => e = .returned (.bool false) ∧ w' = w := by
  by_cases h0 : 0 ≤ n
  · have h2 : ¬ n ≤ 4294967295 := fun hh => h ⟨h0, hh⟩
    clear h
    go_enter Tryz.func69, Tryz.ntmps69
    go_wp2
    go_ret
    exact ⟨congrArg (fun b => Ending.returned (.bool b)) (by simp), rfl⟩
  · clear h
    have b : decide (0 ≤ n) = false := by simp; omega
    go_enter Tryz.func69, Tryz.ntmps69
    go_wp2
    go_ret
    exact ⟨rfl, rfl⟩
end Go.Proofs.YtnlepjcjakghcaaGreatDoor

namespace Go.Proofs.YtnlepjcjakghcaaGreatDoor
open Go.RowKit Go.PlainAid
set_option linter.unusedVariables false
set_option maxRecDepth 20000

end Go.Proofs.YtnlepjcjakghcaaGreatDoor

namespace Go.Proofs.YtnlepjcjakghcaaGreatDoor
open Go.RowKit Go.PlainAid
set_option linter.unusedVariables false
set_option maxRecDepth 20000

/-- The number of the first k bytes. -/
def numOf (f : Nat → Int) : Nat → Int
  | 0 => 0
  | k + 1 => numOf f k * 256 + f k

theorem numOf_bd (f : Nat → Int) (h : ∀ k, 0 ≤ f k ∧ f k ≤ 255) : ∀ k : Nat, 0 ≤ numOf f k ∧ numOf f k ≤ 256 ^ k - 1
  | 0 => by simp [numOf]
  | k + 1 => by
    have := numOf_bd f h k
    have := h k
    have e : (256 : Int) ^ (k + 1) = 256 ^ k * 256 := Int.pow_succ ..
    rw [e]
    unfold numOf
    omega
theorem numOf_le5 (f : Nat → Int) (h : ∀ k, 0 ≤ f k ∧ f k ≤ 255) (k : Nat) (hk : k ≤ 5) : 0 ≤ numOf f k ∧ numOf f k ≤ 1099511627775 := by
  have := numOf_bd f h k
  match k, hk with
  | 0, _ | 1, _ | 2, _ | 3, _ | 4, _ | 5, _ => simp at this; omega
theorem numOf_congr (f g : Nat → Int) : ∀ k : Nat, (∀ j, j < k → f j = g j) → numOf f k = numOf g k
  | 0, _ => rfl
  | k + 1, h => by rw [numOf, numOf, numOf_congr f g k (fun j hj => h j (by omega)), h k (by omega)]

theorem l01In_any (n lo hi : Int) (w : World) : Calls Tryz.prog 17 #[.int .i64 n, .int .i64 lo, .int .i64 hi] w fun e w' => e = .returned (.bool (decide (lo ≤ n ∧ n ≤ hi))) ∧ w' = w := by
  by_cases h1 : lo ≤ n
  · by_cases h2 : n ≤ hi
    · go_enter Tryz.func17, Tryz.ntmps17
      go_wp2
      go_ret
      exact ⟨congrArg (fun b => Ending.returned (.bool b)) (by simp [h1, h2]), rfl⟩
    · go_enter Tryz.func17, Tryz.ntmps17
      go_wp2
      go_ret
      exact ⟨congrArg (fun b => Ending.returned (.bool b)) (by simp [h2]), rfl⟩
  · have h1' : decide (lo ≤ n) = false := by simp; omega
    go_enter Tryz.func17, Tryz.ntmps17
    go_wp2
    go_ret
    exact ⟨congrArg (fun b => Ending.returned (.bool b)) (by simp), rfl⟩

set_option maxHeartbeats 400000 in
theorem numberOf_yes (a : Option Addr) (len cap : Nat) (f : Nat → Int) (w : World) (h : Bytes w a len f) (h1 : 1 ≤ len) (h6 : len ≤ 6) :
    Calls Tryz.prog 105 #[.slice a len cap] w fun e w' => e = .returned (.tuple #[.int .i64 (numOf f len), .int .i64 0]) ∧ w' = w := by
  have b1 : decide ((len : Int) < 1) = false := by simp; omega
  have b2 : decide (6 < (len : Int)) = false := by simp; omega
  go_enter Tryz.func105, Tryz.ntmps105
  go_wp2
  go_loop [4, 19] (fun n i => ∃ k : Nat, k ≤ len ∧ i = .int .i64 k ∧ n = .int .i64 (numOf f k)) (fun _ i => len - (intOf i).toNat)
  case atStart => exact ⟨0, Nat.zero_le _, rfl, rfl⟩
  case round =>
    obtain ⟨k, hk, rfl, rfl⟩ := hrel
    have h0 := (h.1 k).1
    have hx := (h.1 k).2
    by_cases hlt : k < len
    · have hbd := numOf_le5 f h.1 k (by omega)
      obtain ⟨b, off, rfl, hc⟩ := h.2 (by omega)
      have hck := hc k hlt
      have hj := Bt.join8 (numOf f k) (f k) hbd.1 (by omega) h0 hx
      clear hc
      go_wp2
      go_round
      case rel => exact ⟨k + 1, by omega, by go_num, rfl⟩
      case measure => simp [intOf]; omega
    · obtain rfl : k = len := by omega
      go_wp2
      go_ret2
      exact ⟨rfl, rfl⟩

end Go.Proofs.YtnlepjcjakghcaaGreatDoor

namespace Go.Proofs.YtnlepjcjakghcaaGreatDoor
open Go.RowKit Go.PlainAid
set_option linter.unusedVariables false
set_option maxRecDepth 20000

/-- Whether it holds: a name that no rule looks into. -/
def dec (p : Prop) [Decidable p] : Bool := decide p
theorem dec_y {p : Prop} [Decidable p] (h : p) : dec p = true := decide_eq_true h
theorem dec_n {p : Prop} [Decidable p] (h : ¬ p) : dec p = false := decide_eq_false h

theorem hasRoom_any (n : Int) (m : Nat) (M : Int) (w : World) (h1 : 1 ≤ m) (h6 : m ≤ 6) (hM : (2 : Int) ^ (8 * m) = M + 1) (hx : n ≤ 9223372036854775807) :
    Calls Tryz.prog 99 #[.int .i64 n, .int .i64 m] w fun e w' => e = .returned (.bool (dec (0 ≤ n ∧ n ≤ M))) ∧ w' = w := by
  by_cases h : 0 ≤ n ∧ n ≤ M
  · exact (hasRoom_y n m w h1 h6 h.1 (by rw [hM]; omega) hx).mono fun e w' hh => ⟨by rw [dec_y h]; exact hh.1, hh.2⟩
  · exact (hasRoom_n n m w h1 h6 (by rw [hM]; omega) hx).mono fun e w' hh => ⟨by rw [dec_n h]; exact hh.1, hh.2⟩
theorem hasRoom2 (n : Int) (w : World) (hx : n ≤ 9223372036854775807) : Calls Tryz.prog 99 #[.int .i64 n, .int .i64 2] w fun e w' => e = .returned (.bool (dec (0 ≤ n ∧ n ≤ 65535))) ∧ w' = w :=
  hasRoom_any n 2 65535 w (by omega) (by omega) rfl hx
theorem addressOK_any (n : Int) (w : World) : Calls Tryz.prog 69 #[.int .i64 n] w fun e w' => e = .returned (.bool (dec (0 ≤ n ∧ n ≤ 4294967295))) ∧ w' = w := by
  by_cases h : 0 ≤ n ∧ n ≤ 4294967295
  · exact (addressOK_y n w h.1 h.2).mono fun e w' hh => ⟨by rw [dec_y h]; exact hh.1, hh.2⟩
  · exact (addressOK_n n w h).mono fun e w' hh => ⟨by rw [dec_n h]; exact hh.1, hh.2⟩
theorem portOK_any (n : Int) (w : World) (hx : n ≤ 9223372036854775807) : Calls Tryz.prog 111 #[.int .i64 n] w fun e w' => e = .returned (.bool (dec (0 ≤ n ∧ n ≤ 65535))) ∧ w' = w := by
  go_enter Tryz.func111, Tryz.ntmps111
  go_wp2_with fail
  refine (hasRoom2 _ _ hx).mono ?_
  rintro e w1 ⟨rfl, hw1⟩
  obtain rfl := hw1.symm
  clear hw1
  go_wp2
  go_ret
  exact ⟨rfl, rfl⟩
theorem specIn_any (n lo hi : Int) (w : World) : Calls Tryz.prog 17 #[.int .i64 n, .int .i64 lo, .int .i64 hi] w fun e w' => e = .returned (.bool (dec (lo ≤ n ∧ n ≤ hi))) ∧ w' = w := l01In_any n lo hi w
end Go.Proofs.YtnlepjcjakghcaaGreatDoor

namespace Go.Proofs.YtnlepjcjakghcaaGreatDoor
open Go.RowKit Go.PlainAid Go.Proofs.YtnlepjcjakghcaaGreatDoor.Bt Go.Sort
set_option linter.unusedVariables false
set_option maxRecDepth 20000
end Go.Proofs.YtnlepjcjakghcaaGreatDoor

namespace Go.Proofs.YtnlepjcjakghcaaGreatDoor
open Go.RowKit Go.PlainAid Go.Proofs.YtnlepjcjakghcaaGreatDoor.Bt Go.Sort
set_option linter.unusedVariables false
set_option maxRecDepth 20000
def PlRok (r : PlaceV) : Prop := r.lo ≤ 9223372036854775807 ∧ r.hi ≤ 9223372036854775807
def RuRok (r : RuleV) : Prop := r.lo ≤ 9223372036854775807 ∧ r.hi ≤ 9223372036854775807
theorem pv_len (u : PlaceV) : (pv u).length = 4 := rfl
theorem rv_len (u : RuleV) : (rv u).length = 6 := rfl
end Go.Proofs.YtnlepjcjakghcaaGreatDoor

namespace Go.Proofs.YtnlepjcjakghcaaGreatDoor
open Go.RowKit Go.PlainAid Go.Proofs.YtnlepjcjakghcaaGreatDoor.Bt Go.Sort
set_option linter.unusedVariables false
set_option maxRecDepth 20000
/-- A role, and where its rules lie. -/
structure RoX where
  r : RoleV
  ra : Option Addr
  rc : Nat
def RoX.sl (x : RoX) : Value := .slice x.ra x.r.rs.length x.rc
def roG (x : RoX) : List Value := [.string x.r.nm, .slice x.ra x.r.rs.length x.rc, .int .i64 x.r.q, .int .i64 x.r.m, .int .i64 x.r.i]
theorem roG_len (x : RoX) : (roG x).length = 5 := rfl
/-- Rows that are apart. -/
def ApB (v v' : Value) : Prop := ∀ k, v.ownBlock = some k → v'.ownBlock ≠ some k
structure OwnRo (w : World) (B : Nat) (v : Value) (L : List RoX) : Prop where
  row : OwnS roG 5 87 w B v L
  rules : ∀ x, x ∈ L → OwnS rv 6 84 w B x.sl x.r.rs
  apart : L.Pairwise (fun x y => ApB x.sl y.sl)
theorem OwnRo.now {w w' : World} {B : Nat} {v : Value} {L : List RoX} (h : OwnRo w B v L) (hb : Below w.heap.size w w') : OwnRo w' B v L := ⟨h.row.now hb, fun x hx => (h.rules x hx).now hb, h.apart⟩
theorem OwnRo.lower {w : World} {B B' : Nat} {v : Value} {L : List RoX} (h : OwnRo w B v L) (hb : B' ≤ B) : OwnRo w B' v L := ⟨h.row.lower hb, fun x hx => (h.rules x hx).lower hb, h.apart⟩
/-- The blocks that a row of roles owns. -/
def roBk (v : Value) (L : List RoX) (b : Nat) : Prop := v.ownBlock = some b ∨ ∃ x, x ∈ L ∧ x.sl.ownBlock = some b
theorem OwnRo.lt {w : World} {B : Nat} {v : Value} {L : List RoX} (h : OwnRo w B v L) : ∀ b, roBk v L b → B ≤ b ∧ b < w.heap.size := by
  rintro b (hb | ⟨x, hx, hb⟩)
  · exact h.row.lt b hb
  · exact (h.rules x hx).lt b hb
/-- What happens in blocks of others alone leaves it. -/
theorem OwnRo.keepB {w w' : World} {B : Nat} {v : Value} {L : List RoX} (h : OwnRo w B v L) (hk : ∀ b, roBk v L b → w'.heap[b]? = w.heap[b]?) : OwnRo w' B v L := by
  have loc : ∀ {e : TypeId} {K n : Nat} {v : Value} {F : List Value}, w.ownsRow B e K v n F → (∀ k, v.ownBlock = some k → w'.heap[k]? = w.heap[k]?) → w'.ownsRow B e K v n F := by
    intro e K n v F h hq
    refine ⟨h.1, ?_⟩
    rcases h.2 with h' | ⟨g, cap, cur, h1, hB, hg, h4⟩
    · exact .inl h'
    · exact .inr ⟨g, cap, cur, h1, hB, by rw [hq g (by rw [h1]; rfl)]; exact hg, h4⟩
  exact ⟨loc h.row (fun k hk' => hk k (.inl hk')), fun x hx => loc (h.rules x hx) (fun k hk' => hk k (.inr ⟨x, hx, hk'⟩)), h.apart⟩
end Go.Proofs.YtnlepjcjakghcaaGreatDoor

namespace Go.Proofs.YtnlepjcjakghcaaGreatDoor
open Go.RowKit Go.PlainAid Go.Proofs.YtnlepjcjakghcaaGreatDoor.Bt Go.Sort
set_option linter.unusedVariables false
set_option maxRecDepth 20000
end Go.Proofs.YtnlepjcjakghcaaGreatDoor

namespace Go.Proofs.YtnlepjcjakghcaaGreatDoor
open Go.RowKit Go.PlainAid Go.Proofs.YtnlepjcjakghcaaGreatDoor.Bt Go.Sort
set_option linter.unusedVariables false
set_option maxRecDepth 20000
/-- The blocks that a configuration owns. -/
def cfBk (vp vr : Value) (L : List RoX) (k : Nat) : Prop := vp.ownBlock = some k ∨ roBk vr L k
end Go.Proofs.YtnlepjcjakghcaaGreatDoor

namespace Go.Proofs.YtnlepjcjakghcaaGreatDoor
open Go.RowKit Go.PlainAid
set_option linter.unusedVariables false

structure UserV where
  nm : ByteArray
  sa : ByteArray
  ha : ByteArray
  ro : ByteArray
  bl : Int
  lg : Int

instance : Inhabited UserV := ⟨⟨⟨#[]⟩, ⟨#[]⟩, ⟨#[]⟩, ⟨#[]⟩, 0, 0⟩⟩
def uvG (u : UserV) : List Value := [.string u.nm, .string u.sa, .string u.ha, .string u.ro, .int .i64 u.bl, .int .i64 u.lg]
def UsRok (u : UserV) : Prop := u.nm.size ≤ maxLen ∧ u.sa.size ≤ maxLen ∧ u.ha.size ≤ maxLen ∧ u.ro.size ≤ maxLen ∧ (Lit.int .i64 u.bl).wf = true ∧ (Lit.int .i64 u.lg).wf = true
def UsR (w : World) (u : UserV) (vs : List Value) : Prop := vs = uvG u ∧ UsRok u
theorem UsR.kp : Kp UsR := fun _ _ _ _ h _ => h

structure SessV where
  id : Int
  us : Int
  mc : ByteArray
  ip : Int
  be : Int
  la : Int
  ud : Int
  qu : Int
  un : Int
  il : Int

instance : Inhabited SessV := ⟨⟨0, 0, ⟨#[]⟩, 0, 0, 0, 0, 0, 0, 0⟩⟩
def svG (u : SessV) : List Value := [.int .i64 u.id, .int .i64 u.us, .string u.mc, .int .i64 u.ip, .int .i64 u.be, .int .i64 u.la, .int .i64 u.ud, .int .i64 u.qu, .int .i64 u.un, .int .i64 u.il]
def SeRok (u : SessV) : Prop := (Lit.int .i64 u.id).wf = true ∧ (Lit.int .i64 u.us).wf = true ∧ u.mc.size ≤ maxLen ∧ (Lit.int .i64 u.ip).wf = true ∧ (Lit.int .i64 u.be).wf = true ∧ (Lit.int .i64 u.la).wf = true ∧ (Lit.int .i64 u.ud).wf = true ∧ (Lit.int .i64 u.qu).wf = true ∧ (Lit.int .i64 u.un).wf = true ∧ (Lit.int .i64 u.il).wf = true
def SeR (w : World) (u : SessV) (vs : List Value) : Prop := vs = svG u ∧ SeRok u
theorem SeR.kp : Kp SeR := fun _ _ _ _ h _ => h

structure FailV where
  mc : ByteArray
  ct : Int
  un : Int

instance : Inhabited FailV := ⟨⟨⟨#[]⟩, 0, 0⟩⟩
def fvG (u : FailV) : List Value := [.string u.mc, .int .i64 u.ct, .int .i64 u.un]
def FaRok (u : FailV) : Prop := u.mc.size ≤ maxLen ∧ (Lit.int .i64 u.ct).wf = true ∧ (Lit.int .i64 u.un).wf = true
def FaR (w : World) (u : FailV) (vs : List Value) : Prop := vs = fvG u ∧ FaRok u
theorem FaR.kp : Kp FaR := fun _ _ _ _ h _ => h

structure RecV where
  id : Int
  tm : Int
  ca : Int
  bt : Int
  st : Bool

instance : Inhabited RecV := ⟨⟨0, 0, 0, 0, false⟩⟩
def evG (u : RecV) : List Value := [.int .i64 u.id, .int .i64 u.tm, .int .i64 u.ca, .int .i64 u.bt, .bool u.st]
def ReRok (u : RecV) : Prop := (Lit.int .i64 u.id).wf = true ∧ (Lit.int .i64 u.tm).wf = true ∧ (Lit.int .i64 u.ca).wf = true ∧ (Lit.int .i64 u.bt).wf = true
def ReR (w : World) (u : RecV) (vs : List Value) : Prop := vs = evG u ∧ ReRok u
theorem ReR.kp : Kp ReR := fun _ _ _ _ h _ => h

end Go.Proofs.YtnlepjcjakghcaaGreatDoor

namespace Go.Proofs.YtnlepjcjakghcaaGreatDoor
open Go.RowKit Go.PlainAid
set_option linter.unusedVariables false

section OpnG
variable {H : Type} {enc : TypeId × Value → H} {w : World} {base : Nat} {spare : Nat → Bool} {held : Bool} {fuel : Nat} {cs : List Value} {x : DataW H × List MemPlace}

end OpnG
end Go.Proofs.YtnlepjcjakghcaaGreatDoor

namespace Go.Proofs.YtnlepjcjakghcaaGreatDoor
theorem Tryz.infoB : (Tryz.prog.info? 5).map (fun i => (i.zero, i.size, i.bytes)) = some (some (.int .u8 0), 1, 1) := by kernel_rfl
end Go.Proofs.YtnlepjcjakghcaaGreatDoor
