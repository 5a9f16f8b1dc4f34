/- The walk of laws.FnPackets: a packet is read back from its bytes, whatever stands behind it; with a bit of its head turned, or cut, it is none. -/
import Derived.Test.YtfcdobicilediaaOfPacket
import Derived.Test.YtfcdobicilediaaPkBack
import Derived.Test.YtfcdobicilediaaReadP
import Derived.Test.YtfcdobicilediaaSpecTops
import Derived.Test.YtfcdobicilediaaAppB
namespace Go.Proofs.Ytfcdobicilediaa.Pk
open Go.RowKit Go.PlainAid Go.Proofs.Ytfcdobicilediaa Go.Proofs.Ytfcdobicilediaa.Pl
set_option linter.unusedVariables false
set_option maxRecDepth 20000

/-- A row of one's own as a row of bytes. -/
def RowD (w : World) (g cp n : Nat) (F : Nat → Int) : Prop := Bytes w (some ⟨g, 0, none⟩) n F ∧ g < w.heap.size ∧ n ≤ cp ∧ cp ≤ 9223372036854775807
theorem RowD.below {w w' : World} {g cp n : Nat} {F : Nat → Int} (h : RowD w g cp n F) (b : Below w.heap.size w w') : RowD w' g cp n F :=
  ⟨h.1.below b (fun b' o' _ e => by cases e; exact h.2.1), Nat.lt_of_lt_of_le h.2.1 b.size, h.2.2⟩
theorem rowD_of {w : World} {B : Nat} {v : Value} {L : List Int} (O : OwnL 5 w B v L) (hL : ∀ x ∈ L, 0 ≤ x ∧ x ≤ 255) (h0 : 0 < L.length) : ∃ g cp, v = .slice (some ⟨g, 0, none⟩) L.length cp ∧ RowD w g cp L.length (fun j => L.getD j 0) := by
  obtain ⟨g, cp, hv, h1, h2, h3, h4, h5, h6⟩ := Laid.writ (w' := w) O hL h0
  exact ⟨g, cp, hv, ⟨fun k => getD_bd hL k, fun _ => ⟨g, 0, rfl, fun i hi => by rw [Nat.zero_add]; exact h6 i hi⟩⟩, h4, h1, by unfold maxLen at h2; omega⟩
/-- A row of bytes somewhere. -/
def RowS (w : World) (a : Option Addr) (n : Nat) (F : Nat → Int) : Prop := Bytes w a n F ∧ ∀ b off, a = some ⟨b, off, none⟩ → b < w.heap.size
theorem RowS.below {w w' : World} {a : Option Addr} {n : Nat} {F : Nat → Int} (h : RowS w a n F) (b : Below w.heap.size w w') : RowS w' a n F :=
  ⟨h.1.below b (fun b' o' _ e => h.2 b' o' e), fun b' o' e => Nat.lt_of_lt_of_le (h.2 b' o' e) b.size⟩
theorem cut_to (g len cap v : Nat) (h : v ≤ cap) (w : World) : (Instr.slice 22 (.slice (some ⟨g, 0, none⟩) len cap) none (some (.int .i64 (v : Int))) none).run Try.prog w = .ok (.slice (some ⟨g, 0, none⟩) v cap) w := by
  obtain ⟨i0, hi, hz0, hz1, hz2⟩ := info_parts Try.infoB
  have ht : Try.prog.underlying 22 = some (.slice (Try.prog.elem 22)) := by kernel_rfl
  have he : Try.prog.elem 22 = 5 := by kernel_rfl
  rw [run_slice_h w 22 _ len cap ht .i64 _ (by omega) (by omega)]
  have : (⟨g, 0, none⟩ : Addr).add 0 = ⟨g, 0, none⟩ := by unfold Addr.add; simp
  simp [sliced, sizeOf, typeInfo, he, hi, hz1, this]

/-- 'x ^ byte(1 << v)'. -/
theorem xor_bit (x v : Int) (h0 : 0 ≤ x) (h1 : x ≤ 255) (v0 : 0 ≤ v) (v1 : v < 8) :
    bits BinOp.xor IntKind.u8 x (IntKind.u8.wrap (2 ^ min (IntKind.u64.wrap v).toNat 8)) - x ≠ 0 ∧ -128 ≤ bits BinOp.xor IntKind.u8 x (IntKind.u8.wrap (2 ^ min (IntKind.u64.wrap v).toNat 8)) - x ∧
      bits BinOp.xor IntKind.u8 x (IntKind.u8.wrap (2 ^ min (IntKind.u64.wrap v).toNat 8)) - x ≤ 128 ∧ 0 ≤ bits BinOp.xor IntKind.u8 x (IntKind.u8.wrap (2 ^ min (IntKind.u64.wrap v).toNat 8)) ∧ bits BinOp.xor IntKind.u8 x (IntKind.u8.wrap (2 ^ min (IntKind.u64.wrap v).toNat 8)) ≤ 255 := by
  obtain ⟨X, rfl⟩ := Int.eq_ofNat_of_zero_le h0
  obtain ⟨V, rfl⟩ := Int.eq_ofNat_of_zero_le v0
  have e1 : IntKind.u64.wrap (V : Int) = V := by rw [IntKind.wrap_u64]; omega
  have e2 : min (V : Int).toNat 8 = V := by omega
  have hp : 2 ^ V ≤ 2 ^ 7 := Nat.pow_le_pow_right (by omega) (by omega)
  have hc : (2 : Int) ^ V = ((2 ^ V : Nat) : Int) := by rw [Int.natCast_pow]; rfl
  have hb := bit_turned ⟨X, by omega⟩ ⟨V, by omega⟩
  simp only at hb
  rw [e1, e2, hc]
  generalize 2 ^ V = P at *
  have e3 : IntKind.u8.wrap (P : Int) = P := by rw [IntKind.wrap_u8]; omega
  rw [e3, u8_xor_nat X P (by omega) (by omega)]
  omega


theorem below_drewN {n : Nat} {w w' : World} (b : Below n w w') (k : Nat) : Below n w (w'.drewN k) := ⟨b.os, b.tape, b.output, b.size, b.block⟩

theorem xor_bit_mod (x : Int) (v : Nat) (h0 : 0 ≤ x) (h1 : x ≤ 255) (v1 : v < 8) :
    bits BinOp.xor IntKind.u8 x (2 ^ min v 8 % 256) - x ≠ 0 ∧ -128 ≤ bits BinOp.xor IntKind.u8 x (2 ^ min v 8 % 256) - x ∧ bits BinOp.xor IntKind.u8 x (2 ^ min v 8 % 256) - x ≤ 128 ∧ 0 ≤ bits BinOp.xor IntKind.u8 x (2 ^ min v 8 % 256) ∧ bits BinOp.xor IntKind.u8 x (2 ^ min v 8 % 256) ≤ 255 := by
  have h := xor_bit x (v : Int) h0 h1 (by omega) (by omega)
  have e1 : (IntKind.u64.wrap (v : Int)).toNat = v := by rw [IntKind.wrap_u64]; omega
  rw [e1, IntKind.wrap_u8] at h
  exact h

/-- A row in which one byte was turned; another row and all that lay ahead stand. -/
theorem turned_facts {w w9 : World} {PL : List Int} {ln g9 c9 gb cpb n9 k : Nat} {y : Int} (bP : ∀ x ∈ PL, 0 ≤ x ∧ x ≤ 255) (y3 : 0 ≤ y) (y4 : y ≤ 255) (hn : n9 < ln)
    (X : ln ≤ c9 ∧ c9 ≤ 9223372036854775807 ∧ w.heap.size ≤ g9 ∧ gb < g9 ∧ g9 < w9.heap.size ∧ (∀ i, w9.frozen? ⟨g9, i, none⟩ = false) ∧ ∀ i, i < ln → w9.cell? ⟨g9, i, none⟩ = some (.int .u8 (PL.getD i 0)))
    (C : Below w.heap.size w w9) (R : RowD w9 gb cpb ln (fun j => PL.getD j 0)) :
    Bytes ((w9.drewN k).setCell ⟨g9, n9, none⟩ (.int .u8 y)) (some ⟨g9, 0, none⟩) ln (fun j => if j = n9 then y else PL.getD j 0) ∧
    RowD ((w9.drewN k).setCell ⟨g9, n9, none⟩ (.int .u8 y)) gb cpb ln (fun j => PL.getD j 0) ∧ Below w.heap.size w ((w9.drewN k).setCell ⟨g9, n9, none⟩ (.int .u8 y)) := by
  have b9 : Below g9 w9 ((w9.drewN k).setCell ⟨g9, n9, none⟩ (.int .u8 y)) := Below.setCell (w := w9.drewN k) (below_drewN (Below.refl g9 w9) k) (p := ⟨g9, n9, none⟩) (Nat.le_refl g9) _
  refine ⟨⟨fun j => ?_, fun _ => ⟨g9, 0, rfl, fun i hi => ?_⟩⟩, ⟨R.1.below b9 (fun b' o' _ e => by cases e; exact X.2.2.2.1), Nat.lt_of_lt_of_le R.2.1 b9.size, R.2.2⟩, Below.setCell (w := w9.drewN k) (below_drewN C k) (p := ⟨g9, n9, none⟩) X.2.2.1 _⟩
  · show 0 ≤ (if j = n9 then y else PL.getD j 0) ∧ (if j = n9 then y else PL.getD j 0) ≤ 255
    by_cases e : j = n9
    · rw [if_pos e]; exact ⟨y3, y4⟩
    · rw [if_neg e]; exact getD_bd bP j
  · rw [Nat.zero_add]
    show ((w9.drewN k).setCell ⟨g9, n9, none⟩ (.int .u8 y)).cell? ⟨g9, i, none⟩ = some (Value.int .u8 (if i = n9 then y else PL.getD i 0))
    have hcK : (w9.drewN k).cell? ⟨g9, n9, none⟩ = some (.int .u8 (PL.getD n9 0)) := X.2.2.2.2.2.2 n9 hn
    by_cases e : i = n9
    · rw [if_pos e, e]; exact World.cell?_setCell_same _ _ _ hcK
    · rw [if_neg e, World.cell?_setCell_other _ _ _ _ (fun hh => e (Addr.mk.inj hh).2.1.symm)]
      exact X.2.2.2.2.2.2 i hi

end Go.Proofs.Ytfcdobicilediaa.Pk
