/- ConnOpen: what it answers; the model's first way. -/
import Derived.Test.YtjammgjmidchmaaConSb
import Derived.Test.YtjammgjmidchmaaConG
namespace Go.Proofs.Ytjammgjmidchmaa
open Go.RowKit Go.PlainAid Go.Proofs.Ytjammgjmidchmaa.Bt Go.Sort
set_option linter.unusedVariables false
set_option maxRecDepth 20000

/-- What ConnOpen asks of its arguments beside the length. -/
def opB (mc : ByteArray) (ip di : Int) (g : SegV) : Bool := ((mc.size : Int) == 6) && dec (0 ≤ ip ∧ ip ≤ 4294967295) && dec (0 ≤ di ∧ di ≤ 4294967295) && sgB g
def opC (mc : ByteArray) (ip di : Int) (g : SegV) (isn : Int) : Int := if 65536 < mc.size then 2 else if opB mc ip di g = true then (if 0 ≤ isn ∧ isn ≤ 4294967295 then (if bits BinOp.and IntKind.i64 g.fl 23 = 2 then 0 else 12) else 4) else 1
def opV (mc : ByteArray) (ip di : Int) (g : SegV) (isn : Int) : ConnV := if opC mc ip di g isn = 0 then ⟨mc, ip, g.sp, di, 1, isn, sqN (isn + 1), sqN (g.sq + 1), ⟨#[]⟩, ⟨#[]⟩, false⟩ else cnZ
def opL (mc : ByteArray) (ip di : Int) (g : SegV) (isn : Int) : List SegV := if opC mc ip di g isn = 0 then [⟨80, g.sp, isn, sqN (g.sq + 1), 18, 1000, ⟨#[]⟩⟩] else []
theorem op_else {mc : ByteArray} {ip di : Int} {g : SegV} {isn k : Int} (e : opC mc ip di g isn = k) (hk : k ≠ 0) : opC mc ip di g isn = k ∧ opV mc ip di g isn = cnZ ∧ opL mc ip di g isn = [] :=
  ⟨e, by unfold opV; rw [e, if_neg hk], by unfold opL; rw [e, if_neg hk]⟩
theorem op_long {mc : ByteArray} {ip di : Int} {g : SegV} {isn : Int} (h : 65536 < mc.size) : opC mc ip di g isn = 2 ∧ opV mc ip di g isn = cnZ ∧ opL mc ip di g isn = [] :=
  op_else (by unfold opC; rw [if_pos h]) (by decide)
theorem op_bad {mc : ByteArray} {ip di : Int} {g : SegV} {isn : Int} (h : ¬ 65536 < mc.size) (hb : opB mc ip di g = false) : opC mc ip di g isn = 1 ∧ opV mc ip di g isn = cnZ ∧ opL mc ip di g isn = [] :=
  op_else (by unfold opC; rw [if_neg h, if_neg (by simp [hb])]) (by decide)
theorem op_range {mc : ByteArray} {ip di : Int} {g : SegV} {isn : Int} (h : ¬ 65536 < mc.size) (hb : opB mc ip di g = true) (hi : ¬ (0 ≤ isn ∧ isn ≤ 4294967295)) : opC mc ip di g isn = 4 ∧ opV mc ip di g isn = cnZ ∧ opL mc ip di g isn = [] :=
  op_else (by unfold opC; rw [if_neg h, if_pos hb, if_neg hi]) (by decide)
theorem op_state {mc : ByteArray} {ip di : Int} {g : SegV} {isn : Int} (h : ¬ 65536 < mc.size) (hb : opB mc ip di g = true) (hi : 0 ≤ isn ∧ isn ≤ 4294967295) (hf : bits BinOp.and IntKind.i64 g.fl 23 ≠ 2) : opC mc ip di g isn = 12 ∧ opV mc ip di g isn = cnZ ∧ opL mc ip di g isn = [] :=
  op_else (by unfold opC; rw [if_neg h, if_pos hb, if_pos hi, if_neg hf]) (by decide)
theorem op_ok {mc : ByteArray} {ip di : Int} {g : SegV} {isn : Int} (h : ¬ 65536 < mc.size) (hb : opB mc ip di g = true) (hi : 0 ≤ isn ∧ isn ≤ 4294967295) (hf : bits BinOp.and IntKind.i64 g.fl 23 = 2) : opC mc ip di g isn = 0 ∧ opV mc ip di g isn = ⟨mc, ip, g.sp, di, 1, isn, sqN (isn + 1), sqN (g.sq + 1), ⟨#[]⟩, ⟨#[]⟩, false⟩ ∧ opL mc ip di g isn = [⟨80, g.sp, isn, sqN (g.sq + 1), 18, 1000, ⟨#[]⟩⟩] := by
  have e : opC mc ip di g isn = 0 := by unfold opC; rw [if_neg h, if_pos hb, if_pos hi, if_pos hf]
  exact ⟨e, by unfold opV; rw [if_pos e], by unfold opL; rw [if_pos e]⟩

set_option maxHeartbeats 4000000 in
theorem specOp_long (mc : ByteArray) (ip di : Int) (sp dp sq ac fl wi : Int) (da : ByteArray) (isn : Int) (w : World) (h : 65536 < mc.size) :
    Calls Try.prog 24 #[.string mc, .int .i64 ip, .int .i64 di, .agg #[.int .i64 sp, .int .i64 dp, .int .i64 sq, .int .i64 ac, .int .i64 fl, .int .i64 wi, .string da], .int .i64 isn] w fun e w' => ∃ v, e = .returned (.tuple #[cvA cnZ, v, .int .i64 2]) ∧ OwnS sgG 7 27 w' w.heap.size v [] ∧ Below w.heap.size w w' := by
  have t1 : decide ((65536 : Int) < (mc.size : Int)) = true := decide_eq_true (by omega)
  clear h
  go_enter Try.func24, Try.ntmps24
  go_wp2
  (try simp only [Exit.inBlock, Exit.then])
  refine bodyPost_ret (v := .tuple #[cvA cnZ, .slice (some ⟨w.heap.size + 1 + 1, 0, none⟩) 0 0, .int .i64 2]) (by simp [results, Try.results24, go_sem, cvA, cnZ]; try rfl) rfl ?_
  exact ⟨_, rfl, lit_at (by omega) (by simp), ((((Below.refl _ _).alloc (Nat.le_refl _) _).alloc (by simp) _).alloc (by simp; omega) _)⟩
end Go.Proofs.Ytjammgjmidchmaa
