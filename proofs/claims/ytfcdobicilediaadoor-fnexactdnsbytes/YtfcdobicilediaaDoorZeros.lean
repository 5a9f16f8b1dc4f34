/- 'append(b, make([]byte, 6)...)' onto a row of six of one's own: it is what appending a text of six noughts is. -/
import Derived.Test.YtfcdobicilediaaDoorApp
import Derived.Lib.AppendZeros
import Derived.Deep.AppendSrc
namespace Go.Proofs.YtfcdobicilediaaDoor
open Go.RowKit Go.PlainAid
set_option linter.unusedVariables false
set_option maxRecDepth 20000

theorem zeros_eq (base : Option Addr) (cap : Nat) (w : World) :
    (Builtin.append_ #[22, 3] 22 #[.slice base 6 cap, .int .i64 6]).run Tryd.prog w = (Builtin.append_ #[22, 9] 22 #[.slice base 6 cap, .string ⟨#[0, 0, 0, 0, 0, 0]⟩]).run Tryd.prog w := by
  obtain ⟨i0, hi, hz0, hz1, hz2⟩ := info_parts Tryd.infoB
  have hw : IntKind.i64.wrap 6 = 6 := by rw [IntKind.wrap_i64]; omega
  have hfs : ∀ w, (Builtin.firstCells 1 6 (.string ⟨#[0, 0, 0, 0, 0, 0]⟩)).run Tryd.prog w = .ok #[.int .u8 0, .int .u8 0, .int .u8 0, .int .u8 0, .int .u8 0, .int .u8 0] w := fun w => by
    have := firstCells_string (P := Tryd.prog) ⟨#[0, 0, 0, 0, 0, 0]⟩ w
    exact this
  have hzc : Builtin.zeroCells (Value.int .u8 0).cells 6 = #[.int .u8 0, .int .u8 0, .int .u8 0, .int .u8 0, .int .u8 0, .int .u8 0] := by
    apply Array.ext
    · simp [Builtin.zeroCells, Value.cells]
    · intro i h1 h2
      have h6 : i < 6 := by simpa using h2
      have hc : i = 0 ∨ i = 1 ∨ i = 2 ∨ i = 3 ∨ i = 4 ∨ i = 5 := by omega
      rcases hc with rfl | rfl | rfl | rfl | rfl | rfl <;> simp [Builtin.zeroCells, Value.cells]
  have hls : ∀ w, (Builtin.lenOf (.string ⟨#[0, 0, 0, 0, 0, 0]⟩)).run Tryd.prog w = .ok 6 w := fun w => rfl
  by_cases hc : 12 ≤ cap
  · simp [Builtin.append_, run_underlying Tryd.underlying22, run_underlying Tryd.underlying3, run_underlying Tryd.underlying9, sizeOf, typeInfo, zeroValue, hi, hz0, hz1, hz2, asInt, asIntOf, hw, hc, hfs, hzc, hls]
  · have hn : Builtin.nextslicecap 12 cap ≤ 24 := by
      unfold Builtin.nextslicecap
      split
      · omega
      · split <;> omega
    have hn2 : ¬ (281474976710656 < Builtin.nextslicecap 12 cap) := by omega
    simp [Builtin.append_, run_underlying Tryd.underlying22, run_underlying Tryd.underlying3, run_underlying Tryd.underlying9, sizeOf, typeInfo, zeroValue, hi, hz0, hz1, hz2, asInt, asIntOf, hw, hc, hfs, hzc, hls, hn2]
    intro h
    exfalso
    omega
/-- 'append(b, make([]byte, 6)...)', b of six. -/
theorem wpl_zer (w : World) {ops : Array Oper} {rest : List Oper} {o : Oper} {a : Act} {Q : Exit → Act → World → Prop} (hgd : o.guard = none) (hty : o.type = 22) (sl x : Operand)
    (ho : o.op = .call { callee := .builtin .append, args := #[sl, x], argTypes := #[22, 3] })
    (B : Nat) (v : Value) (L : List Int) (hs : a.eval sl = v) (hown : OwnL 5 w B v L) (hL : L.length = 6) (hx : a.eval x = .int .i64 6) (hB : B ≤ w.heap.size)
    (h : ∀ v' w', Hid (Laid w w' B v' (L ++ List.replicate 6 0)) → wpList Tryd.prog ops Q rest (a.put o.dst v') w') : wpList Tryd.prog ops Q (o :: rest) a w := by
  obtain ⟨i0, hi, hz0, hz1, hz2⟩ := info_parts Tryd.infoB
  obtain ⟨g, cap, hv⟩ : ∃ base cap, v = .slice base 6 cap := by
    rcases hown.2 with ⟨h1, h2⟩ | ⟨g, cap, cur, h1, hb⟩
    · exfalso
      have : L = [] := by simpa using h2
      rw [this] at hL; simp at hL
    · exact ⟨_, _, by rw [h1, hL]⟩
  have hown' := hown
  unfold OwnL at hown'
  obtain ⟨v', w', hr, h1, h2, _⟩ := Lib.run_append_own_string (P := Tryd.prog) w B 22 9 22 5 i0 Tryd.underlying22 Tryd.underlying9 hi hz0 hz1 hz2 v L.length (L.map (Value.int .u8)) hown' ⟨#[0, 0, 0, 0, 0, 0]⟩ (by unfold maxLen; show L.length + 6 ≤ _; omega) (by show (L.length + 6) ≤ _; omega) hB
  have hr' : (Builtin.append_ #[22, 3] o.type #[v, .int .i64 6]).run Tryd.prog w = .ok v' w' := by
    rw [hty]
    subst hv
    rw [zeros_eq]
    exact hr
  refine Lib.wpList_append_run w hgd sl x 22 3 ho v (.int .i64 6) hs hx v' w' hr' (h v' w' ⟨?_, grown_below hown hB h2⟩)
  have e : List.replicate 6 (0 : Int) = nums ⟨#[0, 0, 0, 0, 0, 0]⟩ := by rfl
  rw [e]
  exact OwnL.more (by rw [nums_len, ← strCells_nums]; exact h1)
end Go.Proofs.YtfcdobicilediaaDoor
