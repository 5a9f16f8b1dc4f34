/- The program's protoNumbers: a map of four words; looked up. -/
import Derived.Test.YtimhkeebgogfoaaDoorRuleW
import Derived.Maps.Own
import Derived.Maps.OwnOps
import Derived.Maps.OwnSet
import Derived.Maps.Views
namespace Go.Proofs.YtimhkeebgogfoaaDoor
open Go.RowKit Go.PlainAid Go.Sort Go.Maps Go.WideAt Go.WideMaps
set_option linter.unusedVariables false
set_option maxRecDepth 20000
theorem lawS : Keyed Tryd.prog 9 := string_keyed Tryd.underlying9
theorem zeroI (w : World) : (zeroValue 3).run Tryd.prog w = .ok (.int .i64 0) w := by kernel_rfl
def kAny : Lit := .string [97, 110, 121]
def kIcmp : Lit := .string [105, 99, 109, 112]
def kTcp : Lit := .string [116, 99, 112]
def kUdp : Lit := .string [117, 100, 112]
def d1 : DataW Unit := DataW.put (.map []) kAny (.lit (.int .i64 0))
def d2 : DataW Unit := d1.put kIcmp (.lit (.int .i64 1))
def d3 : DataW Unit := d2.put kTcp (.lit (.int .i64 6))
def d4 : DataW Unit := d3.put kUdp (.lit (.int .i64 17))
set_option maxHeartbeats 1000000 in
theorem protoNumbers_any (w : World) : Calls Tryd.prog 43 #[] w fun e w' => e = .returned (.map (some w.heap.size)) ∧ w'.ownsMap Tryd.prog 9 (plainElem Tryd.prog 3) w.heap.size 4 d4 ∧ Below w.heap.size w w' := by
  have hmm := @run_makeMap Tryd.prog
  have h0 : (w.alloc (.map #[] 0)).ownsMap Tryd.prog 9 (plainElem (H := Unit) Tryd.prog 3) w.heap.size 0 (.map []) := World.ownsMap_made w _ _ _
  obtain ⟨w1, e1, o1, g1⟩ := h0.update lawS Tryd.underlying80 (by unfold maxLen; omega) (key := .string ⟨#[97, 110, 121]⟩) (val := .int .i64 0) (keyOf_string_mk Tryd.underlying9 (by decide)) (plainElem_int Tryd.underlying3 (by decide))
  have h1 : w1.ownsMap Tryd.prog 9 (plainElem (H := Unit) Tryd.prog 3) w.heap.size 1 d1 := o1
  obtain ⟨w2, e2, o2, g2⟩ := h1.update lawS Tryd.underlying80 (by unfold maxLen; omega) (key := .string ⟨#[105, 99, 109, 112]⟩) (val := .int .i64 1) (keyOf_string_mk Tryd.underlying9 (by decide)) (plainElem_int Tryd.underlying3 (by decide))
  have h2 : w2.ownsMap Tryd.prog 9 (plainElem (H := Unit) Tryd.prog 3) w.heap.size 2 d2 := o2
  obtain ⟨w3, e3, o3, g3⟩ := h2.update lawS Tryd.underlying80 (by unfold maxLen; omega) (key := .string ⟨#[116, 99, 112]⟩) (val := .int .i64 6) (keyOf_string_mk Tryd.underlying9 (by decide)) (plainElem_int Tryd.underlying3 (by decide))
  have h3 : w3.ownsMap Tryd.prog 9 (plainElem (H := Unit) Tryd.prog 3) w.heap.size 3 d3 := o3
  obtain ⟨w4, e4, o4, g4⟩ := h3.update lawS Tryd.underlying80 (by unfold maxLen; omega) (key := .string ⟨#[117, 100, 112]⟩) (val := .int .i64 17) (keyOf_string_mk Tryd.underlying9 (by decide)) (plainElem_int Tryd.underlying3 (by decide))
  have h4 : w4.ownsMap Tryd.prog 9 (plainElem (H := Unit) Tryd.prog 3) w.heap.size 4 d4 := o4
  have B0 : Below w.heap.size w (w.alloc (.map #[] 0)) := (Below.refl _ _).alloc (Nat.le_refl _) _
  have B1 := B0.grown g1 B0.size (fun k hk => by cases hk; exact Nat.le_refl _)
  have B2 := B1.grown g2 B1.size (fun k hk => by cases hk; exact Nat.le_refl _)
  have B3 := B2.grown g3 B2.size (fun k hk => by cases hk; exact Nat.le_refl _)
  have B4 : Hid (Below w.heap.size w w4) := B3.grown g4 B3.size (fun k hk => by cases hk; exact Nat.le_refl _)
  have H4 : Hid (w4.ownsMap Tryd.prog 9 (plainElem (H := Unit) Tryd.prog 3) w.heap.size 4 d4) := h4
  clear h0 h1 h2 h3 h4 o1 o2 o3 o4 g1 g2 g3 g4 B0 B1 B2 B3
  go_enter Tryd.func43, Tryd.ntmps43
  go_wp2
  go_ret
  exact ⟨rfl, H4.out, B4.out⟩
/-- A proto by its word. -/
def pnB (s : ByteArray) : Bool := s.toList == [97, 110, 121] || (s.toList == [105, 99, 109, 112] || (s.toList == [116, 99, 112] || s.toList == [117, 100, 112]))
def pnV (s : ByteArray) : Int := if s.toList = [97, 110, 121] then 0 else if s.toList = [105, 99, 109, 112] then 1 else if s.toList = [116, 99, 112] then 6 else if s.toList = [117, 100, 112] then 17 else 0
theorem m1 : IsMap d1 := isMap_empty.put _ _
theorem m2 : IsMap d2 := m1.put _ _
theorem m3 : IsMap d3 := m2.put _ _
theorem ne_lit {l k : List UInt8} (h : l ≠ k) : (Lit.string l : Lit) ≠ .string k := fun e => h (by injection e)
theorem d4_both (l : List UInt8) : Maps.has d4 (.string l) = (l == [97, 110, 121] || (l == [105, 99, 109, 112] || (l == [116, 99, 112] || l == [117, 100, 112]))) ∧
    d4.atKey (.string l) (.lit (.int .i64 0)) = .lit (.int .i64 (if l = [97, 110, 121] then 0 else if l = [105, 99, 109, 112] then 1 else if l = [116, 99, 112] then 6 else if l = [117, 100, 112] then 17 else 0)) := by
  by_cases h4 : l = [117, 100, 112]
  · subst h4
    exact ⟨has_put_same (k := kUdp) m3 trivial _, atKey_put_same (k := kUdp) m3 trivial _ _⟩
  by_cases h3 : l = [116, 99, 112]
  · subst h3
    exact ⟨(has_put_other (ne_lit h4) _).trans (has_put_same (k := kTcp) m2 trivial _), (atKey_put_other (ne_lit h4) _ _).trans (atKey_put_same (k := kTcp) m2 trivial _ _)⟩
  by_cases h2 : l = [105, 99, 109, 112]
  · subst h2
    exact ⟨((has_put_other (ne_lit h4) _).trans (has_put_other (ne_lit h3) _)).trans (has_put_same (k := kIcmp) m1 trivial _), ((atKey_put_other (ne_lit h4) _ _).trans (atKey_put_other (ne_lit h3) _ _)).trans (atKey_put_same (k := kIcmp) m1 trivial _ _)⟩
  by_cases h1 : l = [97, 110, 121]
  · subst h1
    exact ⟨(((has_put_other (ne_lit h4) _).trans (has_put_other (ne_lit h3) _)).trans (has_put_other (ne_lit h2) _)).trans (has_put_same (k := kAny) isMap_empty trivial _), (((atKey_put_other (ne_lit h4) _ _).trans (atKey_put_other (ne_lit h3) _ _)).trans (atKey_put_other (ne_lit h2) _ _)).trans (atKey_put_same (k := kAny) isMap_empty trivial _ _)⟩
  · constructor
    · refine ((((has_put_other (ne_lit h4) _).trans (has_put_other (ne_lit h3) _)).trans (has_put_other (ne_lit h2) _)).trans (has_put_other (ne_lit h1) _)).trans ?_
      simp [h1, h2, h3, h4, has_eq]
    · refine ((((atKey_put_other (ne_lit h4) _ _).trans (atKey_put_other (ne_lit h3) _ _)).trans (atKey_put_other (ne_lit h2) _ _)).trans (atKey_put_other (ne_lit h1) _ _)).trans ?_
      rw [if_neg h1, if_neg h2, if_neg h3, if_neg h4]
      rfl
/-- The map looked up. -/
theorem look_proto (w : World) (B : Nat) (h : w.ownsMap Tryd.prog 9 (plainElem (H := Unit) Tryd.prog 3) B 4 d4) (s : ByteArray) (hs : s.size ≤ maxLen) :
    (Instr.lookup 80 (.map (some B)) (.string s) true).run Tryd.prog w = .ok (.tuple #[.int .i64 (pnV s), .bool (pnB s)]) w := by
  obtain ⟨v, ps, hrun, hv⟩ := h.look_ok lawS Tryd.underlying80 (zeroI w) (plainElem_int (H := Unit) Tryd.underlying3 (by decide)) (keyOf_string_mk Tryd.underlying9 hs)
  have hb := d4_both s.data.toList
  rw [hb.2] at hv
  obtain ⟨a, rfl, hz, -⟩ := plainElem_int_inv Tryd.underlying3 hv
  rw [hb.1] at hrun
  have ea : a = pnV s := by
    injection hz with h1 h2
    injection h1 with h3
    injection h3 with h4 h5
    unfold pnV
    rw [ByteArray.toList_eq]
    exact h5.symm
  rw [hrun, ea]
  unfold pnB
  rw [ByteArray.toList_eq]
end Go.Proofs.YtimhkeebgogfoaaDoor
