/- Rules, places, roles, as values; what comes in as an argument, opened. -/
import Derived.Test.YtcgdpijmfgkalacDoorRws
import Derived.Test.YtcgdpijmfgkalacDoorProg
namespace Go.Proofs.YtcgdpijmfgkalacDoor
open Go.RowKit Go.PlainAid
set_option linter.unusedVariables false

structure RuleV where
  p : Int
  ip : Int
  b : Int
  lo : Int
  hi : Int
  al : Bool
deriving Inhabited
structure PlaceV where
  ip : Int
  b : Int
  lo : Int
  hi : Int
deriving Inhabited
structure RoleV where
  nm : ByteArray
  rs : List RuleV
  q : Int
  m : Int
  i : Int
instance : Inhabited RoleV := ⟨⟨⟨#[]⟩, [], 0, 0, 0⟩⟩
def rv (r : RuleV) : List Value := [.int .i64 r.p, .int .i64 r.ip, .int .i64 r.b, .int .i64 r.lo, .int .i64 r.hi, .bool r.al]
def pv (r : PlaceV) : List Value := [.int .i64 r.ip, .int .i64 r.b, .int .i64 r.lo, .int .i64 r.hi]
/-- The cells of a rule. -/
def RuR (w : World) (r : RuleV) (vs : List Value) : Prop := vs = rv r ∧ r.lo ≤ 9223372036854775807 ∧ r.hi ≤ 9223372036854775807
def PlR (w : World) (r : PlaceV) (vs : List Value) : Prop := vs = pv r ∧ r.lo ≤ 9223372036854775807 ∧ r.hi ≤ 9223372036854775807
theorem RuR.kp : Kp RuR := fun _ _ _ _ h _ => h
theorem PlR.kp : Kp PlR := fun _ _ _ _ h _ => h
/-- The cells of a role, its rules in a block from g on. -/
def RoR (g : Nat) (w : World) (r : RoleV) (vs : List Value) : Prop := ∃ a cap, vs = [.string r.nm, .slice a r.rs.length cap, .int .i64 r.q, .int .i64 r.m, .int .i64 r.i] ∧ r.nm.size ≤ maxLen ∧ r.rs.length ≤ cap ∧ cap ≤ maxLen ∧ Rw RuR 6 w a r.rs ∧ ∀ b off, a = some ⟨b, off, none⟩ → g ≤ b
theorem RoR.kp (g : Nat) : Kp (RoR g) := fun _ _ _ _ h hb => by
  obtain ⟨a, cap, h1, h2, h3, h4, h5, h6⟩ := h
  exact ⟨a, cap, h1, h2, h3, h4, h5.keep RuR.kp hb, h6⟩
theorem RoR.lower {g g' : Nat} {w : World} {r : RoleV} {vs : List Value} (h : RoR g w r vs) (hg : g' ≤ g) : RoR g' w r vs := by
  obtain ⟨a, cap, h1, h2, h3, h4, h5, h6⟩ := h
  exact ⟨a, cap, h1, h2, h3, h4, h5, fun b off e => Nat.le_trans hg (h6 b off e)⟩
theorem wf_le {n : Int} (h : (Lit.int .i64 n).wf = true) : n ≤ 9223372036854775807 := (bounds_i64 h).2

section Opn
variable {H : Type} {enc : TypeId × Value → H} {w : World} {base : Nat} {spare : Nat → Bool} {held : Bool} {fuel : Nat} {cs : List Value} {x : DataW H × List MemPlace}

theorem lis2 {α : Type} {cs : List α} (h : cs.length = 2) : ∃ c0 c1, cs = [c0, c1] := by
  match cs, h with
  | [c0, c1], _ => exact ⟨c0, c1, rfl⟩

theorem lis4 {α : Type} {cs : List α} (h : cs.length = 4) : ∃ c0 c1 c2 c3, cs = [c0, c1, c2, c3] := by
  match cs, h with
  | [c0, c1, c2, c3], _ => exact ⟨c0, c1, c2, c3, rfl⟩

theorem lis5 {α : Type} {cs : List α} (h : cs.length = 5) : ∃ c0 c1 c2 c3 c4, cs = [c0, c1, c2, c3, c4] := by
  match cs, h with
  | [c0, c1, c2, c3, c4], _ => exact ⟨c0, c1, c2, c3, c4, rfl⟩

theorem lis6 {α : Type} {cs : List α} (h : cs.length = 6) : ∃ c0 c1 c2 c3 c4 c5, cs = [c0, c1, c2, c3, c4, c5] := by
  match cs, h with
  | [c0, c1, c2, c3, c4, c5], _ => exact ⟨c0, c1, c2, c3, c4, c5, rfl⟩

theorem lis8 {α : Type} {cs : List α} (h : cs.length = 8) : ∃ c0 c1 c2 c3 c4 c5 c6 c7, cs = [c0, c1, c2, c3, c4, c5, c6, c7] := by
  match cs, h with
  | [c0, c1, c2, c3, c4, c5, c6, c7], _ => exact ⟨c0, c1, c2, c3, c4, c5, c6, c7, rfl⟩

theorem cl_laws_Net : Tryd.prog.cellsOf 32 = 2 := by kernel_rfl

theorem cl_laws_Range : Tryd.prog.cellsOf 33 = 2 := by kernel_rfl

theorem cl_laws_Rule : Tryd.prog.cellsOf 35 = 6 := by kernel_rfl

theorem cl_int : Tryd.prog.cellsOf 3 = 1 := by kernel_rfl

theorem cl_string : Tryd.prog.cellsOf 9 = 1 := by kernel_rfl

theorem cl_bool : Tryd.prog.cellsOf 4 = 1 := by kernel_rfl

theorem open_net (h : DataW.trod enc Tryd.prog w base spare held fuel 32 cs = some x) : ∃ ip b : Int, cs = [.int .i64 ip, .int .i64 b] ∧ (Lit.int .i64 ip).wf = true ∧ (Lit.int .i64 b).wf = true := by
  obtain ⟨xs, m, _, _, hcl, hlen, hfld⟩ := DataW.trod_struct Tryd.underlying32 h
  rw [cl_laws_Net] at hcl
  obtain ⟨c0, c1, rfl⟩ := lis2 hcl
  replace hlen : xs.length = 2 := hlen
  have e0 := hfld 0 _ rfl
  rw [List.getElem?_eq_getElem (by omega)] at e0
  obtain ⟨a0, q0, _, w0⟩ := DataW.trod_int Tryd.underlying3 e0
  simp [cl_int] at q0
  subst q0
  have e1 := hfld 1 _ rfl
  rw [List.getElem?_eq_getElem (by omega)] at e1
  obtain ⟨a1, q1, _, w1⟩ := DataW.trod_int Tryd.underlying3 e1
  simp [cl_int] at q1
  subst q1
  exact ⟨a0, a1, rfl, w0, w1⟩

theorem open_range (h : DataW.trod enc Tryd.prog w base spare held fuel 33 cs = some x) : ∃ ip b : Int, cs = [.int .i64 ip, .int .i64 b] ∧ (Lit.int .i64 ip).wf = true ∧ (Lit.int .i64 b).wf = true := by
  obtain ⟨xs, m, _, _, hcl, hlen, hfld⟩ := DataW.trod_struct Tryd.underlying33 h
  rw [cl_laws_Range] at hcl
  obtain ⟨c0, c1, rfl⟩ := lis2 hcl
  replace hlen : xs.length = 2 := hlen
  have e0 := hfld 0 _ rfl
  rw [List.getElem?_eq_getElem (by omega)] at e0
  obtain ⟨a0, q0, _, w0⟩ := DataW.trod_int Tryd.underlying3 e0
  simp [cl_int] at q0
  subst q0
  have e1 := hfld 1 _ rfl
  rw [List.getElem?_eq_getElem (by omega)] at e1
  obtain ⟨a1, q1, _, w1⟩ := DataW.trod_int Tryd.underlying3 e1
  simp [cl_int] at q1
  subst q1
  exact ⟨a0, a1, rfl, w0, w1⟩

theorem open_rule (h : DataW.trod enc Tryd.prog w base spare held fuel 35 cs = some x) : ∃ d, RuR w d cs := by
  obtain ⟨xs, m, _, _, hcl, hlen, hfld⟩ := DataW.trod_struct Tryd.underlying35 h
  rw [cl_laws_Rule] at hcl
  obtain ⟨c0, c1, c2, c3, c4, c5, rfl⟩ := lis6 hcl
  replace hlen : xs.length = 4 := hlen
  have e0 := hfld 0 _ rfl
  rw [List.getElem?_eq_getElem (by omega)] at e0
  obtain ⟨a0, q0, _, w0⟩ := DataW.trod_int Tryd.underlying3 e0
  simp [cl_int] at q0
  subst q0
  have e1 := hfld 1 _ rfl
  rw [List.getElem?_eq_getElem (by omega)] at e1
  obtain ⟨a1, b1, q1, w1, u1⟩ := open_net e1
  simp [cl_laws_Net] at q1
  obtain ⟨rfl, rfl⟩ := q1
  have e2 := hfld 2 _ rfl
  rw [List.getElem?_eq_getElem (by omega)] at e2
  obtain ⟨a2, b2, q2, w2, u2⟩ := open_range e2
  simp [cl_laws_Range] at q2
  obtain ⟨rfl, rfl⟩ := q2
  have e3 := hfld 3 _ rfl
  rw [List.getElem?_eq_getElem (by omega)] at e3
  obtain ⟨a3, q3, _⟩ := DataW.trod_bool Tryd.underlying4 e3
  simp [cl_bool] at q3
  subst q3
  exact ⟨⟨a0, a1, b1, a2, b2, a3⟩, rfl, wf_le w2, wf_le u2⟩

end Opn
end Go.Proofs.YtcgdpijmfgkalacDoor
