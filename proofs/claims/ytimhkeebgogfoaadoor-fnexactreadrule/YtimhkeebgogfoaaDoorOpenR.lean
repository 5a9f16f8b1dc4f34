/- Rules, places, roles, as values; what comes in as an argument, opened. -/
import Derived.Test.YtimhkeebgogfoaaDoorRws
import Derived.Test.YtimhkeebgogfoaaDoorProg
namespace Go.Proofs.YtimhkeebgogfoaaDoor
open Go.RowKit Go.PlainAid
set_option linter.unusedVariables false

structure RuleV where
  p : Int
  ip : Int
  b : Int
  lo : Int
  hi : Int
  al : Bool
deriving Inhabited
structure PlaceV where
  ip : Int
  b : Int
  lo : Int
  hi : Int
deriving Inhabited
structure RoleV where
  nm : ByteArray
  rs : List RuleV
  q : Int
  m : Int
  i : Int
instance : Inhabited RoleV := ⟨⟨⟨#[]⟩, [], 0, 0, 0⟩⟩
def rv (r : RuleV) : List Value := [.int .i64 r.p, .int .i64 r.ip, .int .i64 r.b, .int .i64 r.lo, .int .i64 r.hi, .bool r.al]
def pv (r : PlaceV) : List Value := [.int .i64 r.ip, .int .i64 r.b, .int .i64 r.lo, .int .i64 r.hi]
/-- The cells of a rule. -/
def RuR (w : World) (r : RuleV) (vs : List Value) : Prop := vs = rv r ∧ r.lo ≤ 9223372036854775807 ∧ r.hi ≤ 9223372036854775807
def PlR (w : World) (r : PlaceV) (vs : List Value) : Prop := vs = pv r ∧ r.lo ≤ 9223372036854775807 ∧ r.hi ≤ 9223372036854775807
theorem RuR.kp : Kp RuR := fun _ _ _ _ h _ => h
theorem PlR.kp : Kp PlR := fun _ _ _ _ h _ => h
/-- The cells of a role, its rules in a block from g on. -/
def RoR (g : Nat) (w : World) (r : RoleV) (vs : List Value) : Prop := ∃ a cap, vs = [.string r.nm, .slice a r.rs.length cap, .int .i64 r.q, .int .i64 r.m, .int .i64 r.i] ∧ r.nm.size ≤ maxLen ∧ r.rs.length ≤ cap ∧ cap ≤ maxLen ∧ Rw RuR 6 w a r.rs ∧ ∀ b off, a = some ⟨b, off, none⟩ → g ≤ b
theorem RoR.kp (g : Nat) : Kp (RoR g) := fun _ _ _ _ h hb => by
  obtain ⟨a, cap, h1, h2, h3, h4, h5, h6⟩ := h
  exact ⟨a, cap, h1, h2, h3, h4, h5.keep RuR.kp hb, h6⟩
theorem RoR.lower {g g' : Nat} {w : World} {r : RoleV} {vs : List Value} (h : RoR g w r vs) (hg : g' ≤ g) : RoR g' w r vs := by
  obtain ⟨a, cap, h1, h2, h3, h4, h5, h6⟩ := h
  exact ⟨a, cap, h1, h2, h3, h4, h5, fun b off e => Nat.le_trans hg (h6 b off e)⟩
theorem wf_le {n : Int} (h : (Lit.int .i64 n).wf = true) : n ≤ 9223372036854775807 := (bounds_i64 h).2

section Opn
variable {H : Type} {enc : TypeId × Value → H} {w : World} {base : Nat} {spare : Nat → Bool} {held : Bool} {fuel : Nat} {cs : List Value} {x : DataW H × List MemPlace}

theorem lis2 {α : Type} {cs : List α} (h : cs.length = 2) : ∃ c0 c1, cs = [c0, c1] := by
  match cs, h with
  | [c0, c1], _ => exact ⟨c0, c1, rfl⟩

theorem lis4 {α : Type} {cs : List α} (h : cs.length = 4) : ∃ c0 c1 c2 c3, cs = [c0, c1, c2, c3] := by
  match cs, h with
  | [c0, c1, c2, c3], _ => exact ⟨c0, c1, c2, c3, rfl⟩

theorem lis5 {α : Type} {cs : List α} (h : cs.length = 5) : ∃ c0 c1 c2 c3 c4, cs = [c0, c1, c2, c3, c4] := by
  match cs, h with
  | [c0, c1, c2, c3, c4], _ => exact ⟨c0, c1, c2, c3, c4, rfl⟩

theorem lis6 {α : Type} {cs : List α} (h : cs.length = 6) : ∃ c0 c1 c2 c3 c4 c5, cs = [c0, c1, c2, c3, c4, c5] := by
  match cs, h with
  | [c0, c1, c2, c3, c4, c5], _ => exact ⟨c0, c1, c2, c3, c4, c5, rfl⟩

theorem lis8 {α : Type} {cs : List α} (h : cs.length = 8) : ∃ c0 c1 c2 c3 c4 c5 c6 c7, cs = [c0, c1, c2, c3, c4, c5, c6, c7] := by
  match cs, h with
  | [c0, c1, c2, c3, c4, c5, c6, c7], _ => exact ⟨c0, c1, c2, c3, c4, c5, c6, c7, rfl⟩

theorem cl_int : Tryd.prog.cellsOf 3 = 1 := by kernel_rfl

theorem cl_string : Tryd.prog.cellsOf 9 = 1 := by kernel_rfl

theorem cl_bool : Tryd.prog.cellsOf 4 = 1 := by kernel_rfl

end Opn
end Go.Proofs.YtimhkeebgogfoaaDoor
