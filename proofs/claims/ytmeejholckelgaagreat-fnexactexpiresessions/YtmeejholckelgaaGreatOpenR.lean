/- Rules, places, roles, as values; what comes in as an argument, opened. -/
import Derived.Test.YtmeejholckelgaaGreatRws
import Derived.Test.YtmeejholckelgaaGreatProg
namespace Go.Proofs.YtmeejholckelgaaGreat
open Go.RowKit Go.PlainAid
set_option linter.unusedVariables false

structure RuleV where
  p : Int
  ip : Int
  b : Int
  lo : Int
  hi : Int
  al : Bool
deriving Inhabited
structure PlaceV where
  ip : Int
  b : Int
  lo : Int
  hi : Int
deriving Inhabited
structure RoleV where
  nm : ByteArray
  rs : List RuleV
  q : Int
  m : Int
  i : Int
instance : Inhabited RoleV := ⟨⟨⟨#[]⟩, [], 0, 0, 0⟩⟩
def rv (r : RuleV) : List Value := [.int .i64 r.p, .int .i64 r.ip, .int .i64 r.b, .int .i64 r.lo, .int .i64 r.hi, .bool r.al]
def pv (r : PlaceV) : List Value := [.int .i64 r.ip, .int .i64 r.b, .int .i64 r.lo, .int .i64 r.hi]
/-- The cells of a rule. -/
def RuR (w : World) (r : RuleV) (vs : List Value) : Prop := vs = rv r ∧ r.lo ≤ 9223372036854775807 ∧ r.hi ≤ 9223372036854775807
def PlR (w : World) (r : PlaceV) (vs : List Value) : Prop := vs = pv r ∧ r.lo ≤ 9223372036854775807 ∧ r.hi ≤ 9223372036854775807
theorem RuR.kp : Kp RuR := fun _ _ _ _ h _ => h
theorem PlR.kp : Kp PlR := fun _ _ _ _ h _ => h
/-- The cells of a role, its rules in a block from g on. -/
def RoR (g : Nat) (w : World) (r : RoleV) (vs : List Value) : Prop := ∃ a cap, vs = [.string r.nm, .slice a r.rs.length cap, .int .i64 r.q, .int .i64 r.m, .int .i64 r.i] ∧ r.nm.size ≤ maxLen ∧ r.rs.length ≤ cap ∧ cap ≤ maxLen ∧ Rw RuR 6 w a r.rs ∧ ∀ b off, a = some ⟨b, off, none⟩ → g ≤ b
theorem RoR.kp (g : Nat) : Kp (RoR g) := fun _ _ _ _ h hb => by
  obtain ⟨a, cap, h1, h2, h3, h4, h5, h6⟩ := h
  exact ⟨a, cap, h1, h2, h3, h4, h5.keep RuR.kp hb, h6⟩
theorem RoR.lower {g g' : Nat} {w : World} {r : RoleV} {vs : List Value} (h : RoR g w r vs) (hg : g' ≤ g) : RoR g' w r vs := by
  obtain ⟨a, cap, h1, h2, h3, h4, h5, h6⟩ := h
  exact ⟨a, cap, h1, h2, h3, h4, h5, fun b off e => Nat.le_trans hg (h6 b off e)⟩
theorem wf_le {n : Int} (h : (Lit.int .i64 n).wf = true) : n ≤ 9223372036854775807 := (bounds_i64 h).2

section Opn
variable {H : Type} {enc : TypeId × Value → H} {w : World} {base : Nat} {spare : Nat → Bool} {held : Bool} {fuel : Nat} {cs : List Value} {x : DataW H × List MemPlace}

theorem lis2 {α : Type} {cs : List α} (h : cs.length = 2) : ∃ c0 c1, cs = [c0, c1] := by
  match cs, h with
  | [c0, c1], _ => exact ⟨c0, c1, rfl⟩

theorem lis4 {α : Type} {cs : List α} (h : cs.length = 4) : ∃ c0 c1 c2 c3, cs = [c0, c1, c2, c3] := by
  match cs, h with
  | [c0, c1, c2, c3], _ => exact ⟨c0, c1, c2, c3, rfl⟩

theorem lis5 {α : Type} {cs : List α} (h : cs.length = 5) : ∃ c0 c1 c2 c3 c4, cs = [c0, c1, c2, c3, c4] := by
  match cs, h with
  | [c0, c1, c2, c3, c4], _ => exact ⟨c0, c1, c2, c3, c4, rfl⟩

theorem lis6 {α : Type} {cs : List α} (h : cs.length = 6) : ∃ c0 c1 c2 c3 c4 c5, cs = [c0, c1, c2, c3, c4, c5] := by
  match cs, h with
  | [c0, c1, c2, c3, c4, c5], _ => exact ⟨c0, c1, c2, c3, c4, c5, rfl⟩

theorem lis8 {α : Type} {cs : List α} (h : cs.length = 8) : ∃ c0 c1 c2 c3 c4 c5 c6 c7, cs = [c0, c1, c2, c3, c4, c5, c6, c7] := by
  match cs, h with
  | [c0, c1, c2, c3, c4, c5, c6, c7], _ => exact ⟨c0, c1, c2, c3, c4, c5, c6, c7, rfl⟩

theorem cl_laws_Net : Tryz.prog.cellsOf 23 = 2 := by kernel_rfl

theorem cl_laws_Range : Tryz.prog.cellsOf 122 = 2 := by kernel_rfl

theorem cl_laws_Rule : Tryz.prog.cellsOf 172 = 6 := by kernel_rfl

theorem cl_laws_Place : Tryz.prog.cellsOf 124 = 4 := by kernel_rfl

theorem cl_laws_Role : Tryz.prog.cellsOf 108 = 5 := by kernel_rfl

theorem cl_laws_Config : Tryz.prog.cellsOf 27 = 8 := by kernel_rfl

theorem cl_int : Tryz.prog.cellsOf 3 = 1 := by kernel_rfl

theorem cl_string : Tryz.prog.cellsOf 9 = 1 := by kernel_rfl

theorem cl_bool : Tryz.prog.cellsOf 4 = 1 := by kernel_rfl

theorem cl_slaws_Rule : Tryz.prog.cellsOf 106 = 1 := by kernel_rfl

theorem cl_slaws_Place : Tryz.prog.cellsOf 24 = 1 := by kernel_rfl

theorem cl_slaws_Role : Tryz.prog.cellsOf 25 = 1 := by kernel_rfl

theorem open_net (h : DataW.trod enc Tryz.prog w base spare held fuel 23 cs = some x) : ∃ ip b : Int, cs = [.int .i64 ip, .int .i64 b] ∧ (Lit.int .i64 ip).wf = true ∧ (Lit.int .i64 b).wf = true := by
  obtain ⟨xs, m, _, _, hcl, hlen, hfld⟩ := DataW.trod_struct Tryz.underlying23 h
  rw [cl_laws_Net] at hcl
  obtain ⟨c0, c1, rfl⟩ := lis2 hcl
  replace hlen : xs.length = 2 := hlen
  have e0 := hfld 0 _ rfl
  rw [List.getElem?_eq_getElem (by omega)] at e0
  obtain ⟨a0, q0, _, w0⟩ := DataW.trod_int Tryz.underlying3 e0
  simp [cl_int] at q0
  subst q0
  have e1 := hfld 1 _ rfl
  rw [List.getElem?_eq_getElem (by omega)] at e1
  obtain ⟨a1, q1, _, w1⟩ := DataW.trod_int Tryz.underlying3 e1
  simp [cl_int] at q1
  subst q1
  exact ⟨a0, a1, rfl, w0, w1⟩

theorem open_range (h : DataW.trod enc Tryz.prog w base spare held fuel 122 cs = some x) : ∃ ip b : Int, cs = [.int .i64 ip, .int .i64 b] ∧ (Lit.int .i64 ip).wf = true ∧ (Lit.int .i64 b).wf = true := by
  obtain ⟨xs, m, _, _, hcl, hlen, hfld⟩ := DataW.trod_struct Tryz.underlying122 h
  rw [cl_laws_Range] at hcl
  obtain ⟨c0, c1, rfl⟩ := lis2 hcl
  replace hlen : xs.length = 2 := hlen
  have e0 := hfld 0 _ rfl
  rw [List.getElem?_eq_getElem (by omega)] at e0
  obtain ⟨a0, q0, _, w0⟩ := DataW.trod_int Tryz.underlying3 e0
  simp [cl_int] at q0
  subst q0
  have e1 := hfld 1 _ rfl
  rw [List.getElem?_eq_getElem (by omega)] at e1
  obtain ⟨a1, q1, _, w1⟩ := DataW.trod_int Tryz.underlying3 e1
  simp [cl_int] at q1
  subst q1
  exact ⟨a0, a1, rfl, w0, w1⟩

theorem open_rule (h : DataW.trod enc Tryz.prog w base spare held fuel 172 cs = some x) : ∃ d, RuR w d cs := by
  obtain ⟨xs, m, _, _, hcl, hlen, hfld⟩ := DataW.trod_struct Tryz.underlying172 h
  rw [cl_laws_Rule] at hcl
  obtain ⟨c0, c1, c2, c3, c4, c5, rfl⟩ := lis6 hcl
  replace hlen : xs.length = 4 := hlen
  have e0 := hfld 0 _ rfl
  rw [List.getElem?_eq_getElem (by omega)] at e0
  obtain ⟨a0, q0, _, w0⟩ := DataW.trod_int Tryz.underlying3 e0
  simp [cl_int] at q0
  subst q0
  have e1 := hfld 1 _ rfl
  rw [List.getElem?_eq_getElem (by omega)] at e1
  obtain ⟨a1, b1, q1, w1, u1⟩ := open_net e1
  simp [cl_laws_Net] at q1
  obtain ⟨rfl, rfl⟩ := q1
  have e2 := hfld 2 _ rfl
  rw [List.getElem?_eq_getElem (by omega)] at e2
  obtain ⟨a2, b2, q2, w2, u2⟩ := open_range e2
  simp [cl_laws_Range] at q2
  obtain ⟨rfl, rfl⟩ := q2
  have e3 := hfld 3 _ rfl
  rw [List.getElem?_eq_getElem (by omega)] at e3
  obtain ⟨a3, q3, _⟩ := DataW.trod_bool Tryz.underlying4 e3
  simp [cl_bool] at q3
  subst q3
  exact ⟨⟨a0, a1, b1, a2, b2, a3⟩, rfl, wf_le w2, wf_le u2⟩

theorem open_place (h : DataW.trod enc Tryz.prog w base spare held fuel 124 cs = some x) : ∃ d, PlR w d cs := by
  obtain ⟨xs, m, _, _, hcl, hlen, hfld⟩ := DataW.trod_struct Tryz.underlying124 h
  rw [cl_laws_Place] at hcl
  obtain ⟨c0, c1, c2, c3, rfl⟩ := lis4 hcl
  replace hlen : xs.length = 2 := hlen
  have e0 := hfld 0 _ rfl
  rw [List.getElem?_eq_getElem (by omega)] at e0
  obtain ⟨a0, b0, q0, w0, u0⟩ := open_net e0
  simp [cl_laws_Net] at q0
  obtain ⟨rfl, rfl⟩ := q0
  have e1 := hfld 1 _ rfl
  rw [List.getElem?_eq_getElem (by omega)] at e1
  obtain ⟨a1, b1, q1, w1, u1⟩ := open_range e1
  simp [cl_laws_Range] at q1
  obtain ⟨rfl, rfl⟩ := q1
  exact ⟨⟨a0, b0, a1, b1⟩, rfl, wf_le w1, wf_le u1⟩

theorem open_rules (h : DataW.trod enc Tryz.prog w base spare held fuel 106 cs = some x) : ∃ (a : Option Addr) (len cap : Nat) (xs : List RuleV), cs = [.slice a len cap] ∧ xs.length = len ∧ len ≤ cap ∧ cap ≤ maxLen ∧ (a = none → cap = 0) ∧ Rw RuR 6 w a xs :=
  rows_of RuR 6 Tryz.underlying106 cl_laws_Rule (by omega) (fun _ _ _ h => open_rule h) h

theorem open_places (h : DataW.trod enc Tryz.prog w base spare held fuel 24 cs = some x) : ∃ (a : Option Addr) (len cap : Nat) (xs : List PlaceV), cs = [.slice a len cap] ∧ xs.length = len ∧ len ≤ cap ∧ cap ≤ maxLen ∧ (a = none → cap = 0) ∧ Rw PlR 4 w a xs :=
  rows_of PlR 4 Tryz.underlying24 cl_laws_Place (by omega) (fun _ _ _ h => open_place h) h

theorem open_role (h : DataW.trod enc Tryz.prog w base spare held fuel 108 cs = some x) : ∃ d, RoR 0 w d cs := by
  obtain ⟨xs, m, _, _, hcl, hlen, hfld⟩ := DataW.trod_struct Tryz.underlying108 h
  rw [cl_laws_Role] at hcl
  obtain ⟨c0, c1, c2, c3, c4, rfl⟩ := lis5 hcl
  replace hlen : xs.length = 5 := hlen
  have e0 := hfld 0 _ rfl
  rw [List.getElem?_eq_getElem (by omega)] at e0
  obtain ⟨a0, q0, _, w0⟩ := DataW.trod_string Tryz.underlying9 e0
  simp [cl_string] at q0
  subst q0
  have e1 := hfld 1 _ rfl
  rw [List.getElem?_eq_getElem (by omega)] at e1
  obtain ⟨a1, len1, cap1, xs1, q1, l1, lc1, cm1, an1, r1⟩ := open_rules e1
  simp [cl_slaws_Rule] at q1
  subst q1
  have e2 := hfld 2 _ rfl
  rw [List.getElem?_eq_getElem (by omega)] at e2
  obtain ⟨a2, q2, _, w2⟩ := DataW.trod_int Tryz.underlying3 e2
  simp [cl_int] at q2
  subst q2
  have e3 := hfld 3 _ rfl
  rw [List.getElem?_eq_getElem (by omega)] at e3
  obtain ⟨a3, q3, _, w3⟩ := DataW.trod_int Tryz.underlying3 e3
  simp [cl_int] at q3
  subst q3
  have e4 := hfld 4 _ rfl
  rw [List.getElem?_eq_getElem (by omega)] at e4
  obtain ⟨a4, q4, _, w4⟩ := DataW.trod_int Tryz.underlying3 e4
  simp [cl_int] at q4
  subst q4
  exact ⟨⟨a0, xs1, a2, a3, a4⟩, a1, cap1, by rw [l1], w0, by rw [l1]; exact lc1, cm1, r1, fun _ _ _ => Nat.zero_le _⟩

theorem open_roles (h : DataW.trod enc Tryz.prog w base spare held fuel 25 cs = some x) : ∃ (a : Option Addr) (len cap : Nat) (xs : List RoleV), cs = [.slice a len cap] ∧ xs.length = len ∧ len ≤ cap ∧ cap ≤ maxLen ∧ (a = none → cap = 0) ∧ Rw (RoR 0) 5 w a xs :=
  rows_of (RoR 0) 5 Tryz.underlying25 cl_laws_Role (by omega) (fun _ _ _ h => open_role h) h

theorem open_config (h : DataW.trod enc Tryz.prog w base spare held fuel 27 cs = some x) : ∃ (ip b gt : Int) (gm wm : ByteArray) (rs : Int) (a1 a2 : Option Addr) (len1 cap1 len2 cap2 : Nat) (ps : List PlaceV) (ros : List RoleV), cs = [.int .i64 ip, .int .i64 b, .int .i64 gt, .string gm, .string wm, .int .i64 rs, .slice a1 len1 cap1, .slice a2 len2 cap2] ∧ gm.size ≤ maxLen ∧ wm.size ≤ maxLen ∧
    (ps.length = len1 ∧ len1 ≤ cap1 ∧ cap1 ≤ maxLen ∧ Rw PlR 4 w a1 ps) ∧ ros.length = len2 ∧ len2 ≤ cap2 ∧ cap2 ≤ maxLen ∧ Rw (RoR 0) 5 w a2 ros := by
  obtain ⟨xs, m, _, _, hcl, hlen, hfld⟩ := DataW.trod_struct Tryz.underlying27 h
  rw [cl_laws_Config] at hcl
  obtain ⟨c0, c1, c2, c3, c4, c5, c6, c7, rfl⟩ := lis8 hcl
  replace hlen : xs.length = 7 := hlen
  have e0 := hfld 0 _ rfl
  rw [List.getElem?_eq_getElem (by omega)] at e0
  obtain ⟨a0, b0, q0, w0, u0⟩ := open_net e0
  simp [cl_laws_Net] at q0
  obtain ⟨rfl, rfl⟩ := q0
  have e1 := hfld 1 _ rfl
  rw [List.getElem?_eq_getElem (by omega)] at e1
  obtain ⟨a1, q1, _, w1⟩ := DataW.trod_int Tryz.underlying3 e1
  simp [cl_int] at q1
  subst q1
  have e2 := hfld 2 _ rfl
  rw [List.getElem?_eq_getElem (by omega)] at e2
  obtain ⟨a2, q2, _, w2⟩ := DataW.trod_string Tryz.underlying9 e2
  simp [cl_string] at q2
  subst q2
  have e3 := hfld 3 _ rfl
  rw [List.getElem?_eq_getElem (by omega)] at e3
  obtain ⟨a3, q3, _, w3⟩ := DataW.trod_string Tryz.underlying9 e3
  simp [cl_string] at q3
  subst q3
  have e4 := hfld 4 _ rfl
  rw [List.getElem?_eq_getElem (by omega)] at e4
  obtain ⟨a4, q4, _, w4⟩ := DataW.trod_int Tryz.underlying3 e4
  simp [cl_int] at q4
  subst q4
  have e5 := hfld 5 _ rfl
  rw [List.getElem?_eq_getElem (by omega)] at e5
  obtain ⟨a5, len5, cap5, xs5, q5, l5, lc5, cm5, an5, r5⟩ := open_places e5
  simp [cl_slaws_Place] at q5
  subst q5
  have e6 := hfld 6 _ rfl
  rw [List.getElem?_eq_getElem (by omega)] at e6
  obtain ⟨a6, len6, cap6, xs6, q6, l6, lc6, cm6, an6, r6⟩ := open_roles e6
  simp [cl_slaws_Role] at q6
  subst q6
  exact ⟨_, _, _, _, _, _, _, _, _, _, _, _, _, _, rfl, w2, w3, ⟨l5, lc5, cm5, r5⟩, l6, lc6, cm6, r6⟩

end Opn
end Go.Proofs.YtmeejholckelgaaGreat
