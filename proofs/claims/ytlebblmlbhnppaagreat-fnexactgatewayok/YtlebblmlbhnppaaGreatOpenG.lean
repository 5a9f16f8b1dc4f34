/- Users, sessions, fails, records, guests: what comes in as an argument, opened. -/
import Derived.Test.YtlebblmlbhnppaaGreatGuV
import Derived.Test.YtlebblmlbhnppaaGreatProg
namespace Go.Proofs.YtlebblmlbhnppaaGreat
open Go.RowKit Go.PlainAid
set_option linter.unusedVariables false

section OpnG
variable {H : Type} {enc : TypeId × Value → H} {w : World} {base : Nat} {spare : Nat → Bool} {held : Bool} {fuel : Nat} {cs : List Value} {x : DataW H × List MemPlace}

theorem gis3 {α : Type} {cs : List α} (h : cs.length = 3) : ∃ c0 c1 c2, cs = [c0, c1, c2] := by
  match cs, h with
  | [c0, c1, c2], _ => exact ⟨c0, c1, c2, rfl⟩

theorem gis5 {α : Type} {cs : List α} (h : cs.length = 5) : ∃ c0 c1 c2 c3 c4, cs = [c0, c1, c2, c3, c4] := by
  match cs, h with
  | [c0, c1, c2, c3, c4], _ => exact ⟨c0, c1, c2, c3, c4, rfl⟩

theorem gis6 {α : Type} {cs : List α} (h : cs.length = 6) : ∃ c0 c1 c2 c3 c4 c5, cs = [c0, c1, c2, c3, c4, c5] := by
  match cs, h with
  | [c0, c1, c2, c3, c4, c5], _ => exact ⟨c0, c1, c2, c3, c4, c5, rfl⟩

theorem gis10 {α : Type} {cs : List α} (h : cs.length = 10) : ∃ c0 c1 c2 c3 c4 c5 c6 c7 c8 c9, cs = [c0, c1, c2, c3, c4, c5, c6, c7, c8, c9] := by
  match cs, h with
  | [c0, c1, c2, c3, c4, c5, c6, c7, c8, c9], _ => exact ⟨c0, c1, c2, c3, c4, c5, c6, c7, c8, c9, rfl⟩

theorem gl_User : Tryz.prog.cellsOf 170 = 6 := by kernel_rfl
theorem gl_sUser : Tryz.prog.cellsOf 28 = 1 := by kernel_rfl
theorem gl_Session : Tryz.prog.cellsOf 172 = 10 := by kernel_rfl
theorem gl_sSession : Tryz.prog.cellsOf 29 = 1 := by kernel_rfl
theorem gl_Fail : Tryz.prog.cellsOf 175 = 3 := by kernel_rfl
theorem gl_sFail : Tryz.prog.cellsOf 30 = 1 := by kernel_rfl
theorem gl_Record : Tryz.prog.cellsOf 195 = 5 := by kernel_rfl
theorem gl_sRecord : Tryz.prog.cellsOf 31 = 1 := by kernel_rfl
theorem gl_Guests : Tryz.prog.cellsOf 33 = 5 := by kernel_rfl
theorem gl_int : Tryz.prog.cellsOf 3 = 1 := by kernel_rfl
theorem gl_string : Tryz.prog.cellsOf 9 = 1 := by kernel_rfl
theorem gl_bool : Tryz.prog.cellsOf 4 = 1 := by kernel_rfl
theorem open_user (h : DataW.trod enc Tryz.prog w base spare held fuel 170 cs = some x) : ∃ d, UsR w d cs := by
  obtain ⟨xs, m, _, _, hcl, hlen, hfld⟩ := DataW.trod_struct Tryz.underlying170 h
  rw [gl_User] at hcl
  obtain ⟨c0, c1, c2, c3, c4, c5, rfl⟩ := gis6 hcl
  replace hlen : xs.length = 6 := hlen
  have e0 := hfld 0 _ rfl
  rw [List.getElem?_eq_getElem (by omega)] at e0
  obtain ⟨a0, q0, _, w0⟩ := DataW.trod_string Tryz.underlying9 e0
  simp [gl_string] at q0
  subst q0
  have e1 := hfld 1 _ rfl
  rw [List.getElem?_eq_getElem (by omega)] at e1
  obtain ⟨a1, q1, _, w1⟩ := DataW.trod_string Tryz.underlying9 e1
  simp [gl_string] at q1
  subst q1
  have e2 := hfld 2 _ rfl
  rw [List.getElem?_eq_getElem (by omega)] at e2
  obtain ⟨a2, q2, _, w2⟩ := DataW.trod_string Tryz.underlying9 e2
  simp [gl_string] at q2
  subst q2
  have e3 := hfld 3 _ rfl
  rw [List.getElem?_eq_getElem (by omega)] at e3
  obtain ⟨a3, q3, _, w3⟩ := DataW.trod_string Tryz.underlying9 e3
  simp [gl_string] at q3
  subst q3
  have e4 := hfld 4 _ rfl
  rw [List.getElem?_eq_getElem (by omega)] at e4
  obtain ⟨a4, q4, _, w4⟩ := DataW.trod_int Tryz.underlying3 e4
  simp [gl_int] at q4
  subst q4
  have e5 := hfld 5 _ rfl
  rw [List.getElem?_eq_getElem (by omega)] at e5
  obtain ⟨a5, q5, _, w5⟩ := DataW.trod_int Tryz.underlying3 e5
  simp [gl_int] at q5
  subst q5
  exact ⟨⟨a0, a1, a2, a3, a4, a5⟩, rfl, w0, w1, w2, w3, w4, w5⟩

theorem open_users (h : DataW.trod enc Tryz.prog w base spare held fuel 28 cs = some x) : ∃ (a : Option Addr) (len cap : Nat) (xs : List UserV), cs = [.slice a len cap] ∧ xs.length = len ∧ len ≤ cap ∧ cap ≤ maxLen ∧ (a = none → cap = 0) ∧ Rw UsR 6 w a xs :=
  rows_of UsR 6 Tryz.underlying28 gl_User (by omega) (fun _ _ _ h => open_user h) h

theorem open_session (h : DataW.trod enc Tryz.prog w base spare held fuel 172 cs = some x) : ∃ d, SeR w d cs := by
  obtain ⟨xs, m, _, _, hcl, hlen, hfld⟩ := DataW.trod_struct Tryz.underlying172 h
  rw [gl_Session] at hcl
  obtain ⟨c0, c1, c2, c3, c4, c5, c6, c7, c8, c9, rfl⟩ := gis10 hcl
  replace hlen : xs.length = 10 := hlen
  have e0 := hfld 0 _ rfl
  rw [List.getElem?_eq_getElem (by omega)] at e0
  obtain ⟨a0, q0, _, w0⟩ := DataW.trod_int Tryz.underlying3 e0
  simp [gl_int] at q0
  subst q0
  have e1 := hfld 1 _ rfl
  rw [List.getElem?_eq_getElem (by omega)] at e1
  obtain ⟨a1, q1, _, w1⟩ := DataW.trod_int Tryz.underlying3 e1
  simp [gl_int] at q1
  subst q1
  have e2 := hfld 2 _ rfl
  rw [List.getElem?_eq_getElem (by omega)] at e2
  obtain ⟨a2, q2, _, w2⟩ := DataW.trod_string Tryz.underlying9 e2
  simp [gl_string] at q2
  subst q2
  have e3 := hfld 3 _ rfl
  rw [List.getElem?_eq_getElem (by omega)] at e3
  obtain ⟨a3, q3, _, w3⟩ := DataW.trod_int Tryz.underlying3 e3
  simp [gl_int] at q3
  subst q3
  have e4 := hfld 4 _ rfl
  rw [List.getElem?_eq_getElem (by omega)] at e4
  obtain ⟨a4, q4, _, w4⟩ := DataW.trod_int Tryz.underlying3 e4
  simp [gl_int] at q4
  subst q4
  have e5 := hfld 5 _ rfl
  rw [List.getElem?_eq_getElem (by omega)] at e5
  obtain ⟨a5, q5, _, w5⟩ := DataW.trod_int Tryz.underlying3 e5
  simp [gl_int] at q5
  subst q5
  have e6 := hfld 6 _ rfl
  rw [List.getElem?_eq_getElem (by omega)] at e6
  obtain ⟨a6, q6, _, w6⟩ := DataW.trod_int Tryz.underlying3 e6
  simp [gl_int] at q6
  subst q6
  have e7 := hfld 7 _ rfl
  rw [List.getElem?_eq_getElem (by omega)] at e7
  obtain ⟨a7, q7, _, w7⟩ := DataW.trod_int Tryz.underlying3 e7
  simp [gl_int] at q7
  subst q7
  have e8 := hfld 8 _ rfl
  rw [List.getElem?_eq_getElem (by omega)] at e8
  obtain ⟨a8, q8, _, w8⟩ := DataW.trod_int Tryz.underlying3 e8
  simp [gl_int] at q8
  subst q8
  have e9 := hfld 9 _ rfl
  rw [List.getElem?_eq_getElem (by omega)] at e9
  obtain ⟨a9, q9, _, w9⟩ := DataW.trod_int Tryz.underlying3 e9
  simp [gl_int] at q9
  subst q9
  exact ⟨⟨a0, a1, a2, a3, a4, a5, a6, a7, a8, a9⟩, rfl, w0, w1, w2, w3, w4, w5, w6, w7, w8, w9⟩

theorem open_sessions (h : DataW.trod enc Tryz.prog w base spare held fuel 29 cs = some x) : ∃ (a : Option Addr) (len cap : Nat) (xs : List SessV), cs = [.slice a len cap] ∧ xs.length = len ∧ len ≤ cap ∧ cap ≤ maxLen ∧ (a = none → cap = 0) ∧ Rw SeR 10 w a xs :=
  rows_of SeR 10 Tryz.underlying29 gl_Session (by omega) (fun _ _ _ h => open_session h) h

theorem open_fail (h : DataW.trod enc Tryz.prog w base spare held fuel 175 cs = some x) : ∃ d, FaR w d cs := by
  obtain ⟨xs, m, _, _, hcl, hlen, hfld⟩ := DataW.trod_struct Tryz.underlying175 h
  rw [gl_Fail] at hcl
  obtain ⟨c0, c1, c2, rfl⟩ := gis3 hcl
  replace hlen : xs.length = 3 := hlen
  have e0 := hfld 0 _ rfl
  rw [List.getElem?_eq_getElem (by omega)] at e0
  obtain ⟨a0, q0, _, w0⟩ := DataW.trod_string Tryz.underlying9 e0
  simp [gl_string] at q0
  subst q0
  have e1 := hfld 1 _ rfl
  rw [List.getElem?_eq_getElem (by omega)] at e1
  obtain ⟨a1, q1, _, w1⟩ := DataW.trod_int Tryz.underlying3 e1
  simp [gl_int] at q1
  subst q1
  have e2 := hfld 2 _ rfl
  rw [List.getElem?_eq_getElem (by omega)] at e2
  obtain ⟨a2, q2, _, w2⟩ := DataW.trod_int Tryz.underlying3 e2
  simp [gl_int] at q2
  subst q2
  exact ⟨⟨a0, a1, a2⟩, rfl, w0, w1, w2⟩

theorem open_fails (h : DataW.trod enc Tryz.prog w base spare held fuel 30 cs = some x) : ∃ (a : Option Addr) (len cap : Nat) (xs : List FailV), cs = [.slice a len cap] ∧ xs.length = len ∧ len ≤ cap ∧ cap ≤ maxLen ∧ (a = none → cap = 0) ∧ Rw FaR 3 w a xs :=
  rows_of FaR 3 Tryz.underlying30 gl_Fail (by omega) (fun _ _ _ h => open_fail h) h

theorem open_record (h : DataW.trod enc Tryz.prog w base spare held fuel 195 cs = some x) : ∃ d, ReR w d cs := by
  obtain ⟨xs, m, _, _, hcl, hlen, hfld⟩ := DataW.trod_struct Tryz.underlying195 h
  rw [gl_Record] at hcl
  obtain ⟨c0, c1, c2, c3, c4, rfl⟩ := gis5 hcl
  replace hlen : xs.length = 5 := hlen
  have e0 := hfld 0 _ rfl
  rw [List.getElem?_eq_getElem (by omega)] at e0
  obtain ⟨a0, q0, _, w0⟩ := DataW.trod_int Tryz.underlying3 e0
  simp [gl_int] at q0
  subst q0
  have e1 := hfld 1 _ rfl
  rw [List.getElem?_eq_getElem (by omega)] at e1
  obtain ⟨a1, q1, _, w1⟩ := DataW.trod_int Tryz.underlying3 e1
  simp [gl_int] at q1
  subst q1
  have e2 := hfld 2 _ rfl
  rw [List.getElem?_eq_getElem (by omega)] at e2
  obtain ⟨a2, q2, _, w2⟩ := DataW.trod_int Tryz.underlying3 e2
  simp [gl_int] at q2
  subst q2
  have e3 := hfld 3 _ rfl
  rw [List.getElem?_eq_getElem (by omega)] at e3
  obtain ⟨a3, q3, _, w3⟩ := DataW.trod_int Tryz.underlying3 e3
  simp [gl_int] at q3
  subst q3
  have e4 := hfld 4 _ rfl
  rw [List.getElem?_eq_getElem (by omega)] at e4
  obtain ⟨a4, q4, _⟩ := DataW.trod_bool Tryz.underlying4 e4
  simp [gl_bool] at q4
  subst q4
  exact ⟨⟨a0, a1, a2, a3, a4⟩, rfl, w0, w1, w2, w3⟩

theorem open_records (h : DataW.trod enc Tryz.prog w base spare held fuel 31 cs = some x) : ∃ (a : Option Addr) (len cap : Nat) (xs : List RecV), cs = [.slice a len cap] ∧ xs.length = len ∧ len ≤ cap ∧ cap ≤ maxLen ∧ (a = none → cap = 0) ∧ Rw ReR 5 w a xs :=
  rows_of ReR 5 Tryz.underlying31 gl_Record (by omega) (fun _ _ _ h => open_record h) h

theorem open_guests (h : DataW.trod enc Tryz.prog w base spare held fuel 33 cs = some x) : ∃ (ua sa fa ra : Option Addr) (ul uc sl sc fl fc rl rc : Nat) (us : List UserV) (ss : List SessV) (fs : List FailV) (rs : List RecV) (nx : Int), cs = [.slice ua ul uc, .slice sa sl sc, .slice fa fl fc, .slice ra rl rc, .int .i64 nx] ∧ (us.length = ul ∧ ul ≤ uc ∧ uc ≤ maxLen ∧ Rw UsR 6 w ua us) ∧ (ss.length = sl ∧ sl ≤ sc ∧ sc ≤ maxLen ∧ Rw SeR 10 w sa ss) ∧ (fs.length = fl ∧ fl ≤ fc ∧ fc ≤ maxLen ∧ Rw FaR 3 w fa fs) ∧ (rs.length = rl ∧ rl ≤ rc ∧ rc ≤ maxLen ∧ Rw ReR 5 w ra rs) ∧ (Lit.int .i64 nx).wf = true := by
  obtain ⟨xs, m, _, _, hcl, hlen, hfld⟩ := DataW.trod_struct Tryz.underlying33 h
  rw [gl_Guests] at hcl
  obtain ⟨c0, c1, c2, c3, c4, rfl⟩ := gis5 hcl
  replace hlen : xs.length = 5 := hlen
  have e0 := hfld 0 _ rfl
  rw [List.getElem?_eq_getElem (by omega)] at e0
  obtain ⟨a0, len0, cap0, xs0, q0, l0, lc0, cm0, _, r0⟩ := open_users e0
  simp [gl_sUser] at q0
  subst q0
  have e1 := hfld 1 _ rfl
  rw [List.getElem?_eq_getElem (by omega)] at e1
  obtain ⟨a1, len1, cap1, xs1, q1, l1, lc1, cm1, _, r1⟩ := open_sessions e1
  simp [gl_sSession] at q1
  subst q1
  have e2 := hfld 2 _ rfl
  rw [List.getElem?_eq_getElem (by omega)] at e2
  obtain ⟨a2, len2, cap2, xs2, q2, l2, lc2, cm2, _, r2⟩ := open_fails e2
  simp [gl_sFail] at q2
  subst q2
  have e3 := hfld 3 _ rfl
  rw [List.getElem?_eq_getElem (by omega)] at e3
  obtain ⟨a3, len3, cap3, xs3, q3, l3, lc3, cm3, _, r3⟩ := open_records e3
  simp [gl_sRecord] at q3
  subst q3
  have e4 := hfld 4 _ rfl
  rw [List.getElem?_eq_getElem (by omega)] at e4
  obtain ⟨a4, q4, _, w4⟩ := DataW.trod_int Tryz.underlying3 e4
  simp [gl_int] at q4
  subst q4
  exact ⟨_, _, _, _, _, _, _, _, _, _, _, _, _, _, _, _, _, rfl, ⟨l0, lc0, cm0, r0⟩, ⟨l1, lc1, cm1, r1⟩, ⟨l2, lc2, cm2, r2⟩, ⟨l3, lc3, cm3, r3⟩, w4⟩

end OpnG
end Go.Proofs.YtlebblmlbhnppaaGreat
