/- Users, sessions, fails, records, guests: what comes in as an argument, opened. Rows of one's own of flat structs, K cells an element. Nothing of the program is imported. Flows as values. Flows that come in as an argument, opened. Connections and segments as values. Connections that come in as an argument, opened. Gateways as values; one that comes in as an argument, opened. Rules and places copied and compared by the laws; the walk of laws.FnExactRuleOK. Lists of rules and roles in the laws: szRuleS, toRuleS, eqRuleS, szRole, toRole, eqRole; the walk of laws.FnExactRoleOK. Places, lists of places and of roles, configurations in the laws. Users, sessions, fails, records and lists of them in the laws: measured, copied, compared. -/
import Derived.Test.YtlebblmlbhnppaaGreatGuV
import Derived.Test.YtlebblmlbhnppaaGreatProg
import Derived.Test.YtlebblmlbhnppaaGreatRws
import Derived.Laws.AppendOwnNone
import Derived.Test.YtlebblmlbhnppaaGreatOpenR
import Derived.Test.YtlebblmlbhnppaaGreatRuleW
import Derived.Test.YtlebblmlbhnppaaGreatRoleW
import Derived.Deep.RegionHeld3
import Derived.Test.YtlebblmlbhnppaaGreatConfW
import Derived.Test.YtlebblmlbhnppaaGreatGrw
import Derived.Test.YtlebblmlbhnppaaGreatInfo
import Derived.Test.YtlebblmlbhnppaaGreatRoom
import Derived.Test.YtlebblmlbhnppaaGreatTests
namespace Go.Proofs.YtlebblmlbhnppaaGreat
open Go.RowKit Go.PlainAid
set_option linter.unusedVariables false

section OpnG
variable {H : Type} {enc : TypeId × Value → H} {w : World} {base : Nat} {spare : Nat → Bool} {held : Bool} {fuel : Nat} {cs : List Value} {x : DataW H × List MemPlace}

theorem gis3 {α : Type} {cs : List α} (h : cs.length = 3) : ∃ c0 c1 c2, cs = [c0, c1, c2] := by
  match cs, h with
  | [c0, c1, c2], _ => exact ⟨c0, c1, c2, rfl⟩

theorem gis5 {α : Type} {cs : List α} (h : cs.length = 5) : ∃ c0 c1 c2 c3 c4, cs = [c0, c1, c2, c3, c4] := by
  match cs, h with
  | [c0, c1, c2, c3, c4], _ => exact ⟨c0, c1, c2, c3, c4, rfl⟩

theorem gis6 {α : Type} {cs : List α} (h : cs.length = 6) : ∃ c0 c1 c2 c3 c4 c5, cs = [c0, c1, c2, c3, c4, c5] := by
  match cs, h with
  | [c0, c1, c2, c3, c4, c5], _ => exact ⟨c0, c1, c2, c3, c4, c5, rfl⟩

theorem gis10 {α : Type} {cs : List α} (h : cs.length = 10) : ∃ c0 c1 c2 c3 c4 c5 c6 c7 c8 c9, cs = [c0, c1, c2, c3, c4, c5, c6, c7, c8, c9] := by
  match cs, h with
  | [c0, c1, c2, c3, c4, c5, c6, c7, c8, c9], _ => exact ⟨c0, c1, c2, c3, c4, c5, c6, c7, c8, c9, rfl⟩

theorem gl_User : Tryz.prog.cellsOf 170 = 6 := by kernel_rfl
theorem gl_sUser : Tryz.prog.cellsOf 28 = 1 := by kernel_rfl
theorem gl_Session : Tryz.prog.cellsOf 172 = 10 := by kernel_rfl
theorem gl_sSession : Tryz.prog.cellsOf 29 = 1 := by kernel_rfl
theorem gl_Fail : Tryz.prog.cellsOf 175 = 3 := by kernel_rfl
theorem gl_sFail : Tryz.prog.cellsOf 30 = 1 := by kernel_rfl
theorem gl_Record : Tryz.prog.cellsOf 195 = 5 := by kernel_rfl
theorem gl_sRecord : Tryz.prog.cellsOf 31 = 1 := by kernel_rfl
theorem gl_Guests : Tryz.prog.cellsOf 33 = 5 := by kernel_rfl
theorem gl_int : Tryz.prog.cellsOf 3 = 1 := by kernel_rfl
theorem gl_string : Tryz.prog.cellsOf 9 = 1 := by kernel_rfl
theorem gl_bool : Tryz.prog.cellsOf 4 = 1 := by kernel_rfl
theorem open_user (h : DataW.trod enc Tryz.prog w base spare held fuel 170 cs = some x) : ∃ d, UsR w d cs := by
  obtain ⟨xs, m, _, _, hcl, hlen, hfld⟩ := DataW.trod_struct Tryz.underlying170 h
  rw [gl_User] at hcl
  obtain ⟨c0, c1, c2, c3, c4, c5, rfl⟩ := gis6 hcl
  replace hlen : xs.length = 6 := hlen
  have e0 := hfld 0 _ rfl
  rw [List.getElem?_eq_getElem (by omega)] at e0
  obtain ⟨a0, q0, _, w0⟩ := DataW.trod_string Tryz.underlying9 e0
  simp [gl_string] at q0
  subst q0
  have e1 := hfld 1 _ rfl
  rw [List.getElem?_eq_getElem (by omega)] at e1
  obtain ⟨a1, q1, _, w1⟩ := DataW.trod_string Tryz.underlying9 e1
  simp [gl_string] at q1
  subst q1
  have e2 := hfld 2 _ rfl
  rw [List.getElem?_eq_getElem (by omega)] at e2
  obtain ⟨a2, q2, _, w2⟩ := DataW.trod_string Tryz.underlying9 e2
  simp [gl_string] at q2
  subst q2
  have e3 := hfld 3 _ rfl
  rw [List.getElem?_eq_getElem (by omega)] at e3
  obtain ⟨a3, q3, _, w3⟩ := DataW.trod_string Tryz.underlying9 e3
  simp [gl_string] at q3
  subst q3
  have e4 := hfld 4 _ rfl
  rw [List.getElem?_eq_getElem (by omega)] at e4
  obtain ⟨a4, q4, _, w4⟩ := DataW.trod_int Tryz.underlying3 e4
  simp [gl_int] at q4
  subst q4
  have e5 := hfld 5 _ rfl
  rw [List.getElem?_eq_getElem (by omega)] at e5
  obtain ⟨a5, q5, _, w5⟩ := DataW.trod_int Tryz.underlying3 e5
  simp [gl_int] at q5
  subst q5
  exact ⟨⟨a0, a1, a2, a3, a4, a5⟩, rfl, w0, w1, w2, w3, w4, w5⟩

theorem open_users (h : DataW.trod enc Tryz.prog w base spare held fuel 28 cs = some x) : ∃ (a : Option Addr) (len cap : Nat) (xs : List UserV), cs = [.slice a len cap] ∧ xs.length = len ∧ len ≤ cap ∧ cap ≤ maxLen ∧ (a = none → cap = 0) ∧ Rw UsR 6 w a xs :=
  rows_of UsR 6 Tryz.underlying28 gl_User (by omega) (fun _ _ _ h => open_user h) h

theorem open_session (h : DataW.trod enc Tryz.prog w base spare held fuel 172 cs = some x) : ∃ d, SeR w d cs := by
  obtain ⟨xs, m, _, _, hcl, hlen, hfld⟩ := DataW.trod_struct Tryz.underlying172 h
  rw [gl_Session] at hcl
  obtain ⟨c0, c1, c2, c3, c4, c5, c6, c7, c8, c9, rfl⟩ := gis10 hcl
  replace hlen : xs.length = 10 := hlen
  have e0 := hfld 0 _ rfl
  rw [List.getElem?_eq_getElem (by omega)] at e0
  obtain ⟨a0, q0, _, w0⟩ := DataW.trod_int Tryz.underlying3 e0
  simp [gl_int] at q0
  subst q0
  have e1 := hfld 1 _ rfl
  rw [List.getElem?_eq_getElem (by omega)] at e1
  obtain ⟨a1, q1, _, w1⟩ := DataW.trod_int Tryz.underlying3 e1
  simp [gl_int] at q1
  subst q1
  have e2 := hfld 2 _ rfl
  rw [List.getElem?_eq_getElem (by omega)] at e2
  obtain ⟨a2, q2, _, w2⟩ := DataW.trod_string Tryz.underlying9 e2
  simp [gl_string] at q2
  subst q2
  have e3 := hfld 3 _ rfl
  rw [List.getElem?_eq_getElem (by omega)] at e3
  obtain ⟨a3, q3, _, w3⟩ := DataW.trod_int Tryz.underlying3 e3
  simp [gl_int] at q3
  subst q3
  have e4 := hfld 4 _ rfl
  rw [List.getElem?_eq_getElem (by omega)] at e4
  obtain ⟨a4, q4, _, w4⟩ := DataW.trod_int Tryz.underlying3 e4
  simp [gl_int] at q4
  subst q4
  have e5 := hfld 5 _ rfl
  rw [List.getElem?_eq_getElem (by omega)] at e5
  obtain ⟨a5, q5, _, w5⟩ := DataW.trod_int Tryz.underlying3 e5
  simp [gl_int] at q5
  subst q5
  have e6 := hfld 6 _ rfl
  rw [List.getElem?_eq_getElem (by omega)] at e6
  obtain ⟨a6, q6, _, w6⟩ := DataW.trod_int Tryz.underlying3 e6
  simp [gl_int] at q6
  subst q6
  have e7 := hfld 7 _ rfl
  rw [List.getElem?_eq_getElem (by omega)] at e7
  obtain ⟨a7, q7, _, w7⟩ := DataW.trod_int Tryz.underlying3 e7
  simp [gl_int] at q7
  subst q7
  have e8 := hfld 8 _ rfl
  rw [List.getElem?_eq_getElem (by omega)] at e8
  obtain ⟨a8, q8, _, w8⟩ := DataW.trod_int Tryz.underlying3 e8
  simp [gl_int] at q8
  subst q8
  have e9 := hfld 9 _ rfl
  rw [List.getElem?_eq_getElem (by omega)] at e9
  obtain ⟨a9, q9, _, w9⟩ := DataW.trod_int Tryz.underlying3 e9
  simp [gl_int] at q9
  subst q9
  exact ⟨⟨a0, a1, a2, a3, a4, a5, a6, a7, a8, a9⟩, rfl, w0, w1, w2, w3, w4, w5, w6, w7, w8, w9⟩

theorem open_sessions (h : DataW.trod enc Tryz.prog w base spare held fuel 29 cs = some x) : ∃ (a : Option Addr) (len cap : Nat) (xs : List SessV), cs = [.slice a len cap] ∧ xs.length = len ∧ len ≤ cap ∧ cap ≤ maxLen ∧ (a = none → cap = 0) ∧ Rw SeR 10 w a xs :=
  rows_of SeR 10 Tryz.underlying29 gl_Session (by omega) (fun _ _ _ h => open_session h) h

theorem open_fail (h : DataW.trod enc Tryz.prog w base spare held fuel 175 cs = some x) : ∃ d, FaR w d cs := by
  obtain ⟨xs, m, _, _, hcl, hlen, hfld⟩ := DataW.trod_struct Tryz.underlying175 h
  rw [gl_Fail] at hcl
  obtain ⟨c0, c1, c2, rfl⟩ := gis3 hcl
  replace hlen : xs.length = 3 := hlen
  have e0 := hfld 0 _ rfl
  rw [List.getElem?_eq_getElem (by omega)] at e0
  obtain ⟨a0, q0, _, w0⟩ := DataW.trod_string Tryz.underlying9 e0
  simp [gl_string] at q0
  subst q0
  have e1 := hfld 1 _ rfl
  rw [List.getElem?_eq_getElem (by omega)] at e1
  obtain ⟨a1, q1, _, w1⟩ := DataW.trod_int Tryz.underlying3 e1
  simp [gl_int] at q1
  subst q1
  have e2 := hfld 2 _ rfl
  rw [List.getElem?_eq_getElem (by omega)] at e2
  obtain ⟨a2, q2, _, w2⟩ := DataW.trod_int Tryz.underlying3 e2
  simp [gl_int] at q2
  subst q2
  exact ⟨⟨a0, a1, a2⟩, rfl, w0, w1, w2⟩

theorem open_fails (h : DataW.trod enc Tryz.prog w base spare held fuel 30 cs = some x) : ∃ (a : Option Addr) (len cap : Nat) (xs : List FailV), cs = [.slice a len cap] ∧ xs.length = len ∧ len ≤ cap ∧ cap ≤ maxLen ∧ (a = none → cap = 0) ∧ Rw FaR 3 w a xs :=
  rows_of FaR 3 Tryz.underlying30 gl_Fail (by omega) (fun _ _ _ h => open_fail h) h

theorem open_record (h : DataW.trod enc Tryz.prog w base spare held fuel 195 cs = some x) : ∃ d, ReR w d cs := by
  obtain ⟨xs, m, _, _, hcl, hlen, hfld⟩ := DataW.trod_struct Tryz.underlying195 h
  rw [gl_Record] at hcl
  obtain ⟨c0, c1, c2, c3, c4, rfl⟩ := gis5 hcl
  replace hlen : xs.length = 5 := hlen
  have e0 := hfld 0 _ rfl
  rw [List.getElem?_eq_getElem (by omega)] at e0
  obtain ⟨a0, q0, _, w0⟩ := DataW.trod_int Tryz.underlying3 e0
  simp [gl_int] at q0
  subst q0
  have e1 := hfld 1 _ rfl
  rw [List.getElem?_eq_getElem (by omega)] at e1
  obtain ⟨a1, q1, _, w1⟩ := DataW.trod_int Tryz.underlying3 e1
  simp [gl_int] at q1
  subst q1
  have e2 := hfld 2 _ rfl
  rw [List.getElem?_eq_getElem (by omega)] at e2
  obtain ⟨a2, q2, _, w2⟩ := DataW.trod_int Tryz.underlying3 e2
  simp [gl_int] at q2
  subst q2
  have e3 := hfld 3 _ rfl
  rw [List.getElem?_eq_getElem (by omega)] at e3
  obtain ⟨a3, q3, _, w3⟩ := DataW.trod_int Tryz.underlying3 e3
  simp [gl_int] at q3
  subst q3
  have e4 := hfld 4 _ rfl
  rw [List.getElem?_eq_getElem (by omega)] at e4
  obtain ⟨a4, q4, _⟩ := DataW.trod_bool Tryz.underlying4 e4
  simp [gl_bool] at q4
  subst q4
  exact ⟨⟨a0, a1, a2, a3, a4⟩, rfl, w0, w1, w2, w3⟩

theorem open_records (h : DataW.trod enc Tryz.prog w base spare held fuel 31 cs = some x) : ∃ (a : Option Addr) (len cap : Nat) (xs : List RecV), cs = [.slice a len cap] ∧ xs.length = len ∧ len ≤ cap ∧ cap ≤ maxLen ∧ (a = none → cap = 0) ∧ Rw ReR 5 w a xs :=
  rows_of ReR 5 Tryz.underlying31 gl_Record (by omega) (fun _ _ _ h => open_record h) h

theorem open_guests (h : DataW.trod enc Tryz.prog w base spare held fuel 33 cs = some x) : ∃ (ua sa fa ra : Option Addr) (ul uc sl sc fl fc rl rc : Nat) (us : List UserV) (ss : List SessV) (fs : List FailV) (rs : List RecV) (nx : Int), cs = [.slice ua ul uc, .slice sa sl sc, .slice fa fl fc, .slice ra rl rc, .int .i64 nx] ∧ (us.length = ul ∧ ul ≤ uc ∧ uc ≤ maxLen ∧ Rw UsR 6 w ua us) ∧ (ss.length = sl ∧ sl ≤ sc ∧ sc ≤ maxLen ∧ Rw SeR 10 w sa ss) ∧ (fs.length = fl ∧ fl ≤ fc ∧ fc ≤ maxLen ∧ Rw FaR 3 w fa fs) ∧ (rs.length = rl ∧ rl ≤ rc ∧ rc ≤ maxLen ∧ Rw ReR 5 w ra rs) ∧ (Lit.int .i64 nx).wf = true := by
  obtain ⟨xs, m, _, _, hcl, hlen, hfld⟩ := DataW.trod_struct Tryz.underlying33 h
  rw [gl_Guests] at hcl
  obtain ⟨c0, c1, c2, c3, c4, rfl⟩ := gis5 hcl
  replace hlen : xs.length = 5 := hlen
  have e0 := hfld 0 _ rfl
  rw [List.getElem?_eq_getElem (by omega)] at e0
  obtain ⟨a0, len0, cap0, xs0, q0, l0, lc0, cm0, _, r0⟩ := open_users e0
  simp [gl_sUser] at q0
  subst q0
  have e1 := hfld 1 _ rfl
  rw [List.getElem?_eq_getElem (by omega)] at e1
  obtain ⟨a1, len1, cap1, xs1, q1, l1, lc1, cm1, _, r1⟩ := open_sessions e1
  simp [gl_sSession] at q1
  subst q1
  have e2 := hfld 2 _ rfl
  rw [List.getElem?_eq_getElem (by omega)] at e2
  obtain ⟨a2, len2, cap2, xs2, q2, l2, lc2, cm2, _, r2⟩ := open_fails e2
  simp [gl_sFail] at q2
  subst q2
  have e3 := hfld 3 _ rfl
  rw [List.getElem?_eq_getElem (by omega)] at e3
  obtain ⟨a3, len3, cap3, xs3, q3, l3, lc3, cm3, _, r3⟩ := open_records e3
  simp [gl_sRecord] at q3
  subst q3
  have e4 := hfld 4 _ rfl
  rw [List.getElem?_eq_getElem (by omega)] at e4
  obtain ⟨a4, q4, _, w4⟩ := DataW.trod_int Tryz.underlying3 e4
  simp [gl_int] at q4
  subst q4
  exact ⟨_, _, _, _, _, _, _, _, _, _, _, _, _, _, _, _, _, rfl, ⟨l0, lc0, cm0, r0⟩, ⟨l1, lc1, cm1, r1⟩, ⟨l2, lc2, cm2, r2⟩, ⟨l3, lc3, cm3, r3⟩, w4⟩

end OpnG
end Go.Proofs.YtlebblmlbhnppaaGreat

namespace Go.Proofs.YtlebblmlbhnppaaGreat
open Go.RowKit Go.PlainAid
set_option linter.unusedVariables false

/-- The cells of the xs, one behind the other. -/
def flatS {α : Type} (c : α → List Value) (xs : List α) : List Value := xs.flatMap c
section Fl
variable {α : Type} {c : α → List Value} {K : Nat}
theorem flatS_append (xs ys : List α) : flatS c (xs ++ ys) = flatS c xs ++ flatS c ys := by simp [flatS]
theorem flatS_one (x : α) : flatS c [x] = c x := by simp [flatS]
theorem flatS_cons (x : α) (xs : List α) : flatS c (x :: xs) = c x ++ flatS c xs := rfl
theorem flatS_len (hK : ∀ x, (c x).length = K) : ∀ xs : List α, (flatS c xs).length = xs.length * K
  | [] => by simp [flatS]
  | x :: xs => by rw [flatS_cons, List.length_append, hK, flatS_len hK xs, List.length_cons, Nat.add_mul]; omega
theorem flatS_at (hK : ∀ x, (c x).length = K) : ∀ (xs : List α) (i : Nat) (x : α) (j : Nat), xs[i]? = some x → j < K → (flatS c xs)[i * K + j]? = (c x)[j]?
  | [], i, x, j, h, hj => by simp at h
  | y :: xs, 0, x, j, h, hj => by
    simp at h
    subst h
    rw [flatS_cons, List.getElem?_append_left (by rw [hK]; omega)]
    congr 1
    omega
  | y :: xs, i + 1, x, j, h, hj => by
    rw [flatS_cons, List.getElem?_append_right (by rw [hK, Nat.add_mul]; omega), hK, show (i + 1) * K + j - K = i * K + j by rw [Nat.add_mul]; omega]
    exact flatS_at hK xs i x j (by simpa using h) hj
theorem sets_mid : ∀ (vs B A C : List Value), B.length = vs.length → sets (A ++ (B ++ C)) A.length vs = A ++ (vs ++ C)
  | [], [], A, C, _ => rfl
  | v :: vs, b :: B, A, C, h => by
    have e : (A ++ ((b :: B) ++ C)).set A.length v = (A ++ [v]) ++ (B ++ C) := by simp
    have := sets_mid vs B (A ++ [v]) C (by simpa using h)
    unfold sets
    rw [e, show A.length + 1 = (A ++ [v]).length by simp, this]
    simp
theorem flatS_sets (hK : ∀ x, (c x).length = K) (xs : List α) (i : Nat) (y : α) (hi : i < xs.length) : flatS c (xs.set i y) = sets (flatS c xs) (i * K) (c y) := by
  obtain ⟨A, x, C, rfl, rfl⟩ : ∃ A x C, xs = A ++ x :: C ∧ A.length = i := ⟨xs.take i, xs[i], xs.drop (i + 1), by simp, by simp; omega⟩
  have e : (A ++ x :: C).set A.length y = A ++ y :: C := by simp
  rw [e, flatS_append, flatS_append, flatS_cons, flatS_cons, ← flatS_len hK, sets_mid _ _ _ _ (by rw [hK, hK])]
theorem flatS_set1 (hK : ∀ x, (c x).length = K) (xs : List α) (i : Nat) (x y : α) (j : Nat) (v : Value) (hx : xs[i]? = some x) (hj : j < K) (hy : c y = (c x).set j v) : flatS c (xs.set i y) = (flatS c xs).set (i * K + j) v := by
  have hi := (List.getElem?_eq_some_iff.1 hx).1
  obtain ⟨A, x', C, rfl, rfl⟩ : ∃ A x C, xs = A ++ x :: C ∧ A.length = i := ⟨xs.take i, xs[i], xs.drop (i + 1), by simp, by simp; omega⟩
  have ex : x' = x := by simpa using hx
  subst ex
  have e : (A ++ x' :: C).set A.length y = A ++ y :: C := by simp
  rw [e, flatS_append, flatS_append, flatS_cons, flatS_cons, ← flatS_len hK, hy, List.set_append_right _ _ (by omega), List.set_append_left _ _ (by rw [hK]; omega), show (flatS c A).length + j - (flatS c A).length = j by omega]
end Fl

/-- The slice value v owns the xs, in a block from B on. -/
def OwnS {α : Type} (c : α → List Value) (K : Nat) (e : TypeId) (w : World) (B : Nat) (v : Value) (xs : List α) : Prop := w.ownsRow B e K v xs.length (flatS c xs)
/-- A flat struct, its cells and what is known of it. -/
def FR {α : Type} (c : α → List Value) (ok : α → Prop) (w : World) (u : α) (vs : List Value) : Prop := vs = c u ∧ ok u
theorem FR.kp {α : Type} {c : α → List Value} {ok : α → Prop} : Kp (FR c ok) := fun _ _ _ _ h _ => h
section Ow
variable {α : Type} {c : α → List Value} {K : Nat} {e : TypeId} {w w' : World} {B : Nat} {v : Value} {xs : List α}
theorem OwnS.lt (h : OwnS c K e w B v xs) : ∀ k, v.ownBlock = some k → B ≤ k ∧ k < w.heap.size := World.ownsRow.lt h
theorem OwnS.keep {m : Nat} (h : OwnS c K e w B v xs) (hb : Below m w w') (hm : ∀ k, v.ownBlock = some k → k < m) : OwnS c K e w' B v xs := owns_keep h hb hm
theorem OwnS.now (h : OwnS c K e w B v xs) (hb : Below w.heap.size w w') : OwnS c K e w' B v xs := owns_now h hb
theorem OwnS.kept {r : Option Nat} (h : OwnS c K e w B v xs) (hg : w.grownBy w' r) (hne : v.ownBlock = none ∨ v.ownBlock ≠ r) : OwnS c K e w' B v xs := World.ownsRow.kept h hg hne
theorem OwnS.lower {B' : Nat} (h : OwnS c K e w B v xs) (hB : B' ≤ B) : OwnS c K e w B' v xs := by
  refine ⟨h.1, ?_⟩
  rcases h.2 with h' | ⟨g, cap, cur, h1, hb, h4⟩
  · exact .inl h'
  · exact .inr ⟨g, cap, cur, h1, Nat.le_trans hB hb, h4⟩
theorem OwnS.slice (h : OwnS c K e w B v xs) : ∃ a cap, v = .slice a xs.length cap ∧ xs.length ≤ cap ∧ cap ≤ maxLen ∧ (∀ b off, a = some ⟨b, off, none⟩ → B ≤ b ∧ b < w.heap.size) := by
  rcases h.2 with ⟨h1, h2⟩ | ⟨g, cap, cur, h1, hB, hg, h3, h4, _⟩
  · exact ⟨none, 0, by rw [h1, h2], by omega, Nat.zero_le _, fun b off e => by cases e⟩
  · exact ⟨_, cap, h1, h3, h4, fun b off e => by cases e; exact ⟨hB, (Array.getElem?_eq_some_iff.1 hg).1⟩⟩
theorem OwnS.form {a : Option Addr} {n cap : Nat} (h : OwnS c K e w B (.slice a n cap) xs) (h0 : 0 < xs.length) : ∃ g, a = some ⟨g, 0, none⟩ ∧ B ≤ g ∧ g < w.heap.size ∧ xs.length = n := by
  rcases h.2 with ⟨h1, h2⟩ | ⟨g, cap, cur, h1, hB, hg, _⟩
  · omega
  · cases h1
    exact ⟨g, rfl, hB, (Array.getElem?_eq_some_iff.1 hg).1, rfl⟩
theorem OwnS.len {a : Option Addr} {n cap : Nat} (h : OwnS c K e w B (.slice a n cap) xs) : xs.length = n := by
  rcases h.2 with ⟨h1, h2⟩ | ⟨g, cap, cur, h1, _⟩
  · cases h1
    exact h2
  · cases h1
    rfl
theorem OwnS.rw {a : Option Addr} {n cap : Nat} {ok : α → Prop} (h : OwnS c K e w B (.slice a n cap) xs) (hK : ∀ x, (c x).length = K) (hok : ∀ x, x ∈ xs → ok x) : Rw (FR c ok) K w a xs := by
  intro h0
  obtain ⟨g, rfl, hB, hg, rfl⟩ := h.form h0
  refine ⟨g, 0, rfl, hg, fun i x hx => ⟨c x, hK x, ⟨rfl, hok x (List.mem_of_getElem? hx)⟩, fun j u hu => ?_⟩⟩
  have hj := (List.getElem?_eq_some_iff.1 hu).1
  rw [hK] at hj
  have hi := (List.getElem?_eq_some_iff.1 hx).1
  have : (i + 1) * K ≤ xs.length * K := Nat.mul_le_mul_right _ hi
  rw [Nat.add_mul] at this
  rw [Nat.zero_add, World.ownsRow.cellAt h _ (by omega), flatS_at hK xs i x j hx hj]
  exact hu
/-- What a load from or a store into element i wants to know. -/
theorem OwnS.cell {g n cap : Nat} (h : OwnS c K e w B (.slice (some ⟨g, 0, none⟩) n cap) xs) (hK : ∀ x, (c x).length = K) {i j : Nat} {x : α} {u : Value} (hx : xs[i]? = some x) (hu : (c x)[j]? = some u) : w.cell? ⟨g, i * K + j, none⟩ = some u ∧ w.frozen? ⟨g, i * K + j, none⟩ = false := by
  obtain rfl := h.len
  have hj := (List.getElem?_eq_some_iff.1 hu).1
  rw [hK] at hj
  have hi := (List.getElem?_eq_some_iff.1 hx).1
  have : (i + 1) * K ≤ xs.length * K := Nat.mul_le_mul_right _ hi
  rw [Nat.add_mul] at this
  exact ⟨by rw [World.ownsRow.cellAt h _ (by omega), flatS_at hK xs i x j hx hj]; exact hu, World.ownsRow.frozenAt h _⟩
theorem OwnS.nil (w : World) (B : Nat) : OwnS c K e w B (.slice none 0 0) ([] : List α) := World.ownsRow_nil w _ _ _
theorem OwnS.lit (w : World) (B : Nat) (hB : B ≤ w.heap.size) : OwnS c K e (w.alloc (.cells #[] e)) B (.slice (some ⟨w.heap.size, 0, none⟩) 0 0) ([] : List α) := World.ownsRow_lit w #[] 0 hB (Nat.zero_le _) (by simp)
/-- An element stored whole. -/
theorem OwnS.store {g n cap : Nat} (h : OwnS c K e w B (.slice (some ⟨g, 0, none⟩) n cap) xs) (hK : ∀ x, (c x).length = K) {i : Nat} (hi : i < n) (y : α) :
    OwnS c K e (wsets w g (i * K) (c y)) B (.slice (some ⟨g, 0, none⟩) n cap) (xs.set i y) ∧ w.grownBy (wsets w g (i * K) (c y)) (some g) := by
  obtain rfl := h.len
  have := owns_sets (c y) w _ (i * K) h
  refine ⟨?_, this.2⟩
  unfold OwnS
  rw [flatS_sets hK xs i y hi, List.length_set]
  exact this.1
/-- A field stored. -/
theorem OwnS.set1 {g n cap : Nat} (h : OwnS c K e w B (.slice (some ⟨g, 0, none⟩) n cap) xs) (hK : ∀ x, (c x).length = K) {i j : Nat} {x y : α} {u : Value} (hx : xs[i]? = some x) (hj : j < K) (hy : c y = (c x).set j u) :
    OwnS c K e (w.setCell ⟨g, i * K + j, none⟩ u) B (.slice (some ⟨g, 0, none⟩) n cap) (xs.set i y) ∧ w.grownBy (w.setCell ⟨g, i * K + j, none⟩ u) (some g) := by
  obtain rfl := h.len
  have := World.ownsRow.stored h (i * K + j) u
  refine ⟨?_, this.2⟩
  unfold OwnS
  rw [flatS_set1 hK xs i x y j u hx hj hy, List.length_set]
  exact this.1
end Ow
theorem made_flatS {α : Type} (c : α → List Value) (z : α) (Z : Array Value) (hz : Z.toList = c z) (h0 : 0 < Z.size) (n : Nat) : (madeCells Z (n * Z.size)).toList = flatS c (List.replicate n z) := by
  have hK : ∀ x ∈ [z], (c x).length = Z.size := by intro x hx; simp at hx; subst hx; rw [← hz]; simp
  have flat_at : ∀ (n i j : Nat), i < n → j < Z.size → (flatS c (List.replicate n z))[i * Z.size + j]? = (c z)[j]? := by
    intro n
    induction n with
    | zero => intro i j hi; omega
    | succ n ih =>
      intro i j hi hj
      rw [List.replicate_succ, flatS_cons]
      cases i with
      | zero => rw [List.getElem?_append_left (by rw [hK z (by simp)]; omega)]; congr 1; omega
      | succ i =>
        rw [List.getElem?_append_right (by rw [hK z (by simp), Nat.add_mul]; omega), hK z (by simp), show (i + 1) * Z.size + j - Z.size = i * Z.size + j by rw [Nat.add_mul]; omega]
        exact ih i j (by omega) hj
  have hlen : ∀ n, (flatS c (List.replicate n z)).length = n * Z.size := by
    intro n
    induction n with
    | zero => simp [flatS]
    | succ n ih => rw [List.replicate_succ, flatS_cons, List.length_append, ih, hK z (by simp), Nat.add_mul]; omega
  apply List.ext_getElem?
  intro m
  by_cases hm : m < n * Z.size
  · have e1 : m = m / Z.size * Z.size + m % Z.size := by rw [Nat.mul_comm]; exact (Nat.div_add_mod m Z.size).symm
    have hq : m / Z.size < n := (Nat.div_lt_iff_lt_mul h0).2 hm
    have hr : m % Z.size < Z.size := Nat.mod_lt _ h0
    have e2 := flat_at n (m / Z.size) (m % Z.size) hq hr
    rw [← e1] at e2
    rw [e2, ← hz]
    simp [madeCells, hm, hr]
  · rw [List.getElem?_eq_none (by rw [Array.length_toList, size_madeCells]; omega), List.getElem?_eq_none (by rw [hlen]; omega)]
theorem OwnS.made {α : Type} {c : α → List Value} {K : Nat} (w : World) (e : TypeId) (B n : Nat) (z : α) (Z : Array Value) (hz : Z.toList = c z) (hZ : Z.size = K) (h0 : 0 < K) (hB : B ≤ w.heap.size) (hn : n ≤ maxLen) : OwnS c K e (w.alloc (.cells (madeCells Z (n * K)) e)) B (.slice (some ⟨w.heap.size, 0, none⟩) n n) (List.replicate n z) := by
  subst hZ
  have := owns_made w e B n Z.size Z hB hn
  unfold OwnS
  rw [made_flatS c z Z hz h0 n] at this
  rwa [List.length_replicate]
theorem takeS_set {α : Type} {L zs : List α} {k : Nat} {x : α} (hl : L.length = zs.length) (hx : zs[k]? = some x) (h : L.take k = zs.take k) : (L.set k x).take (k + 1) = zs.take (k + 1) := by
  have hk := (List.getElem?_eq_some_iff.1 hx).1
  have e1 : (L.set k x).take (k + 1) = (L.set k x).take k ++ [x] := by rw [List.take_add_one, List.getElem?_set_self (by omega)]; rfl
  have e2 : zs.take (k + 1) = zs.take k ++ [x] := by rw [List.take_add_one, hx]; rfl
  rw [e1, e2, List.take_set_of_le (Nat.le_refl _), h]
theorem takeS_next {α : Type} {zs : List α} {k : Nat} {x : α} (hx : zs[k]? = some x) : zs.take (k + 1) = zs.take k ++ [x] := by rw [List.take_add_one, hx]; rfl
/-- The cells of a row that is read, one behind the other. -/
theorem flat_rw {α : Type} {c : α → List Value} {ok : α → Prop} {K : Nat} {w : World} {b off : Nat} {xs : List α} (h : Rw (FR c ok) K w (some ⟨b, off, none⟩) xs) (hK : ∀ x, (c x).length = K) (h0 : 0 < K) : ∀ j u, (flatS c xs)[j]? = some u → w.cell? ⟨b, off + j, none⟩ = some u := by
  intro j u hu
  have hj := (List.getElem?_eq_some_iff.1 hu).1
  rw [flatS_len hK] at hj
  have e1 : j = j / K * K + j % K := by rw [Nat.mul_comm]; exact (Nat.div_add_mod j K).symm
  have hq : j / K < xs.length := (Nat.div_lt_iff_lt_mul h0).2 hj
  have hr : j % K < K := Nat.mod_lt _ h0
  obtain ⟨b', off', e, hlt, hc⟩ := h (Nat.lt_of_le_of_lt (Nat.zero_le _) hq)
  cases e
  have hx : xs[j / K]? = some (xs[j / K]) := List.getElem?_eq_getElem hq
  obtain ⟨vs, h1, ⟨rfl, _⟩, h3⟩ := hc _ _ hx
  rw [e1, flatS_at hK xs _ _ _ hx hr] at hu
  have := h3 _ _ hu
  rw [Nat.add_assoc, ← e1] at this
  exact this
end Go.Proofs.YtlebblmlbhnppaaGreat

namespace Go.Proofs.YtlebblmlbhnppaaGreat
open Go.RowKit Go.PlainAid
set_option linter.unusedVariables false

structure FlowV where
  pr : Int
  mc : ByteArray
  si : Int
  sp : Int
  di : Int
  dp : Int
  st : Int
  un : Int
  ow : Int

instance : Inhabited FlowV := ⟨⟨0, ⟨#[]⟩, 0, 0, 0, 0, 0, 0, 0⟩⟩
def wvG (u : FlowV) : List Value := [.int .i64 u.pr, .string u.mc, .int .i64 u.si, .int .i64 u.sp, .int .i64 u.di, .int .i64 u.dp, .int .i64 u.st, .int .i64 u.un, .int .i64 u.ow]
def FlRok (u : FlowV) : Prop := (Lit.int .i64 u.pr).wf = true ∧ u.mc.size ≤ maxLen ∧ (Lit.int .i64 u.si).wf = true ∧ (Lit.int .i64 u.sp).wf = true ∧ (Lit.int .i64 u.di).wf = true ∧ (Lit.int .i64 u.dp).wf = true ∧ (Lit.int .i64 u.st).wf = true ∧ (Lit.int .i64 u.un).wf = true ∧ (Lit.int .i64 u.ow).wf = true
abbrev FlR := FR wvG FlRok
theorem wvG_len (u : FlowV) : (wvG u).length = 9 := rfl
theorem wsets9 (w : World) (g i : Nat) (v0 v1 v2 v3 v4 v5 v6 v7 v8 : Value) : wsets w g i [v0, v1, v2, v3, v4, v5, v6, v7, v8] = ((((((((w.setCell ⟨g, i, Option.none⟩ v0).setCell ⟨g, i + 1, Option.none⟩ v1).setCell ⟨g, i + 2, Option.none⟩ v2).setCell ⟨g, i + 3, Option.none⟩ v3).setCell ⟨g, i + 4, Option.none⟩ v4).setCell ⟨g, i + 5, Option.none⟩ v5).setCell ⟨g, i + 6, Option.none⟩ v6).setCell ⟨g, i + 7, Option.none⟩ v7).setCell ⟨g, i + 8, Option.none⟩ v8 := rfl
end Go.Proofs.YtlebblmlbhnppaaGreat

namespace Go.Proofs.YtlebblmlbhnppaaGreat
open Go.RowKit Go.PlainAid
set_option linter.unusedVariables false

section OpnF
variable {H : Type} {enc : TypeId × Value → H} {w : World} {base : Nat} {spare : Nat → Bool} {held : Bool} {fuel : Nat} {cs : List Value} {x : DataW H × List MemPlace}

theorem gis9 {α : Type} {cs : List α} (h : cs.length = 9) : ∃ c0 c1 c2 c3 c4 c5 c6 c7 c8, cs = [c0, c1, c2, c3, c4, c5, c6, c7, c8] := by
  match cs, h with
  | [c0, c1, c2, c3, c4, c5, c6, c7, c8], _ => exact ⟨c0, c1, c2, c3, c4, c5, c6, c7, c8, rfl⟩

theorem f9_Flow : Tryz.prog.cellsOf 218 = 9 := by kernel_rfl
theorem f9_int : Tryz.prog.cellsOf 3 = 1 := by kernel_rfl
theorem f9_string : Tryz.prog.cellsOf 9 = 1 := by kernel_rfl
theorem open_flow (h : DataW.trod enc Tryz.prog w base spare held fuel 218 cs = some x) : ∃ d, FlR w d cs := by
  obtain ⟨xs, m, _, _, hcl, hlen, hfld⟩ := DataW.trod_struct Tryz.underlying218 h
  rw [f9_Flow] at hcl
  obtain ⟨c0, c1, c2, c3, c4, c5, c6, c7, c8, rfl⟩ := gis9 hcl
  replace hlen : xs.length = 9 := hlen
  have e0 := hfld 0 _ rfl
  rw [List.getElem?_eq_getElem (by omega)] at e0
  obtain ⟨a0, q0, _, w0⟩ := DataW.trod_int Tryz.underlying3 e0
  simp [f9_int] at q0
  subst q0
  have e1 := hfld 1 _ rfl
  rw [List.getElem?_eq_getElem (by omega)] at e1
  obtain ⟨a1, q1, _, w1⟩ := DataW.trod_string Tryz.underlying9 e1
  simp [f9_string] at q1
  subst q1
  have e2 := hfld 2 _ rfl
  rw [List.getElem?_eq_getElem (by omega)] at e2
  obtain ⟨a2, q2, _, w2⟩ := DataW.trod_int Tryz.underlying3 e2
  simp [f9_int] at q2
  subst q2
  have e3 := hfld 3 _ rfl
  rw [List.getElem?_eq_getElem (by omega)] at e3
  obtain ⟨a3, q3, _, w3⟩ := DataW.trod_int Tryz.underlying3 e3
  simp [f9_int] at q3
  subst q3
  have e4 := hfld 4 _ rfl
  rw [List.getElem?_eq_getElem (by omega)] at e4
  obtain ⟨a4, q4, _, w4⟩ := DataW.trod_int Tryz.underlying3 e4
  simp [f9_int] at q4
  subst q4
  have e5 := hfld 5 _ rfl
  rw [List.getElem?_eq_getElem (by omega)] at e5
  obtain ⟨a5, q5, _, w5⟩ := DataW.trod_int Tryz.underlying3 e5
  simp [f9_int] at q5
  subst q5
  have e6 := hfld 6 _ rfl
  rw [List.getElem?_eq_getElem (by omega)] at e6
  obtain ⟨a6, q6, _, w6⟩ := DataW.trod_int Tryz.underlying3 e6
  simp [f9_int] at q6
  subst q6
  have e7 := hfld 7 _ rfl
  rw [List.getElem?_eq_getElem (by omega)] at e7
  obtain ⟨a7, q7, _, w7⟩ := DataW.trod_int Tryz.underlying3 e7
  simp [f9_int] at q7
  subst q7
  have e8 := hfld 8 _ rfl
  rw [List.getElem?_eq_getElem (by omega)] at e8
  obtain ⟨a8, q8, _, w8⟩ := DataW.trod_int Tryz.underlying3 e8
  simp [f9_int] at q8
  subst q8
  exact ⟨⟨a0, a1, a2, a3, a4, a5, a6, a7, a8⟩, rfl, w0, w1, w2, w3, w4, w5, w6, w7, w8⟩

theorem open_flows (h : DataW.trod enc Tryz.prog w base spare held fuel 62 cs = some x) : ∃ (a : Option Addr) (len cap : Nat) (xs : List FlowV), cs = [.slice a len cap] ∧ xs.length = len ∧ len ≤ cap ∧ cap ≤ maxLen ∧ (a = none → cap = 0) ∧ Rw FlR 9 w a xs :=
  rows_of FlR 9 Tryz.underlying62 f9_Flow (by omega) (fun _ _ _ h => open_flow h) h

end OpnF
end Go.Proofs.YtlebblmlbhnppaaGreat

namespace Go.Proofs.YtlebblmlbhnppaaGreat
open Go.RowKit Go.PlainAid
set_option linter.unusedVariables false

structure ConnV where
  mc : ByteArray
  ip : Int
  po : Int
  di : Int
  st : Int
  un : Int
  nx : Int
  wa : Int
  inn : ByteArray
  out : ByteArray
  fin : Bool

instance : Inhabited ConnV := ⟨⟨⟨#[]⟩, 0, 0, 0, 0, 0, 0, 0, ⟨#[]⟩, ⟨#[]⟩, false⟩⟩
def cnG (u : ConnV) : List Value := [.string u.mc, .int .i64 u.ip, .int .i64 u.po, .int .i64 u.di, .int .i64 u.st, .int .i64 u.un, .int .i64 u.nx, .int .i64 u.wa, .string u.inn, .string u.out, .bool u.fin]
def CnRok (u : ConnV) : Prop := u.mc.size ≤ maxLen ∧ (Lit.int .i64 u.ip).wf = true ∧ (Lit.int .i64 u.po).wf = true ∧ (Lit.int .i64 u.di).wf = true ∧ (Lit.int .i64 u.st).wf = true ∧ (Lit.int .i64 u.un).wf = true ∧ (Lit.int .i64 u.nx).wf = true ∧ (Lit.int .i64 u.wa).wf = true ∧ u.inn.size ≤ maxLen ∧ u.out.size ≤ maxLen
abbrev CnR := FR cnG CnRok
theorem cnG_len (u : ConnV) : (cnG u).length = 11 := rfl
structure SegV where
  sp : Int
  dp : Int
  sq : Int
  ac : Int
  fl : Int
  wi : Int
  da : ByteArray

instance : Inhabited SegV := ⟨⟨0, 0, 0, 0, 0, 0, ⟨#[]⟩⟩⟩
def sgG (u : SegV) : List Value := [.int .i64 u.sp, .int .i64 u.dp, .int .i64 u.sq, .int .i64 u.ac, .int .i64 u.fl, .int .i64 u.wi, .string u.da]
def SgRok (u : SegV) : Prop := (Lit.int .i64 u.sp).wf = true ∧ (Lit.int .i64 u.dp).wf = true ∧ (Lit.int .i64 u.sq).wf = true ∧ (Lit.int .i64 u.ac).wf = true ∧ (Lit.int .i64 u.fl).wf = true ∧ (Lit.int .i64 u.wi).wf = true ∧ u.da.size ≤ maxLen
abbrev SgR := FR sgG SgRok
theorem sgG_len (u : SegV) : (sgG u).length = 7 := rfl
end Go.Proofs.YtlebblmlbhnppaaGreat

namespace Go.Proofs.YtlebblmlbhnppaaGreat
open Go.RowKit Go.PlainAid
set_option linter.unusedVariables false

theorem wsets11 (w : World) (g i : Nat) (v0 v1 v2 v3 v4 v5 v6 v7 v8 v9 v10 : Value) : wsets w g i [v0, v1, v2, v3, v4, v5, v6, v7, v8, v9, v10] = ((((((((((w.setCell ⟨g, i, Option.none⟩ v0).setCell ⟨g, i + 1, Option.none⟩ v1).setCell ⟨g, i + 2, Option.none⟩ v2).setCell ⟨g, i + 3, Option.none⟩ v3).setCell ⟨g, i + 4, Option.none⟩ v4).setCell ⟨g, i + 5, Option.none⟩ v5).setCell ⟨g, i + 6, Option.none⟩ v6).setCell ⟨g, i + 7, Option.none⟩ v7).setCell ⟨g, i + 8, Option.none⟩ v8).setCell ⟨g, i + 9, Option.none⟩ v9).setCell ⟨g, i + 10, Option.none⟩ v10 := rfl
section OpnC
variable {H : Type} {enc : TypeId × Value → H} {w : World} {base : Nat} {spare : Nat → Bool} {held : Bool} {fuel : Nat} {cs : List Value} {x : DataW H × List MemPlace}

theorem gis11 {α : Type} {cs : List α} (h : cs.length = 11) : ∃ c0 c1 c2 c3 c4 c5 c6 c7 c8 c9 c10, cs = [c0, c1, c2, c3, c4, c5, c6, c7, c8, c9, c10] := by
  match cs, h with
  | [c0, c1, c2, c3, c4, c5, c6, c7, c8, c9, c10], _ => exact ⟨c0, c1, c2, c3, c4, c5, c6, c7, c8, c9, c10, rfl⟩

theorem c11_Conn : Tryz.prog.cellsOf 220 = 11 := by kernel_rfl
theorem c11_int : Tryz.prog.cellsOf 3 = 1 := by kernel_rfl
theorem c11_string : Tryz.prog.cellsOf 9 = 1 := by kernel_rfl
theorem c11_bool : Tryz.prog.cellsOf 4 = 1 := by kernel_rfl
theorem open_conn (h : DataW.trod enc Tryz.prog w base spare held fuel 220 cs = some x) : ∃ d, CnR w d cs := by
  obtain ⟨xs, m, _, _, hcl, hlen, hfld⟩ := DataW.trod_struct Tryz.underlying220 h
  rw [c11_Conn] at hcl
  obtain ⟨c0, c1, c2, c3, c4, c5, c6, c7, c8, c9, c10, rfl⟩ := gis11 hcl
  replace hlen : xs.length = 11 := hlen
  have e0 := hfld 0 _ rfl
  rw [List.getElem?_eq_getElem (by omega)] at e0
  obtain ⟨a0, q0, _, w0⟩ := DataW.trod_string Tryz.underlying9 e0
  simp [c11_string] at q0
  subst q0
  have e1 := hfld 1 _ rfl
  rw [List.getElem?_eq_getElem (by omega)] at e1
  obtain ⟨a1, q1, _, w1⟩ := DataW.trod_int Tryz.underlying3 e1
  simp [c11_int] at q1
  subst q1
  have e2 := hfld 2 _ rfl
  rw [List.getElem?_eq_getElem (by omega)] at e2
  obtain ⟨a2, q2, _, w2⟩ := DataW.trod_int Tryz.underlying3 e2
  simp [c11_int] at q2
  subst q2
  have e3 := hfld 3 _ rfl
  rw [List.getElem?_eq_getElem (by omega)] at e3
  obtain ⟨a3, q3, _, w3⟩ := DataW.trod_int Tryz.underlying3 e3
  simp [c11_int] at q3
  subst q3
  have e4 := hfld 4 _ rfl
  rw [List.getElem?_eq_getElem (by omega)] at e4
  obtain ⟨a4, q4, _, w4⟩ := DataW.trod_int Tryz.underlying3 e4
  simp [c11_int] at q4
  subst q4
  have e5 := hfld 5 _ rfl
  rw [List.getElem?_eq_getElem (by omega)] at e5
  obtain ⟨a5, q5, _, w5⟩ := DataW.trod_int Tryz.underlying3 e5
  simp [c11_int] at q5
  subst q5
  have e6 := hfld 6 _ rfl
  rw [List.getElem?_eq_getElem (by omega)] at e6
  obtain ⟨a6, q6, _, w6⟩ := DataW.trod_int Tryz.underlying3 e6
  simp [c11_int] at q6
  subst q6
  have e7 := hfld 7 _ rfl
  rw [List.getElem?_eq_getElem (by omega)] at e7
  obtain ⟨a7, q7, _, w7⟩ := DataW.trod_int Tryz.underlying3 e7
  simp [c11_int] at q7
  subst q7
  have e8 := hfld 8 _ rfl
  rw [List.getElem?_eq_getElem (by omega)] at e8
  obtain ⟨a8, q8, _, w8⟩ := DataW.trod_string Tryz.underlying9 e8
  simp [c11_string] at q8
  subst q8
  have e9 := hfld 9 _ rfl
  rw [List.getElem?_eq_getElem (by omega)] at e9
  obtain ⟨a9, q9, _, w9⟩ := DataW.trod_string Tryz.underlying9 e9
  simp [c11_string] at q9
  subst q9
  have e10 := hfld 10 _ rfl
  rw [List.getElem?_eq_getElem (by omega)] at e10
  obtain ⟨a10, q10, _⟩ := DataW.trod_bool Tryz.underlying4 e10
  simp [c11_bool] at q10
  subst q10
  exact ⟨⟨a0, a1, a2, a3, a4, a5, a6, a7, a8, a9, a10⟩, rfl, w0, w1, w2, w3, w4, w5, w6, w7, w8, w9⟩

theorem open_conns (h : DataW.trod enc Tryz.prog w base spare held fuel 63 cs = some x) : ∃ (a : Option Addr) (len cap : Nat) (xs : List ConnV), cs = [.slice a len cap] ∧ xs.length = len ∧ len ≤ cap ∧ cap ≤ maxLen ∧ (a = none → cap = 0) ∧ Rw CnR 11 w a xs :=
  rows_of CnR 11 Tryz.underlying63 c11_Conn (by omega) (fun _ _ _ h => open_conn h) h

end OpnC
end Go.Proofs.YtlebblmlbhnppaaGreat

namespace Go.Proofs.YtlebblmlbhnppaaGreat
open Go.RowKit Go.PlainAid
set_option linter.unusedVariables false

structure GtV where
  ip : Int
  b : Int
  gt : Int
  gm : ByteArray
  wm : ByteArray
  rs : Int
  ps : List PlaceV
  ros : List RoleV
  us : List UserV
  ss : List SessV
  fs : List FailV
  es : List RecV
  nx : Int
  fl : List FlowV
  co : List ConnV
  nw : Int
  dr : Int
  sn : Int
/-- Where the lists of a gateway lie. -/
structure GtA where
  (x y ua sa fa ra la ca : Option Addr)
  (xc yc uc sc fc rc lc cc : Nat)
def gtC (A : GtA) (g : GtV) : List Value := [.int .i64 g.ip, .int .i64 g.b, .int .i64 g.gt, .string g.gm, .string g.wm, .int .i64 g.rs, .slice A.x g.ps.length A.xc, .slice A.y g.ros.length A.yc, .slice A.ua g.us.length A.uc, .slice A.sa g.ss.length A.sc, .slice A.fa g.fs.length A.fc, .slice A.ra g.es.length A.rc, .int .i64 g.nx, .slice A.la g.fl.length A.lc, .slice A.ca g.co.length A.cc, .int .i64 g.nw, .int .i64 g.dr, .int .i64 g.sn]
structure GtR (w : World) (A : GtA) (g : GtV) : Prop where
  ps : Rw PlR 4 w A.x g.ps
  ros : Rw (RoR 0) 5 w A.y g.ros
  us : Rw UsR 6 w A.ua g.us
  ss : Rw SeR 10 w A.sa g.ss
  fs : Rw FaR 3 w A.fa g.fs
  es : Rw ReR 5 w A.ra g.es
  fl : Rw FlR 9 w A.la g.fl
  co : Rw CnR 11 w A.ca g.co
  kl : g.fl.length ≤ A.lc
  kc : g.co.length ≤ A.cc
theorem GtR.below {w w' : World} {A : GtA} {g : GtV} (h : GtR w A g) (hb : Below w.heap.size w w') : GtR w' A g := ⟨h.ps.keep PlR.kp hb, h.ros.keep (RoR.kp 0) hb, h.us.keep UsR.kp hb, h.ss.keep SeR.kp hb, h.fs.keep FaR.kp hb, h.es.keep ReR.kp hb, h.fl.keep FR.kp hb, h.co.keep FR.kp hb, h.kl, h.kc⟩
structure GtB (A : GtA) (g : GtV) : Prop where
  gm : g.gm.size ≤ maxLen
  wm : g.wm.size ≤ maxLen
  ps : g.ps.length ≤ A.xc ∧ A.xc ≤ maxLen
  ros : g.ros.length ≤ A.yc ∧ A.yc ≤ maxLen
  us : g.us.length ≤ A.uc ∧ A.uc ≤ maxLen
  ss : g.ss.length ≤ A.sc ∧ A.sc ≤ maxLen
  fs : g.fs.length ≤ A.fc ∧ A.fc ≤ maxLen
  es : g.es.length ≤ A.rc ∧ A.rc ≤ maxLen
  fl : g.fl.length ≤ A.lc ∧ A.lc ≤ maxLen
  co : g.co.length ≤ A.cc ∧ A.cc ≤ maxLen
  nx : (Lit.int .i64 g.nx).wf = true
  nw : (Lit.int .i64 g.nw).wf = true
  dr : (Lit.int .i64 g.dr).wf = true
  sn : (Lit.int .i64 g.sn).wf = true
section OpnT
variable {H : Type} {enc : TypeId × Value → H} {w : World} {base : Nat} {spare : Nat → Bool} {held : Bool} {fuel : Nat} {cs : List Value} {x : DataW H × List MemPlace}

theorem gis18 {α : Type} {cs : List α} (h : cs.length = 18) : ∃ c0 c1 c2 c3 c4 c5 c6 c7 c8 c9 c10 c11 c12 c13 c14 c15 c16 c17, cs = [c0, c1, c2, c3, c4, c5, c6, c7, c8, c9, c10, c11, c12, c13, c14, c15, c16, c17] := by
  match cs, h with
  | [c0, c1, c2, c3, c4, c5, c6, c7, c8, c9, c10, c11, c12, c13, c14, c15, c16, c17], _ => exact ⟨c0, c1, c2, c3, c4, c5, c6, c7, c8, c9, c10, c11, c12, c13, c14, c15, c16, c17, rfl⟩

theorem t18_Gateway : Tryz.prog.cellsOf 65 = 18 := by kernel_rfl
theorem t18_Config : Tryz.prog.cellsOf 27 = 8 := by kernel_rfl
theorem t18_Guests : Tryz.prog.cellsOf 33 = 5 := by kernel_rfl
theorem t18_Flows : Tryz.prog.cellsOf 62 = 1 := by kernel_rfl
theorem t18_Conns : Tryz.prog.cellsOf 63 = 1 := by kernel_rfl
theorem t18_int : Tryz.prog.cellsOf 3 = 1 := by kernel_rfl
theorem open_gateway (h : DataW.trod enc Tryz.prog w base spare held fuel 65 cs = some x) : ∃ (A : GtA) (g : GtV), cs = gtC A g ∧ GtR w A g ∧ GtB A g := by
  obtain ⟨xs, m, _, _, hcl, hlen, hfld⟩ := DataW.trod_struct Tryz.underlying65 h
  rw [t18_Gateway] at hcl
  obtain ⟨c0, c1, c2, c3, c4, c5, c6, c7, c8, c9, c10, c11, c12, c13, c14, c15, c16, c17, rfl⟩ := gis18 hcl
  replace hlen : xs.length = 7 := hlen
  have e0 := hfld 0 _ rfl
  rw [List.getElem?_eq_getElem (by omega)] at e0
  obtain ⟨ip, b, gt, gm, wm, rs, x, y, lx, xc, ly, yc, ps, ros, q0, wg, ww, ⟨l1, lc1, cm1, r1⟩, l2, lc2, cm2, r2⟩ := open_config e0
  simp [t18_Config] at q0
  obtain ⟨rfl, rfl, rfl, rfl, rfl, rfl, rfl, rfl⟩ := q0
  have e1 := hfld 1 _ rfl
  rw [List.getElem?_eq_getElem (by omega)] at e1
  obtain ⟨ua, sa, fa, ra, ul, uc, sl, sc, fl, fc, rl, rc, us, ss, fs, es, nx, q1, ⟨l3, lc3, cm3, r3⟩, ⟨l4, lc4, cm4, r4⟩, ⟨l5, lc5, cm5, r5⟩, ⟨l6, lc6, cm6, r6⟩, wnx⟩ := open_guests e1
  simp [t18_Guests] at q1
  obtain ⟨rfl, rfl, rfl, rfl, rfl⟩ := q1
  have e2 := hfld 2 _ rfl
  rw [List.getElem?_eq_getElem (by omega)] at e2
  obtain ⟨la, ll, lc, fl2, q2, l7, lc7, cm7, _, r7⟩ := open_flows e2
  simp [t18_Flows] at q2
  subst q2
  have e3 := hfld 3 _ rfl
  rw [List.getElem?_eq_getElem (by omega)] at e3
  obtain ⟨ca, cl, cc, co, q3, l8, lc8, cm8, _, r8⟩ := open_conns e3
  simp [t18_Conns] at q3
  subst q3
  have e4 := hfld 4 _ rfl
  rw [List.getElem?_eq_getElem (by omega)] at e4
  obtain ⟨nw, q4, _, wnw⟩ := DataW.trod_int Tryz.underlying3 e4
  simp [t18_int] at q4
  subst q4
  have e5 := hfld 5 _ rfl
  rw [List.getElem?_eq_getElem (by omega)] at e5
  obtain ⟨dr, q5, _, wdr⟩ := DataW.trod_int Tryz.underlying3 e5
  simp [t18_int] at q5
  subst q5
  have e6 := hfld 6 _ rfl
  rw [List.getElem?_eq_getElem (by omega)] at e6
  obtain ⟨sn, q6, _, wsn⟩ := DataW.trod_int Tryz.underlying3 e6
  simp [t18_int] at q6
  subst q6
  subst l1 l2 l3 l4 l5 l6 l7 l8
  exact ⟨⟨x, y, ua, sa, fa, ra, la, ca, xc, yc, uc, sc, fc, rc, lc, cc⟩, ⟨ip, b, gt, gm, wm, rs, ps, ros, us, ss, fs, es, nx, fl2, co, nw, dr, sn⟩, rfl, ⟨r1, r2, r3, r4, r5, r6, r7, r8, lc7, lc8⟩, ⟨wg, ww, ⟨lc1, cm1⟩, ⟨lc2, cm2⟩, ⟨lc3, cm3⟩, ⟨lc4, cm4⟩, ⟨lc5, cm5⟩, ⟨lc6, cm6⟩, ⟨lc7, cm7⟩, ⟨lc8, cm8⟩, wnx, wnw, wdr, wsn⟩⟩

end OpnT
end Go.Proofs.YtlebblmlbhnppaaGreat

namespace Go.Proofs.YtlebblmlbhnppaaGreat
open Go.RowKit Go.PlainAid Go.Proofs.YtlebblmlbhnppaaGreat.Bt Go.Sort
set_option linter.unusedVariables false
set_option maxRecDepth 20000
theorem toNet2 (f0 f1 : Int) (w : World) :
    Calls Tryz.prog 42 #[.agg #[.int .i64 f0, .int .i64 f1]] w fun e w' => e = .returned (.agg #[.int .i64 f0, .int .i64 f1]) ∧ Below w.heap.size w w' := by
  go_enter Tryz.func42, Tryz.ntmps42
  go_wp2
  (try simp only [Exit.inBlock, Exit.then])
  refine bodyPost_ret (v := .agg #[.int .i64 f0, .int .i64 f1]) (by simp [results, Tryz.results42, go_sem]; try rfl) rfl ?_
  exact ⟨rfl, ((((Grw.refl _).alloc _).alloc _).alloc _).below⟩
theorem eqNet2 (x0 x1 : Int) (w : World) :
    Calls Tryz.prog 53 #[.agg #[.int .i64 x0, .int .i64 x1], .agg #[.int .i64 x0, .int .i64 x1]] w fun e w' => e = .returned (.bool true) ∧ Grw w w' := by
  have h0 : (x0 != x0) = false := by simp
  have h1 : (x1 != x1) = false := by simp
  go_enter Tryz.func53, Tryz.ntmps53
  go_wp2
  go_ret
  exact ⟨rfl, ((Grw.refl _).alloc _).alloc _⟩

theorem toRange2 (f0 f1 : Int) (w : World) :
    Calls Tryz.prog 182 #[.agg #[.int .i64 f0, .int .i64 f1]] w fun e w' => e = .returned (.agg #[.int .i64 f0, .int .i64 f1]) ∧ Below w.heap.size w w' := by
  go_enter Tryz.func182, Tryz.ntmps182
  go_wp2
  (try simp only [Exit.inBlock, Exit.then])
  refine bodyPost_ret (v := .agg #[.int .i64 f0, .int .i64 f1]) (by simp [results, Tryz.results182, go_sem]; try rfl) rfl ?_
  exact ⟨rfl, ((((Grw.refl _).alloc _).alloc _).alloc _).below⟩
theorem eqRange2 (x0 x1 : Int) (w : World) :
    Calls Tryz.prog 196 #[.agg #[.int .i64 x0, .int .i64 x1], .agg #[.int .i64 x0, .int .i64 x1]] w fun e w' => e = .returned (.bool true) ∧ Grw w w' := by
  have h0 : (x0 != x0) = false := by simp
  have h1 : (x1 != x1) = false := by simp
  go_enter Tryz.func196, Tryz.ntmps196
  go_wp2
  go_ret
  exact ⟨rfl, ((Grw.refl _).alloc _).alloc _⟩

set_option maxHeartbeats 1000000 in
theorem toRule_any (p ip b lo hi : Int) (al : Bool) (w : World) :
    Calls Tryz.prog 231 #[.agg #[.int .i64 p, .int .i64 ip, .int .i64 b, .int .i64 lo, .int .i64 hi, .bool al]] w fun e w' => e = .returned (.agg #[.int .i64 p, .int .i64 ip, .int .i64 b, .int .i64 lo, .int .i64 hi, .bool al]) ∧ Below w.heap.size w w' := by
  have HA : Hid (∀ w, Calls Tryz.prog 42 #[.agg #[.int .i64 ip, .int .i64 b]] w fun e w' => e = .returned (.agg #[.int .i64 ip, .int .i64 b]) ∧ Below w.heap.size w w') := fun w => toNet2 ip b w
  have HB : Hid (∀ w, Calls Tryz.prog 182 #[.agg #[.int .i64 lo, .int .i64 hi]] w fun e w' => e = .returned (.agg #[.int .i64 lo, .int .i64 hi]) ∧ Below w.heap.size w w') := fun w => toRange2 lo hi w
  go_enter Tryz.func231, Tryz.ntmps231
  go_wp2_with fail
  refine (HA.out _).mono ?_
  rintro e wx1 ⟨rfl, bx⟩
  have c1_0_0 : wx1.cell? ⟨w.heap.size, 0, none⟩ = some (.int .i64 p) := bkeep bx (by simp [go_sem])
  have c1_0_1 : wx1.cell? ⟨w.heap.size, 1, none⟩ = some (.int .i64 ip) := bkeep bx (by simp [go_sem])
  have c1_0_2 : wx1.cell? ⟨w.heap.size, 2, none⟩ = some (.int .i64 b) := bkeep bx (by simp [go_sem])
  have c1_0_3 : wx1.cell? ⟨w.heap.size, 3, none⟩ = some (.int .i64 lo) := bkeep bx (by simp [go_sem])
  have c1_0_4 : wx1.cell? ⟨w.heap.size, 4, none⟩ = some (.int .i64 hi) := bkeep bx (by simp [go_sem])
  have c1_0_5 : wx1.cell? ⟨w.heap.size, 5, none⟩ = some (.bool al) := bkeep bx (by simp [go_sem])
  have c1_1_0 : wx1.cell? ⟨w.heap.size + 1, 0, none⟩ = some (.int .i64 0) := bkeep bx (by simp [go_sem])
  have f1_1_0 : wx1.frozen? ⟨w.heap.size + 1, 0, none⟩ = false := bthaw bx (v := .int .i64 0) (by simp [go_sem]) (by simp [go_sem])
  have c1_1_1 : wx1.cell? ⟨w.heap.size + 1, 1, none⟩ = some (.int .i64 0) := bkeep bx (by simp [go_sem])
  have f1_1_1 : wx1.frozen? ⟨w.heap.size + 1, 1, none⟩ = false := bthaw bx (v := .int .i64 0) (by simp [go_sem]) (by simp [go_sem])
  have c1_1_2 : wx1.cell? ⟨w.heap.size + 1, 2, none⟩ = some (.int .i64 0) := bkeep bx (by simp [go_sem])
  have f1_1_2 : wx1.frozen? ⟨w.heap.size + 1, 2, none⟩ = false := bthaw bx (v := .int .i64 0) (by simp [go_sem]) (by simp [go_sem])
  have c1_1_3 : wx1.cell? ⟨w.heap.size + 1, 3, none⟩ = some (.int .i64 0) := bkeep bx (by simp [go_sem])
  have f1_1_3 : wx1.frozen? ⟨w.heap.size + 1, 3, none⟩ = false := bthaw bx (v := .int .i64 0) (by simp [go_sem]) (by simp [go_sem])
  have c1_1_4 : wx1.cell? ⟨w.heap.size + 1, 4, none⟩ = some (.int .i64 0) := bkeep bx (by simp [go_sem])
  have f1_1_4 : wx1.frozen? ⟨w.heap.size + 1, 4, none⟩ = false := bthaw bx (v := .int .i64 0) (by simp [go_sem]) (by simp [go_sem])
  have c1_1_5 : wx1.cell? ⟨w.heap.size + 1, 5, none⟩ = some (.bool false) := bkeep bx (by simp [go_sem])
  have f1_1_5 : wx1.frozen? ⟨w.heap.size + 1, 5, none⟩ = false := bthaw bx (v := .bool false) (by simp [go_sem]) (by simp [go_sem])
  have c1_2_0 : wx1.cell? ⟨w.heap.size + 1 + 1, 0, none⟩ = some (.int .i64 p) := bkeep bx (by simp [go_sem])
  have f1_2_0 : wx1.frozen? ⟨w.heap.size + 1 + 1, 0, none⟩ = false := bthaw bx (v := .int .i64 p) (by simp [go_sem]) (by simp [go_sem])
  have c1_2_1 : wx1.cell? ⟨w.heap.size + 1 + 1, 1, none⟩ = some (.int .i64 0) := bkeep bx (by simp [go_sem])
  have f1_2_1 : wx1.frozen? ⟨w.heap.size + 1 + 1, 1, none⟩ = false := bthaw bx (v := .int .i64 0) (by simp [go_sem]) (by simp [go_sem])
  have c1_2_2 : wx1.cell? ⟨w.heap.size + 1 + 1, 2, none⟩ = some (.int .i64 0) := bkeep bx (by simp [go_sem])
  have f1_2_2 : wx1.frozen? ⟨w.heap.size + 1 + 1, 2, none⟩ = false := bthaw bx (v := .int .i64 0) (by simp [go_sem]) (by simp [go_sem])
  have c1_2_3 : wx1.cell? ⟨w.heap.size + 1 + 1, 3, none⟩ = some (.int .i64 0) := bkeep bx (by simp [go_sem])
  have f1_2_3 : wx1.frozen? ⟨w.heap.size + 1 + 1, 3, none⟩ = false := bthaw bx (v := .int .i64 0) (by simp [go_sem]) (by simp [go_sem])
  have c1_2_4 : wx1.cell? ⟨w.heap.size + 1 + 1, 4, none⟩ = some (.int .i64 0) := bkeep bx (by simp [go_sem])
  have f1_2_4 : wx1.frozen? ⟨w.heap.size + 1 + 1, 4, none⟩ = false := bthaw bx (v := .int .i64 0) (by simp [go_sem]) (by simp [go_sem])
  have c1_2_5 : wx1.cell? ⟨w.heap.size + 1 + 1, 5, none⟩ = some (.bool false) := bkeep bx (by simp [go_sem])
  have f1_2_5 : wx1.frozen? ⟨w.heap.size + 1 + 1, 5, none⟩ = false := bthaw bx (v := .bool false) (by simp [go_sem]) (by simp [go_sem])
  have BX1 : Hid (Below w.heap.size w wx1) := ((((Below.refl w.heap.size w).alloc (by simp <;> omega) _).alloc (by simp <;> omega) _).alloc (by simp <;> omega) _).trans (bx.mono (by simp <;> omega))
  clear bx
  go_wp2_with fail
  refine (HB.out _).mono ?_
  rintro e wx2 ⟨rfl, bx⟩
  have c2_0_0 : wx2.cell? ⟨w.heap.size, 0, none⟩ = some (.int .i64 p) := bkeep bx (by first | (simp [go_sem]; done) | simp [go_sem, c1_0_0])
  have c2_0_1 : wx2.cell? ⟨w.heap.size, 1, none⟩ = some (.int .i64 ip) := bkeep bx (by first | (simp [go_sem]; done) | simp [go_sem, c1_0_1])
  have c2_0_2 : wx2.cell? ⟨w.heap.size, 2, none⟩ = some (.int .i64 b) := bkeep bx (by first | (simp [go_sem]; done) | simp [go_sem, c1_0_2])
  have c2_0_3 : wx2.cell? ⟨w.heap.size, 3, none⟩ = some (.int .i64 lo) := bkeep bx (by first | (simp [go_sem]; done) | simp [go_sem, c1_0_3])
  have c2_0_4 : wx2.cell? ⟨w.heap.size, 4, none⟩ = some (.int .i64 hi) := bkeep bx (by first | (simp [go_sem]; done) | simp [go_sem, c1_0_4])
  have c2_0_5 : wx2.cell? ⟨w.heap.size, 5, none⟩ = some (.bool al) := bkeep bx (by first | (simp [go_sem]; done) | simp [go_sem, c1_0_5])
  have c2_1_0 : wx2.cell? ⟨w.heap.size + 1, 0, none⟩ = some (.int .i64 0) := bkeep bx (by first | (simp [go_sem]; done) | simp [go_sem, c1_1_0])
  have f2_1_0 : wx2.frozen? ⟨w.heap.size + 1, 0, none⟩ = false := bthaw bx (v := .int .i64 0) (by first | (simp [go_sem]; done) | simp [go_sem, c1_1_0]) (by first | (simp [go_sem]; done) | simp [go_sem, f1_1_0])
  have c2_1_1 : wx2.cell? ⟨w.heap.size + 1, 1, none⟩ = some (.int .i64 0) := bkeep bx (by first | (simp [go_sem]; done) | simp [go_sem, c1_1_1])
  have f2_1_1 : wx2.frozen? ⟨w.heap.size + 1, 1, none⟩ = false := bthaw bx (v := .int .i64 0) (by first | (simp [go_sem]; done) | simp [go_sem, c1_1_1]) (by first | (simp [go_sem]; done) | simp [go_sem, f1_1_1])
  have c2_1_2 : wx2.cell? ⟨w.heap.size + 1, 2, none⟩ = some (.int .i64 0) := bkeep bx (by first | (simp [go_sem]; done) | simp [go_sem, c1_1_2])
  have f2_1_2 : wx2.frozen? ⟨w.heap.size + 1, 2, none⟩ = false := bthaw bx (v := .int .i64 0) (by first | (simp [go_sem]; done) | simp [go_sem, c1_1_2]) (by first | (simp [go_sem]; done) | simp [go_sem, f1_1_2])
  have c2_1_3 : wx2.cell? ⟨w.heap.size + 1, 3, none⟩ = some (.int .i64 0) := bkeep bx (by first | (simp [go_sem]; done) | simp [go_sem, c1_1_3])
  have f2_1_3 : wx2.frozen? ⟨w.heap.size + 1, 3, none⟩ = false := bthaw bx (v := .int .i64 0) (by first | (simp [go_sem]; done) | simp [go_sem, c1_1_3]) (by first | (simp [go_sem]; done) | simp [go_sem, f1_1_3])
  have c2_1_4 : wx2.cell? ⟨w.heap.size + 1, 4, none⟩ = some (.int .i64 0) := bkeep bx (by first | (simp [go_sem]; done) | simp [go_sem, c1_1_4])
  have f2_1_4 : wx2.frozen? ⟨w.heap.size + 1, 4, none⟩ = false := bthaw bx (v := .int .i64 0) (by first | (simp [go_sem]; done) | simp [go_sem, c1_1_4]) (by first | (simp [go_sem]; done) | simp [go_sem, f1_1_4])
  have c2_1_5 : wx2.cell? ⟨w.heap.size + 1, 5, none⟩ = some (.bool false) := bkeep bx (by first | (simp [go_sem]; done) | simp [go_sem, c1_1_5])
  have f2_1_5 : wx2.frozen? ⟨w.heap.size + 1, 5, none⟩ = false := bthaw bx (v := .bool false) (by first | (simp [go_sem]; done) | simp [go_sem, c1_1_5]) (by first | (simp [go_sem]; done) | simp [go_sem, f1_1_5])
  have c2_2_0 : wx2.cell? ⟨w.heap.size + 1 + 1, 0, none⟩ = some (.int .i64 p) := bkeep bx (by first | (simp [go_sem]; done) | simp [go_sem, c1_2_0])
  have f2_2_0 : wx2.frozen? ⟨w.heap.size + 1 + 1, 0, none⟩ = false := bthaw bx (v := .int .i64 p) (by first | (simp [go_sem]; done) | simp [go_sem, c1_2_0]) (by first | (simp [go_sem]; done) | simp [go_sem, f1_2_0])
  have c2_2_1 : wx2.cell? ⟨w.heap.size + 1 + 1, 1, none⟩ = some (.int .i64 ip) := bkeep bx (by first | (simp [go_sem]; done) | simp [go_sem, c1_2_1])
  have f2_2_1 : wx2.frozen? ⟨w.heap.size + 1 + 1, 1, none⟩ = false := bthaw bx (v := .int .i64 ip) (by first | (simp [go_sem]; done) | simp [go_sem, c1_2_1]) (by first | (simp [go_sem]; done) | simp [go_sem, f1_2_1])
  have c2_2_2 : wx2.cell? ⟨w.heap.size + 1 + 1, 2, none⟩ = some (.int .i64 b) := bkeep bx (by first | (simp [go_sem]; done) | simp [go_sem, c1_2_2])
  have f2_2_2 : wx2.frozen? ⟨w.heap.size + 1 + 1, 2, none⟩ = false := bthaw bx (v := .int .i64 b) (by first | (simp [go_sem]; done) | simp [go_sem, c1_2_2]) (by first | (simp [go_sem]; done) | simp [go_sem, f1_2_2])
  have c2_2_3 : wx2.cell? ⟨w.heap.size + 1 + 1, 3, none⟩ = some (.int .i64 0) := bkeep bx (by first | (simp [go_sem]; done) | simp [go_sem, c1_2_3])
  have f2_2_3 : wx2.frozen? ⟨w.heap.size + 1 + 1, 3, none⟩ = false := bthaw bx (v := .int .i64 0) (by first | (simp [go_sem]; done) | simp [go_sem, c1_2_3]) (by first | (simp [go_sem]; done) | simp [go_sem, f1_2_3])
  have c2_2_4 : wx2.cell? ⟨w.heap.size + 1 + 1, 4, none⟩ = some (.int .i64 0) := bkeep bx (by first | (simp [go_sem]; done) | simp [go_sem, c1_2_4])
  have f2_2_4 : wx2.frozen? ⟨w.heap.size + 1 + 1, 4, none⟩ = false := bthaw bx (v := .int .i64 0) (by first | (simp [go_sem]; done) | simp [go_sem, c1_2_4]) (by first | (simp [go_sem]; done) | simp [go_sem, f1_2_4])
  have c2_2_5 : wx2.cell? ⟨w.heap.size + 1 + 1, 5, none⟩ = some (.bool false) := bkeep bx (by first | (simp [go_sem]; done) | simp [go_sem, c1_2_5])
  have f2_2_5 : wx2.frozen? ⟨w.heap.size + 1 + 1, 5, none⟩ = false := bthaw bx (v := .bool false) (by first | (simp [go_sem]; done) | simp [go_sem, c1_2_5]) (by first | (simp [go_sem]; done) | simp [go_sem, f1_2_5])
  have BX2 : Hid (Below w.heap.size w wx2) := ((BX1.out.setCell (p := ⟨w.heap.size + 1 + 1, _, _⟩) (by show w.heap.size ≤ w.heap.size + 1 + 1; omega) _).setCell (p := ⟨w.heap.size + 1 + 1, _, _⟩) (by show w.heap.size ≤ w.heap.size + 1 + 1; omega) _).trans (bx.mono (by have := BX1.out.size; simp <;> omega))
  clear bx c1_0_0 c1_0_1 c1_0_2 c1_0_3 c1_0_4 c1_0_5 c1_1_0 c1_1_1 c1_1_2 c1_1_3 c1_1_4 c1_1_5 c1_2_0 c1_2_1 c1_2_2 c1_2_3 c1_2_4 c1_2_5 f1_1_0 f1_1_1 f1_1_2 f1_1_3 f1_1_4 f1_1_5 f1_2_0 f1_2_1 f1_2_2 f1_2_3 f1_2_4 f1_2_5 BX1
  go_wp2
  (try simp only [Exit.inBlock, Exit.then])
  refine bodyPost_ret (v := .agg #[.int .i64 p, .int .i64 ip, .int .i64 b, .int .i64 lo, .int .i64 hi, .bool al]) (by simp [results, Tryz.results231, go_sem, c2_1_0, c2_1_1, c2_1_2, c2_1_3, c2_1_4, c2_1_5]; try rfl) rfl ?_
  exact ⟨rfl, (((((((((BX2.out.setCell (p := ⟨w.heap.size + 1 + 1, _, _⟩) (by show w.heap.size ≤ w.heap.size + 1 + 1; omega) _).setCell (p := ⟨w.heap.size + 1 + 1, _, _⟩) (by show w.heap.size ≤ w.heap.size + 1 + 1; omega) _).setCell (p := ⟨w.heap.size + 1 + 1, _, _⟩) (by show w.heap.size ≤ w.heap.size + 1 + 1; omega) _).setCell (p := ⟨w.heap.size + 1, _, _⟩) (by show w.heap.size ≤ w.heap.size + 1; omega) _).setCell (p := ⟨w.heap.size + 1, _, _⟩) (by show w.heap.size ≤ w.heap.size + 1; omega) _).setCell (p := ⟨w.heap.size + 1, _, _⟩) (by show w.heap.size ≤ w.heap.size + 1; omega) _).setCell (p := ⟨w.heap.size + 1, _, _⟩) (by show w.heap.size ≤ w.heap.size + 1; omega) _).setCell (p := ⟨w.heap.size + 1, _, _⟩) (by show w.heap.size ≤ w.heap.size + 1; omega) _).setCell (p := ⟨w.heap.size + 1, _, _⟩) (by show w.heap.size ≤ w.heap.size + 1; omega) _)⟩

set_option maxHeartbeats 1000000 in
theorem eqRule_any (p ip b lo hi : Int) (al : Bool) (w : World) :
    Calls Tryz.prog 246 #[.agg #[.int .i64 p, .int .i64 ip, .int .i64 b, .int .i64 lo, .int .i64 hi, .bool al], .agg #[.int .i64 p, .int .i64 ip, .int .i64 b, .int .i64 lo, .int .i64 hi, .bool al]] w fun e w' => e = .returned (.bool true) ∧ Grw w w' := by
  have HA : Hid (∀ w, Calls Tryz.prog 53 #[.agg #[.int .i64 ip, .int .i64 b], .agg #[.int .i64 ip, .int .i64 b]] w fun e w' => e = .returned (.bool true) ∧ Grw w w') := fun w => eqNet2 ip b w
  have HB : Hid (∀ w, Calls Tryz.prog 196 #[.agg #[.int .i64 lo, .int .i64 hi], .agg #[.int .i64 lo, .int .i64 hi]] w fun e w' => e = .returned (.bool true) ∧ Grw w w') := fun w => eqRange2 lo hi w
  have hp : (p != p) = false := by simp
  have ha : (al != al) = false := by simp
  go_enter Tryz.func246, Tryz.ntmps246
  go_wp2_with fail
  refine (HA.out _).mono ?_
  rintro e wx1 ⟨rfl, bx⟩
  have k0_0 : World.cell? _ ⟨w.heap.size, 0, none⟩ = some (.int .i64 p) := bx.keep (a := ⟨w.heap.size, 0, none⟩) (v := .int .i64 p) (by simp [go_sem])
  have k0_1 : World.cell? _ ⟨w.heap.size, 1, none⟩ = some (.int .i64 ip) := bx.keep (a := ⟨w.heap.size, 1, none⟩) (v := .int .i64 ip) (by simp [go_sem])
  have k0_2 : World.cell? _ ⟨w.heap.size, 2, none⟩ = some (.int .i64 b) := bx.keep (a := ⟨w.heap.size, 2, none⟩) (v := .int .i64 b) (by simp [go_sem])
  have k0_3 : World.cell? _ ⟨w.heap.size, 3, none⟩ = some (.int .i64 lo) := bx.keep (a := ⟨w.heap.size, 3, none⟩) (v := .int .i64 lo) (by simp [go_sem])
  have k0_4 : World.cell? _ ⟨w.heap.size, 4, none⟩ = some (.int .i64 hi) := bx.keep (a := ⟨w.heap.size, 4, none⟩) (v := .int .i64 hi) (by simp [go_sem])
  have k0_5 : World.cell? _ ⟨w.heap.size, 5, none⟩ = some (.bool al) := bx.keep (a := ⟨w.heap.size, 5, none⟩) (v := .bool al) (by simp [go_sem])
  have k1_0 : World.cell? _ ⟨w.heap.size + 1, 0, none⟩ = some (.int .i64 p) := bx.keep (a := ⟨w.heap.size + 1, 0, none⟩) (v := .int .i64 p) (by simp [go_sem])
  have k1_1 : World.cell? _ ⟨w.heap.size + 1, 1, none⟩ = some (.int .i64 ip) := bx.keep (a := ⟨w.heap.size + 1, 1, none⟩) (v := .int .i64 ip) (by simp [go_sem])
  have k1_2 : World.cell? _ ⟨w.heap.size + 1, 2, none⟩ = some (.int .i64 b) := bx.keep (a := ⟨w.heap.size + 1, 2, none⟩) (v := .int .i64 b) (by simp [go_sem])
  have k1_3 : World.cell? _ ⟨w.heap.size + 1, 3, none⟩ = some (.int .i64 lo) := bx.keep (a := ⟨w.heap.size + 1, 3, none⟩) (v := .int .i64 lo) (by simp [go_sem])
  have k1_4 : World.cell? _ ⟨w.heap.size + 1, 4, none⟩ = some (.int .i64 hi) := bx.keep (a := ⟨w.heap.size + 1, 4, none⟩) (v := .int .i64 hi) (by simp [go_sem])
  have k1_5 : World.cell? _ ⟨w.heap.size + 1, 5, none⟩ = some (.bool al) := bx.keep (a := ⟨w.heap.size + 1, 5, none⟩) (v := .bool al) (by simp [go_sem])
  have BX : Hid (Grw w _) := (((Grw.refl _).alloc _).alloc _).trans bx
  clear bx
  go_wp2_with fail
  refine (HB.out _).mono ?_
  rintro e wx2 ⟨rfl, bx⟩
  replace k0_0 := bx.keep k0_0
  replace k0_1 := bx.keep k0_1
  replace k0_2 := bx.keep k0_2
  replace k0_3 := bx.keep k0_3
  replace k0_4 := bx.keep k0_4
  replace k0_5 := bx.keep k0_5
  replace k1_0 := bx.keep k1_0
  replace k1_1 := bx.keep k1_1
  replace k1_2 := bx.keep k1_2
  replace k1_3 := bx.keep k1_3
  replace k1_4 := bx.keep k1_4
  replace k1_5 := bx.keep k1_5
  replace BX : Hid (Grw w _) := BX.out.trans bx
  clear bx
  go_wp2
  go_ret
  exact ⟨rfl, BX.out⟩

end Go.Proofs.YtlebblmlbhnppaaGreat

namespace Go.Proofs.YtlebblmlbhnppaaGreat
open Go.RowKit Go.PlainAid Go.Proofs.YtlebblmlbhnppaaGreat.Bt Go.Sort
set_option linter.unusedVariables false
set_option maxRecDepth 20000

theorem szRuleS_any (a : Option Addr) (len cap : Nat) (l : Int) (w : World) (hl : len ≤ 9223372036854775807) (h0 : 0 ≤ l) (h1 : l ≤ 1048576) :
    Calls Tryz.prog 177 #[.slice a len cap, .int .i64 l] w fun e w' => ∃ r : Int, e = .returned (.int .i64 r) ∧ (0 ≤ r → r = l - len) ∧ -1 ≤ r ∧ r ≤ 1048576 ∧ w' = w := by
  by_cases h : (len : Int) ≤ l
  · go_enter Tryz.func177, Tryz.ntmps177
    go_wp2
    go_ret
    exact ⟨_, rfl, fun _ => by omega, by omega, by omega, rfl⟩
  · go_enter Tryz.func177, Tryz.ntmps177
    go_wp2
    go_ret
    exact ⟨-1, rfl, fun h => absurd h (by omega), by omega, by omega, rfl⟩
theorem infoRule : (Tryz.prog.info? 202).map (fun i => (i.zero, i.size, i.bytes)) = some (some (.agg #[.int .i64 0, .int .i64 0, .int .i64 0, .int .i64 0, .int .i64 0, .bool false]), 6, 48) := by kernel_rfl
set_option maxHeartbeats 2000000 in
theorem toRuleS_any (a : Option Addr) (len cap : Nat) (xs : List RuleV) (w : World) (h : Rw RuR 6 w a xs) (hl : xs.length = len) (hc : len ≤ 1048576) :
    Calls Tryz.prog 183 #[.slice a len cap] w fun e w' => e = .returned (.slice (some ⟨w.heap.size, 0, none⟩) len len) ∧ Rw RuR 6 w' (some ⟨w.heap.size, 0, none⟩) xs ∧ Below w.heap.size w w' := by
  have RW : Hid (Rw RuR 6 w a xs) := h
  clear h
  obtain ⟨i0, hi, hz0, hz1, hz2⟩ := info_parts infoRule
  have hmk := run_make (P := Tryz.prog) w 139 202 i0 (.agg #[.int .i64 0, .int .i64 0, .int .i64 0, .int .i64 0, .int .i64 0, .bool false]) Tryz.underlying139 hi hz0 .i64 .i64 len len (by omega) (Int.le_refl _) (by rw [hz2]; omega) (by omega)
  rw [hz1, Int.toNat_natCast] at hmk
  have HM : Hid ((w.alloc (.cells (madeCells #[.int .i64 0, .int .i64 0, .int .i64 0, .int .i64 0, .int .i64 0, .bool false] (len * 6)) 202)).ownsRow w.heap.size 202 6 (.slice (some ⟨w.heap.size, 0, none⟩) len len) len (madeCells #[.int .i64 0, .int .i64 0, .int .i64 0, .int .i64 0, .int .i64 0, .bool false] (len * 6)).toList ∧ Below w.heap.size w (w.alloc (.cells (madeCells #[.int .i64 0, .int .i64 0, .int .i64 0, .int .i64 0, .int .i64 0, .bool false] (len * 6)) 202))) := ⟨owns_made w _ _ len 6 _ (Nat.le_refl _) (by unfold maxLen; omega), (Below.refl _ _).alloc (Nat.le_refl _) _⟩
  have hmk2 : (Instr.makeSlice 139 (.int .i64 (len : Int)) (.int .i64 (len : Int))).run Tryz.prog w = .ok (.slice (some ⟨w.heap.size, 0, none⟩) len len) (w.alloc (.cells (madeCells #[.int .i64 0, .int .i64 0, .int .i64 0, .int .i64 0, .int .i64 0, .bool false] (len * 6)) 202)) := hmk
  clear hmk hi hz0 hz1 hz2
  obtain ⟨W, hW⟩ : ∃ W, W = w.alloc (.cells (madeCells #[.int .i64 0, .int .i64 0, .int .i64 0, .int .i64 0, .int .i64 0, .bool false] (len * 6)) 202) := ⟨_, rfl⟩
  rw [← hW] at HM hmk2
  clear hW
  go_enter Tryz.func183, Tryz.ntmps183
  go_wp2
  go_loopw [4] (fun i wr => ∃ (k : Nat) (F : List Value), k ≤ len ∧ i = .int .i64 k ∧ Hid (wr.ownsRow w.heap.size 202 6 (.slice (some ⟨w.heap.size, 0, none⟩) len len) len F ∧ Cop RuR 6 wr F xs k ∧ Below w.heap.size w wr)) (fun i _ => len - (intOf i).toNat)
  case atStart => exact ⟨0, _, Nat.zero_le _, rfl, HM.out.1, Cop.zero, HM.out.2⟩
  case round =>
    obtain ⟨k, F, hk, rfl, X⟩ := hrel
    by_cases hlt : k < len
    · obtain ⟨x, hx⟩ := at_of hl hlt
      obtain ⟨b, off, vs, rfl, hb, hvl, hR, hc⟩ := RW.out.at RuR.kp X.out.2.2 hx
      obtain ⟨p, ip, bb, lo, hi, al⟩ := x
      obtain ⟨rfl, hlo, hhi⟩ := hR
      have q0 : wr.cell? ⟨b, off + k * 6, none⟩ = some (.int .i64 p) := hc 0 _ rfl
      have q1 : wr.cell? ⟨b, off + k * 6 + 1, none⟩ = some (.int .i64 ip) := hc 1 _ rfl
      have q2 : wr.cell? ⟨b, off + k * 6 + 2, none⟩ = some (.int .i64 bb) := hc 2 _ rfl
      have q3 : wr.cell? ⟨b, off + k * 6 + 3, none⟩ = some (.int .i64 lo) := hc 3 _ rfl
      have q4 : wr.cell? ⟨b, off + k * 6 + 4, none⟩ = some (.int .i64 hi) := hc 4 _ rfl
      have q5 : wr.cell? ⟨b, off + k * 6 + 5, none⟩ = some (.bool al) := hc 5 _ rfl
      have HT : Hid (∀ w, Calls Tryz.prog 231 #[.agg #[.int .i64 p, .int .i64 ip, .int .i64 bb, .int .i64 lo, .int .i64 hi, .bool al]] w fun e w' => e = .returned (.agg #[.int .i64 p, .int .i64 ip, .int .i64 bb, .int .i64 lo, .int .i64 hi, .bool al]) ∧ Below w.heap.size w w') := fun w => toRule_any _ _ _ _ _ _ w
      have hltz : (k : Int) < (len : Int) := by omega
      clear hc
      go_wp2_with fail
      refine (HT.out _).mono ?_
      rintro e w1 ⟨rfl, b1⟩
      have o1 := owns_now X.out.1 b1
      obtain ⟨⟨u0, c0⟩, z0⟩ := owns_cell o1 (j := 0) hlt (by omega)
      obtain ⟨⟨u1, c1⟩, z1⟩ := owns_cell o1 (j := 1) hlt (by omega)
      obtain ⟨⟨u2, c2⟩, z2⟩ := owns_cell o1 (j := 2) hlt (by omega)
      obtain ⟨⟨u3, c3⟩, z3⟩ := owns_cell o1 (j := 3) hlt (by omega)
      obtain ⟨⟨u4, c4⟩, z4⟩ := owns_cell o1 (j := 4) hlt (by omega)
      obtain ⟨⟨u5, c5⟩, z5⟩ := owns_cell o1 (j := 5) hlt (by omega)
      replace c0 : w1.cell? ⟨w.heap.size, k * 6, none⟩ = some u0 := c0
      replace z0 : w1.frozen? ⟨w.heap.size, k * 6, none⟩ = false := z0
      have Y0 : ∀ W1, W1 = (((((w1.setCell ⟨w.heap.size, k * 6, none⟩ (.int .i64 p)).setCell ⟨w.heap.size, k * 6 + 1, none⟩ (.int .i64 ip)).setCell ⟨w.heap.size, k * 6 + 2, none⟩ (.int .i64 bb)).setCell ⟨w.heap.size, k * 6 + 3, none⟩ (.int .i64 lo)).setCell ⟨w.heap.size, k * 6 + 4, none⟩ (.int .i64 hi)).setCell ⟨w.heap.size, k * 6 + 5, none⟩ (.bool al) → W1.ownsRow w.heap.size 202 6 (.slice (some ⟨w.heap.size, 0, none⟩) len len) len (sets F (k * 6) [.int .i64 p, .int .i64 ip, .int .i64 bb, .int .i64 lo, .int .i64 hi, .bool al]) ∧ Cop RuR 6 W1 (sets F (k * 6) [.int .i64 p, .int .i64 ip, .int .i64 bb, .int .i64 lo, .int .i64 hi, .bool al]) xs (k + 1) ∧ Below w.heap.size w W1 := by
        intro W1 hW1
        have h2 := owns_sets [.int .i64 p, .int .i64 ip, .int .i64 bb, .int .i64 lo, .int .i64 hi, .bool al] _ _ (k * 6) o1
        rw [wsets6, ← hW1] at h2
        have hF : k * 6 + 6 ≤ F.length := by
          rw [X.out.1.1]
          have : (k + 1) * 6 ≤ len * 6 := Nat.mul_le_mul_right _ hlt
          omega
        have c2 : Cop RuR 6 W1 F xs k := Cop.keep X.out.2.1 (fun x vs h => h)
        have c3 := Cop.step (vs := [.int .i64 p, .int .i64 ip, .int .i64 bb, .int .i64 lo, .int .i64 hi, .bool al]) c2 hx ⟨rfl, hlo, hhi⟩ rfl hF
        exact ⟨h2.1, c3, (X.out.2.2.trans (b1.mono X.out.2.2.size)).trans (below_row h2.2 (Nat.le_refl _) (Nat.le_trans X.out.2.2.size b1.size))⟩
      have Y : Hid (((((((w1.setCell ⟨w.heap.size, k * 6, none⟩ (.int .i64 p)).setCell ⟨w.heap.size, k * 6 + 1, none⟩ (.int .i64 ip)).setCell ⟨w.heap.size, k * 6 + 2, none⟩ (.int .i64 bb)).setCell ⟨w.heap.size, k * 6 + 3, none⟩ (.int .i64 lo)).setCell ⟨w.heap.size, k * 6 + 4, none⟩ (.int .i64 hi)).setCell ⟨w.heap.size, k * 6 + 5, none⟩ (.bool al)).ownsRow w.heap.size 202 6 (.slice (some ⟨w.heap.size, 0, none⟩) len len) len (sets F (k * 6) [.int .i64 p, .int .i64 ip, .int .i64 bb, .int .i64 lo, .int .i64 hi, .bool al]) ∧ Cop RuR 6 ((((((w1.setCell ⟨w.heap.size, k * 6, none⟩ (.int .i64 p)).setCell ⟨w.heap.size, k * 6 + 1, none⟩ (.int .i64 ip)).setCell ⟨w.heap.size, k * 6 + 2, none⟩ (.int .i64 bb)).setCell ⟨w.heap.size, k * 6 + 3, none⟩ (.int .i64 lo)).setCell ⟨w.heap.size, k * 6 + 4, none⟩ (.int .i64 hi)).setCell ⟨w.heap.size, k * 6 + 5, none⟩ (.bool al)) (sets F (k * 6) [.int .i64 p, .int .i64 ip, .int .i64 bb, .int .i64 lo, .int .i64 hi, .bool al]) xs (k + 1) ∧ Below w.heap.size w ((((((w1.setCell ⟨w.heap.size, k * 6, none⟩ (.int .i64 p)).setCell ⟨w.heap.size, k * 6 + 1, none⟩ (.int .i64 ip)).setCell ⟨w.heap.size, k * 6 + 2, none⟩ (.int .i64 bb)).setCell ⟨w.heap.size, k * 6 + 3, none⟩ (.int .i64 lo)).setCell ⟨w.heap.size, k * 6 + 4, none⟩ (.int .i64 hi)).setCell ⟨w.heap.size, k * 6 + 5, none⟩ (.bool al))) := Y0 _ rfl
      clear Y0
      clear o1 b1 q0 q1 q2 q3 q4 q5 HT X HM hmk2 hx
      go_wp2
      go_roundw
      case rel => exact ⟨k + 1, _, by omega, by go_num, Y⟩
      case measure => simp [intOf]; omega
    · obtain rfl : k = len := by omega
      go_wp2
      go_ret
      exact ⟨rfl, X.out.2.1.rw X.out.1 hl, X.out.2.2⟩
set_option maxHeartbeats 2000000 in
theorem eqRuleS_yes (a a' : Option Addr) (len cap cap' : Nat) (xs : List RuleV) (w : World) (h : Rw RuR 6 w a xs) (h' : Rw RuR 6 w a' xs) (hl : xs.length = len) (hlen : len ≤ 1048576) :
    Calls Tryz.prog 197 #[.slice a len cap, .slice a' len cap'] w fun e w' => e = .returned (.bool true) ∧ Grw w w' := by
  have hne : ((len : Int) != (len : Int)) = false := by simp
  have hmix : Tryz.prog.follows .mixedOrders = true := by kernel_rfl
  have RW : Hid (Rw RuR 6 w a xs) := h
  have RW' : Hid (Rw RuR 6 w a' xs) := h'
  clear h h'
  go_enter Tryz.func197, Tryz.ntmps197
  go_wp2
  go_loopw [5] (fun i wr => ∃ k : Nat, k ≤ len ∧ i = .int .i64 k ∧ Hid (Grw w wr)) (fun i _ => len - (intOf i).toNat)
  case atStart => exact ⟨0, Nat.zero_le _, rfl, Grw.refl w⟩
  case round =>
    obtain ⟨k, hk, rfl, HG⟩ := hrel
    by_cases hlt : k < len
    · obtain ⟨x, hx⟩ := at_of hl hlt
      obtain ⟨b, off, vs, rfl, hb, hvl, hR, hc⟩ := RW.out.at RuR.kp HG.out.below hx
      obtain ⟨b', off', vs', rfl, hb', hvl', hR', hc'⟩ := RW'.out.at RuR.kp HG.out.below hx
      obtain ⟨p, ip, bb, lo, hi, al⟩ := x
      obtain ⟨rfl, hlo, hhi⟩ := hR
      obtain ⟨rfl, -, -⟩ := hR'
      have q0 : ∀ n os, (grow (wr.drewN n) os).cell? ⟨b, off + k * 6, none⟩ = some (.int .i64 p) := fun n os => grown_cell hb HG.out (hc 0 _ rfl) n os
      have q1 : ∀ n os, (grow (wr.drewN n) os).cell? ⟨b, off + k * 6 + 1, none⟩ = some (.int .i64 ip) := fun n os => grown_cell hb HG.out (hc 1 _ rfl) n os
      have q2 : ∀ n os, (grow (wr.drewN n) os).cell? ⟨b, off + k * 6 + 2, none⟩ = some (.int .i64 bb) := fun n os => grown_cell hb HG.out (hc 2 _ rfl) n os
      have q3 : ∀ n os, (grow (wr.drewN n) os).cell? ⟨b, off + k * 6 + 3, none⟩ = some (.int .i64 lo) := fun n os => grown_cell hb HG.out (hc 3 _ rfl) n os
      have q4 : ∀ n os, (grow (wr.drewN n) os).cell? ⟨b, off + k * 6 + 4, none⟩ = some (.int .i64 hi) := fun n os => grown_cell hb HG.out (hc 4 _ rfl) n os
      have q5 : ∀ n os, (grow (wr.drewN n) os).cell? ⟨b, off + k * 6 + 5, none⟩ = some (.bool al) := fun n os => grown_cell hb HG.out (hc 5 _ rfl) n os
      have r0 : ∀ n os, (grow (wr.drewN n) os).cell? ⟨b', off' + k * 6, none⟩ = some (.int .i64 p) := fun n os => grown_cell hb' HG.out (hc' 0 _ rfl) n os
      have r1 : ∀ n os, (grow (wr.drewN n) os).cell? ⟨b', off' + k * 6 + 1, none⟩ = some (.int .i64 ip) := fun n os => grown_cell hb' HG.out (hc' 1 _ rfl) n os
      have r2 : ∀ n os, (grow (wr.drewN n) os).cell? ⟨b', off' + k * 6 + 2, none⟩ = some (.int .i64 bb) := fun n os => grown_cell hb' HG.out (hc' 2 _ rfl) n os
      have r3 : ∀ n os, (grow (wr.drewN n) os).cell? ⟨b', off' + k * 6 + 3, none⟩ = some (.int .i64 lo) := fun n os => grown_cell hb' HG.out (hc' 3 _ rfl) n os
      have r4 : ∀ n os, (grow (wr.drewN n) os).cell? ⟨b', off' + k * 6 + 4, none⟩ = some (.int .i64 hi) := fun n os => grown_cell hb' HG.out (hc' 4 _ rfl) n os
      have r5 : ∀ n os, (grow (wr.drewN n) os).cell? ⟨b', off' + k * 6 + 5, none⟩ = some (.bool al) := fun n os => grown_cell hb' HG.out (hc' 5 _ rfl) n os
      have HE : Hid (∀ w, Calls Tryz.prog 246 #[.agg #[.int .i64 p, .int .i64 ip, .int .i64 bb, .int .i64 lo, .int .i64 hi, .bool al], .agg #[.int .i64 p, .int .i64 ip, .int .i64 bb, .int .i64 lo, .int .i64 hi, .bool al]] w fun e w' => e = .returned (.bool true) ∧ Grw w w') := fun w => eqRule_any _ _ _ _ _ _ w
      have hltz : (k : Int) < (len : Int) := by omega
      clear hc hc'
      go_wp2_with fail
      refine wp_region_quiet_grown (by assumption) (by kernel_rfl) ?_
      repeat (go_big_quiet_step (first | fail | (go_at_call 246; exact Calls.grown_of (HE.out _))))
      refine wpQuiet_nil ?_
      intro _ hw'
      obtain ⟨⟨nq, osq⟩, hw''⟩ := hw'
      subst hw''
      have HG2 : Hid (Grw w (grow (wr.drewN nq) osq)) := HG.out.trans ⟨nq, osq, rfl⟩
      clear q0 q1 q2 q3 q4 q5 r0 r1 r2 r3 r4 r5 HG HE
      go_wp2
      go_roundw
      case rel => exact ⟨k + 1, by omega, by go_num, HG2⟩
      case measure => simp [intOf]; omega
    · obtain rfl : k = len := by omega
      go_wp2
      go_ret
      exact ⟨rfl, HG.out⟩

theorem rw_away {w : World} {a : Option Addr} {xs : List RuleV} (h : Rw RuR 6 w a xs) {p : Addr} (hp : ∀ b off, a = some ⟨b, off, none⟩ → b ≠ p.block) (v : Value) : Rw RuR 6 (w.setCell p v) a xs := by
  intro h0
  obtain ⟨b, off, rfl, hlt, hc⟩ := h h0
  refine ⟨b, off, rfl, by simpa using hlt, fun i x hx => ?_⟩
  obtain ⟨vs, h1, h2, h3⟩ := hc i x hx
  refine ⟨vs, h1, h2, fun j u hu => ?_⟩
  rw [World.cell?_of_block (w := w) (Below.heap_setCell w p v b (hp b off rfl))]
  exact h3 j u hu
set_option maxHeartbeats 1000000 in
theorem szRole_any (nm : ByteArray) (q m i : Int) (a : Option Addr) (len cap : Nat) (l : Int) (w : World) (hs : nm.size ≤ 9223372036854775807) (hl : len ≤ 9223372036854775807) (h0 : 0 ≤ l) (h1 : l ≤ 1048576) :
    Calls Tryz.prog 104 #[.agg #[.string nm, .slice a len cap, .int .i64 q, .int .i64 m, .int .i64 i], .int .i64 l] w fun e w' => ∃ r : Int, e = .returned (.int .i64 r) ∧ (0 ≤ r → r = l - nm.size - len) ∧ -1 ≤ r ∧ r ≤ 1048576 ∧ Grw w w' := by
  by_cases h : (nm.size : Int) ≤ l
  · have HC : Hid (∀ w, Calls Tryz.prog 177 #[.slice a len cap, .int .i64 (l - nm.size)] w fun e w' => ∃ r : Int, e = .returned (.int .i64 r) ∧ (0 ≤ r → r = l - nm.size - len) ∧ -1 ≤ r ∧ r ≤ 1048576 ∧ w' = w) := fun w => szRuleS_any a len cap _ w hl (by omega) (by omega)
    go_enter Tryz.func104, Tryz.ntmps104
    go_wp2_with fail
    refine (HC.out _).mono ?_
    rintro e w1 ⟨r, rfl, hr, hr1, hr2, rfl⟩
    by_cases hr0 : r < 0
    · go_wp2
      go_ret
      exact ⟨-1, rfl, fun h => absurd h (by omega), by omega, by omega, (Grw.refl _).alloc _⟩
    · go_wp2
      go_ret
      exact ⟨r, rfl, hr, by omega, by omega, (Grw.refl _).alloc _⟩
  · go_enter Tryz.func104, Tryz.ntmps104
    go_wp2
    go_ret
    exact ⟨-1, rfl, fun h => absurd h (by omega), by omega, by omega, (Grw.refl _).alloc _⟩

set_option maxHeartbeats 2000000 in
theorem toRole_any (nm : ByteArray) (rs : List RuleV) (q m i : Int) (a : Option Addr) (len cap : Nat) (w : World) (h : Rw RuR 6 w a rs) (hl : rs.length = len) (hc : len ≤ 1048576) :
    Calls Tryz.prog 115 #[.agg #[.string nm, .slice a len cap, .int .i64 q, .int .i64 m, .int .i64 i]] w fun e w' => ∃ a', e = .returned (.agg #[.string nm, .slice a' len len, .int .i64 q, .int .i64 m, .int .i64 i]) ∧ (∀ b off, a' = some ⟨b, off, none⟩ → w.heap.size ≤ b) ∧ Rw RuR 6 w' a' rs ∧ Below w.heap.size w w' := by
  have RW : Hid (Rw RuR 6 w a rs) := h
  have HA : Hid (∀ w, Rw RuR 6 w a rs → Calls Tryz.prog 183 #[.slice a len cap] w fun e w' => e = .returned (.slice (some ⟨w.heap.size, 0, none⟩) len len) ∧ Rw RuR 6 w' (some ⟨w.heap.size, 0, none⟩) rs ∧ Below w.heap.size w w') := fun w h => toRuleS_any a len cap rs w h hl hc
  clear h
  go_enter Tryz.func115, Tryz.ntmps115
  go_wp2_with fail
  refine (HA.out _ (RW.out.keep RuR.kp ((((Below.refl w.heap.size w).alloc (by simp <;> omega) _).alloc (by simp <;> omega) _).alloc (by simp <;> omega) _))).mono ?_
  rintro e wx1 ⟨rfl, hr, bx⟩
  have c1_0_0 : wx1.cell? ⟨w.heap.size, 0, none⟩ = some (.string nm) := bkeep bx (by simp [go_sem])
  have c1_0_1 : wx1.cell? ⟨w.heap.size, 1, none⟩ = some (.slice a len cap) := bkeep bx (by simp [go_sem])
  have c1_0_2 : wx1.cell? ⟨w.heap.size, 2, none⟩ = some (.int .i64 q) := bkeep bx (by simp [go_sem])
  have c1_0_3 : wx1.cell? ⟨w.heap.size, 3, none⟩ = some (.int .i64 m) := bkeep bx (by simp [go_sem])
  have c1_0_4 : wx1.cell? ⟨w.heap.size, 4, none⟩ = some (.int .i64 i) := bkeep bx (by simp [go_sem])
  have c1_1_0 : wx1.cell? ⟨w.heap.size + 1, 0, none⟩ = some (.string ⟨#[]⟩) := bkeep bx (by simp [go_sem])
  have f1_1_0 : wx1.frozen? ⟨w.heap.size + 1, 0, none⟩ = false := bthaw bx (v := .string ⟨#[]⟩) (by simp [go_sem]) (by simp [go_sem])
  have c1_1_1 : wx1.cell? ⟨w.heap.size + 1, 1, none⟩ = some (.slice none 0 0) := bkeep bx (by simp [go_sem])
  have f1_1_1 : wx1.frozen? ⟨w.heap.size + 1, 1, none⟩ = false := bthaw bx (v := .slice none 0 0) (by simp [go_sem]) (by simp [go_sem])
  have c1_1_2 : wx1.cell? ⟨w.heap.size + 1, 2, none⟩ = some (.int .i64 0) := bkeep bx (by simp [go_sem])
  have f1_1_2 : wx1.frozen? ⟨w.heap.size + 1, 2, none⟩ = false := bthaw bx (v := .int .i64 0) (by simp [go_sem]) (by simp [go_sem])
  have c1_1_3 : wx1.cell? ⟨w.heap.size + 1, 3, none⟩ = some (.int .i64 0) := bkeep bx (by simp [go_sem])
  have f1_1_3 : wx1.frozen? ⟨w.heap.size + 1, 3, none⟩ = false := bthaw bx (v := .int .i64 0) (by simp [go_sem]) (by simp [go_sem])
  have c1_1_4 : wx1.cell? ⟨w.heap.size + 1, 4, none⟩ = some (.int .i64 0) := bkeep bx (by simp [go_sem])
  have f1_1_4 : wx1.frozen? ⟨w.heap.size + 1, 4, none⟩ = false := bthaw bx (v := .int .i64 0) (by simp [go_sem]) (by simp [go_sem])
  have c1_2_0 : wx1.cell? ⟨w.heap.size + 1 + 1, 0, none⟩ = some (.string nm) := bkeep bx (by simp [go_sem])
  have f1_2_0 : wx1.frozen? ⟨w.heap.size + 1 + 1, 0, none⟩ = false := bthaw bx (v := .string nm) (by simp [go_sem]) (by simp [go_sem])
  have c1_2_1 : wx1.cell? ⟨w.heap.size + 1 + 1, 1, none⟩ = some (.slice none 0 0) := bkeep bx (by simp [go_sem])
  have f1_2_1 : wx1.frozen? ⟨w.heap.size + 1 + 1, 1, none⟩ = false := bthaw bx (v := .slice none 0 0) (by simp [go_sem]) (by simp [go_sem])
  have c1_2_2 : wx1.cell? ⟨w.heap.size + 1 + 1, 2, none⟩ = some (.int .i64 0) := bkeep bx (by simp [go_sem])
  have f1_2_2 : wx1.frozen? ⟨w.heap.size + 1 + 1, 2, none⟩ = false := bthaw bx (v := .int .i64 0) (by simp [go_sem]) (by simp [go_sem])
  have c1_2_3 : wx1.cell? ⟨w.heap.size + 1 + 1, 3, none⟩ = some (.int .i64 0) := bkeep bx (by simp [go_sem])
  have f1_2_3 : wx1.frozen? ⟨w.heap.size + 1 + 1, 3, none⟩ = false := bthaw bx (v := .int .i64 0) (by simp [go_sem]) (by simp [go_sem])
  have c1_2_4 : wx1.cell? ⟨w.heap.size + 1 + 1, 4, none⟩ = some (.int .i64 0) := bkeep bx (by simp [go_sem])
  have f1_2_4 : wx1.frozen? ⟨w.heap.size + 1 + 1, 4, none⟩ = false := bthaw bx (v := .int .i64 0) (by simp [go_sem]) (by simp [go_sem])
  have BX1 : Hid (Below w.heap.size w wx1) := ((((Below.refl w.heap.size w).alloc (by simp <;> omega) _).alloc (by simp <;> omega) _).alloc (by simp <;> omega) _).trans (bx.mono (by simp <;> omega))
  clear bx
  simp [go_sem] at hr
  have HR : Hid (Rw RuR 6 wx1 (some ⟨w.heap.size + 1 + 1 + 1, 0, none⟩) rs) := hr
  clear hr
  go_wp2
  (try simp only [Exit.inBlock, Exit.then])
  refine bodyPost_ret (v := .agg #[.string nm, .slice (some ⟨w.heap.size + 1 + 1 + 1, 0, none⟩) len len, .int .i64 q, .int .i64 m, .int .i64 i]) (by simp [results, Tryz.results115, go_sem, c1_1_0, c1_1_1, c1_1_2, c1_1_3, c1_1_4]; try rfl) rfl ?_
  refine ⟨_, rfl, (fun b off e => by cases e; omega), ?_, (((((((((BX1.out.setCell (p := ⟨w.heap.size + 1 + 1, _, _⟩) (by show w.heap.size ≤ w.heap.size + 1 + 1; omega) _).setCell (p := ⟨w.heap.size + 1 + 1, _, _⟩) (by show w.heap.size ≤ w.heap.size + 1 + 1; omega) _).setCell (p := ⟨w.heap.size + 1 + 1, _, _⟩) (by show w.heap.size ≤ w.heap.size + 1 + 1; omega) _).setCell (p := ⟨w.heap.size + 1 + 1, _, _⟩) (by show w.heap.size ≤ w.heap.size + 1 + 1; omega) _).setCell (p := ⟨w.heap.size + 1, _, _⟩) (by show w.heap.size ≤ w.heap.size + 1; omega) _).setCell (p := ⟨w.heap.size + 1, _, _⟩) (by show w.heap.size ≤ w.heap.size + 1; omega) _).setCell (p := ⟨w.heap.size + 1, _, _⟩) (by show w.heap.size ≤ w.heap.size + 1; omega) _).setCell (p := ⟨w.heap.size + 1, _, _⟩) (by show w.heap.size ≤ w.heap.size + 1; omega) _).setCell (p := ⟨w.heap.size + 1, _, _⟩) (by show w.heap.size ≤ w.heap.size + 1; omega) _)⟩
  
  repeat (refine rw_away ?_ (fun b off e => by cases e; simp <;> omega) _)
  exact HR.out

set_option maxHeartbeats 1000000 in
theorem eqRole_yes (nm : ByteArray) (rs : List RuleV) (q m i : Int) (a a' : Option Addr) (len cap cap' : Nat) (w : World) (h : Rw RuR 6 w a rs) (h' : Rw RuR 6 w a' rs) (hl : rs.length = len) (hc : len ≤ 1048576) :
    Calls Tryz.prog 134 #[.agg #[.string nm, .slice a len cap, .int .i64 q, .int .i64 m, .int .i64 i], .agg #[.string nm, .slice a' len cap', .int .i64 q, .int .i64 m, .int .i64 i]] w fun e w' => e = .returned (.bool true) ∧ Grw w w' := by
  have RW : Hid (Rw RuR 6 w a rs) := h
  have RW' : Hid (Rw RuR 6 w a' rs) := h'
  have HA : Hid (∀ w, Rw RuR 6 w a rs → Rw RuR 6 w a' rs → Calls Tryz.prog 197 #[.slice a len cap, .slice a' len cap'] w fun e w' => e = .returned (.bool true) ∧ Grw w w') := fun w h h' => eqRuleS_yes a a' len cap cap' rs w h h' hl hc
  clear h h'
  have h0 : (nm.toList == nm.toList) = true := by simp
  have h1 : (q != q) = false := by simp
  have h2 : (m != m) = false := by simp
  have h3 : (i != i) = false := by simp
  go_enter Tryz.func134, Tryz.ntmps134
  go_wp2_with fail
  refine (HA.out _ (RW.out.keep RuR.kp (((Grw.refl w).alloc _).alloc _).below) (RW'.out.keep RuR.kp (((Grw.refl w).alloc _).alloc _).below)).mono ?_
  rintro e wx1 ⟨rfl, bx⟩
  have k0_0 : World.cell? _ ⟨w.heap.size, 0, none⟩ = some (.string nm) := bx.keep (a := ⟨w.heap.size, 0, none⟩) (v := .string nm) (by simp [go_sem])
  have k0_1 : World.cell? _ ⟨w.heap.size, 1, none⟩ = some (.slice a len cap) := bx.keep (a := ⟨w.heap.size, 1, none⟩) (v := .slice a len cap) (by simp [go_sem])
  have k0_2 : World.cell? _ ⟨w.heap.size, 2, none⟩ = some (.int .i64 q) := bx.keep (a := ⟨w.heap.size, 2, none⟩) (v := .int .i64 q) (by simp [go_sem])
  have k0_3 : World.cell? _ ⟨w.heap.size, 3, none⟩ = some (.int .i64 m) := bx.keep (a := ⟨w.heap.size, 3, none⟩) (v := .int .i64 m) (by simp [go_sem])
  have k0_4 : World.cell? _ ⟨w.heap.size, 4, none⟩ = some (.int .i64 i) := bx.keep (a := ⟨w.heap.size, 4, none⟩) (v := .int .i64 i) (by simp [go_sem])
  have k1_0 : World.cell? _ ⟨w.heap.size + 1, 0, none⟩ = some (.string nm) := bx.keep (a := ⟨w.heap.size + 1, 0, none⟩) (v := .string nm) (by simp [go_sem])
  have k1_1 : World.cell? _ ⟨w.heap.size + 1, 1, none⟩ = some (.slice a' len cap') := bx.keep (a := ⟨w.heap.size + 1, 1, none⟩) (v := .slice a' len cap') (by simp [go_sem])
  have k1_2 : World.cell? _ ⟨w.heap.size + 1, 2, none⟩ = some (.int .i64 q) := bx.keep (a := ⟨w.heap.size + 1, 2, none⟩) (v := .int .i64 q) (by simp [go_sem])
  have k1_3 : World.cell? _ ⟨w.heap.size + 1, 3, none⟩ = some (.int .i64 m) := bx.keep (a := ⟨w.heap.size + 1, 3, none⟩) (v := .int .i64 m) (by simp [go_sem])
  have k1_4 : World.cell? _ ⟨w.heap.size + 1, 4, none⟩ = some (.int .i64 i) := bx.keep (a := ⟨w.heap.size + 1, 4, none⟩) (v := .int .i64 i) (by simp [go_sem])
  have BX : Hid (Grw w _) := (((Grw.refl _).alloc _).alloc _).trans bx
  clear bx
  go_wp2
  go_ret
  exact ⟨rfl, BX.out⟩

end Go.Proofs.YtlebblmlbhnppaaGreat

namespace Go.Proofs.YtlebblmlbhnppaaGreat
open Go.RowKit Go.PlainAid Go.Proofs.YtlebblmlbhnppaaGreat.Bt Go.Sort
set_option linter.unusedVariables false
set_option maxRecDepth 20000

set_option maxHeartbeats 1000000 in
theorem toPlace_any (ip b lo hi : Int) (w : World) :
    Calls Tryz.prog 114 #[.agg #[.int .i64 ip, .int .i64 b, .int .i64 lo, .int .i64 hi]] w fun e w' => e = .returned (.agg #[.int .i64 ip, .int .i64 b, .int .i64 lo, .int .i64 hi]) ∧ Below w.heap.size w w' := by
  have HA : Hid (∀ w, Calls Tryz.prog 42 #[.agg #[.int .i64 ip, .int .i64 b]] w fun e w' => e = .returned (.agg #[.int .i64 ip, .int .i64 b]) ∧ Below w.heap.size w w') := fun w => toNet2 ip b w
  have HB : Hid (∀ w, Calls Tryz.prog 182 #[.agg #[.int .i64 lo, .int .i64 hi]] w fun e w' => e = .returned (.agg #[.int .i64 lo, .int .i64 hi]) ∧ Below w.heap.size w w') := fun w => toRange2 lo hi w
  go_enter Tryz.func114, Tryz.ntmps114
  go_wp2_with fail
  refine (HA.out _).mono ?_
  rintro e wx1 ⟨rfl, bx⟩
  have c1_0_0 : wx1.cell? ⟨w.heap.size, 0, none⟩ = some (.int .i64 ip) := bkeep bx (by simp [go_sem])
  have c1_0_1 : wx1.cell? ⟨w.heap.size, 1, none⟩ = some (.int .i64 b) := bkeep bx (by simp [go_sem])
  have c1_0_2 : wx1.cell? ⟨w.heap.size, 2, none⟩ = some (.int .i64 lo) := bkeep bx (by simp [go_sem])
  have c1_0_3 : wx1.cell? ⟨w.heap.size, 3, none⟩ = some (.int .i64 hi) := bkeep bx (by simp [go_sem])
  have c1_1_0 : wx1.cell? ⟨w.heap.size + 1, 0, none⟩ = some (.int .i64 0) := bkeep bx (by simp [go_sem])
  have f1_1_0 : wx1.frozen? ⟨w.heap.size + 1, 0, none⟩ = false := bthaw bx (v := .int .i64 0) (by simp [go_sem]) (by simp [go_sem])
  have c1_1_1 : wx1.cell? ⟨w.heap.size + 1, 1, none⟩ = some (.int .i64 0) := bkeep bx (by simp [go_sem])
  have f1_1_1 : wx1.frozen? ⟨w.heap.size + 1, 1, none⟩ = false := bthaw bx (v := .int .i64 0) (by simp [go_sem]) (by simp [go_sem])
  have c1_1_2 : wx1.cell? ⟨w.heap.size + 1, 2, none⟩ = some (.int .i64 0) := bkeep bx (by simp [go_sem])
  have f1_1_2 : wx1.frozen? ⟨w.heap.size + 1, 2, none⟩ = false := bthaw bx (v := .int .i64 0) (by simp [go_sem]) (by simp [go_sem])
  have c1_1_3 : wx1.cell? ⟨w.heap.size + 1, 3, none⟩ = some (.int .i64 0) := bkeep bx (by simp [go_sem])
  have f1_1_3 : wx1.frozen? ⟨w.heap.size + 1, 3, none⟩ = false := bthaw bx (v := .int .i64 0) (by simp [go_sem]) (by simp [go_sem])
  have c1_2_0 : wx1.cell? ⟨w.heap.size + 1 + 1, 0, none⟩ = some (.int .i64 0) := bkeep bx (by simp [go_sem])
  have f1_2_0 : wx1.frozen? ⟨w.heap.size + 1 + 1, 0, none⟩ = false := bthaw bx (v := .int .i64 0) (by simp [go_sem]) (by simp [go_sem])
  have c1_2_1 : wx1.cell? ⟨w.heap.size + 1 + 1, 1, none⟩ = some (.int .i64 0) := bkeep bx (by simp [go_sem])
  have f1_2_1 : wx1.frozen? ⟨w.heap.size + 1 + 1, 1, none⟩ = false := bthaw bx (v := .int .i64 0) (by simp [go_sem]) (by simp [go_sem])
  have c1_2_2 : wx1.cell? ⟨w.heap.size + 1 + 1, 2, none⟩ = some (.int .i64 0) := bkeep bx (by simp [go_sem])
  have f1_2_2 : wx1.frozen? ⟨w.heap.size + 1 + 1, 2, none⟩ = false := bthaw bx (v := .int .i64 0) (by simp [go_sem]) (by simp [go_sem])
  have c1_2_3 : wx1.cell? ⟨w.heap.size + 1 + 1, 3, none⟩ = some (.int .i64 0) := bkeep bx (by simp [go_sem])
  have f1_2_3 : wx1.frozen? ⟨w.heap.size + 1 + 1, 3, none⟩ = false := bthaw bx (v := .int .i64 0) (by simp [go_sem]) (by simp [go_sem])
  have BX1 : Hid (Below w.heap.size w wx1) := ((((Below.refl w.heap.size w).alloc (by simp <;> omega) _).alloc (by simp <;> omega) _).alloc (by simp <;> omega) _).trans (bx.mono (by simp <;> omega))
  clear bx
  go_wp2_with fail
  refine (HB.out _).mono ?_
  rintro e wx2 ⟨rfl, bx⟩
  have c2_0_0 : wx2.cell? ⟨w.heap.size, 0, none⟩ = some (.int .i64 ip) := bkeep bx (by first | (simp [go_sem]; done) | simp [go_sem, c1_0_0])
  have c2_0_1 : wx2.cell? ⟨w.heap.size, 1, none⟩ = some (.int .i64 b) := bkeep bx (by first | (simp [go_sem]; done) | simp [go_sem, c1_0_1])
  have c2_0_2 : wx2.cell? ⟨w.heap.size, 2, none⟩ = some (.int .i64 lo) := bkeep bx (by first | (simp [go_sem]; done) | simp [go_sem, c1_0_2])
  have c2_0_3 : wx2.cell? ⟨w.heap.size, 3, none⟩ = some (.int .i64 hi) := bkeep bx (by first | (simp [go_sem]; done) | simp [go_sem, c1_0_3])
  have c2_1_0 : wx2.cell? ⟨w.heap.size + 1, 0, none⟩ = some (.int .i64 0) := bkeep bx (by first | (simp [go_sem]; done) | simp [go_sem, c1_1_0])
  have f2_1_0 : wx2.frozen? ⟨w.heap.size + 1, 0, none⟩ = false := bthaw bx (v := .int .i64 0) (by first | (simp [go_sem]; done) | simp [go_sem, c1_1_0]) (by first | (simp [go_sem]; done) | simp [go_sem, f1_1_0])
  have c2_1_1 : wx2.cell? ⟨w.heap.size + 1, 1, none⟩ = some (.int .i64 0) := bkeep bx (by first | (simp [go_sem]; done) | simp [go_sem, c1_1_1])
  have f2_1_1 : wx2.frozen? ⟨w.heap.size + 1, 1, none⟩ = false := bthaw bx (v := .int .i64 0) (by first | (simp [go_sem]; done) | simp [go_sem, c1_1_1]) (by first | (simp [go_sem]; done) | simp [go_sem, f1_1_1])
  have c2_1_2 : wx2.cell? ⟨w.heap.size + 1, 2, none⟩ = some (.int .i64 0) := bkeep bx (by first | (simp [go_sem]; done) | simp [go_sem, c1_1_2])
  have f2_1_2 : wx2.frozen? ⟨w.heap.size + 1, 2, none⟩ = false := bthaw bx (v := .int .i64 0) (by first | (simp [go_sem]; done) | simp [go_sem, c1_1_2]) (by first | (simp [go_sem]; done) | simp [go_sem, f1_1_2])
  have c2_1_3 : wx2.cell? ⟨w.heap.size + 1, 3, none⟩ = some (.int .i64 0) := bkeep bx (by first | (simp [go_sem]; done) | simp [go_sem, c1_1_3])
  have f2_1_3 : wx2.frozen? ⟨w.heap.size + 1, 3, none⟩ = false := bthaw bx (v := .int .i64 0) (by first | (simp [go_sem]; done) | simp [go_sem, c1_1_3]) (by first | (simp [go_sem]; done) | simp [go_sem, f1_1_3])
  have c2_2_0 : wx2.cell? ⟨w.heap.size + 1 + 1, 0, none⟩ = some (.int .i64 ip) := bkeep bx (by first | (simp [go_sem]; done) | simp [go_sem, c1_2_0])
  have f2_2_0 : wx2.frozen? ⟨w.heap.size + 1 + 1, 0, none⟩ = false := bthaw bx (v := .int .i64 ip) (by first | (simp [go_sem]; done) | simp [go_sem, c1_2_0]) (by first | (simp [go_sem]; done) | simp [go_sem, f1_2_0])
  have c2_2_1 : wx2.cell? ⟨w.heap.size + 1 + 1, 1, none⟩ = some (.int .i64 b) := bkeep bx (by first | (simp [go_sem]; done) | simp [go_sem, c1_2_1])
  have f2_2_1 : wx2.frozen? ⟨w.heap.size + 1 + 1, 1, none⟩ = false := bthaw bx (v := .int .i64 b) (by first | (simp [go_sem]; done) | simp [go_sem, c1_2_1]) (by first | (simp [go_sem]; done) | simp [go_sem, f1_2_1])
  have c2_2_2 : wx2.cell? ⟨w.heap.size + 1 + 1, 2, none⟩ = some (.int .i64 0) := bkeep bx (by first | (simp [go_sem]; done) | simp [go_sem, c1_2_2])
  have f2_2_2 : wx2.frozen? ⟨w.heap.size + 1 + 1, 2, none⟩ = false := bthaw bx (v := .int .i64 0) (by first | (simp [go_sem]; done) | simp [go_sem, c1_2_2]) (by first | (simp [go_sem]; done) | simp [go_sem, f1_2_2])
  have c2_2_3 : wx2.cell? ⟨w.heap.size + 1 + 1, 3, none⟩ = some (.int .i64 0) := bkeep bx (by first | (simp [go_sem]; done) | simp [go_sem, c1_2_3])
  have f2_2_3 : wx2.frozen? ⟨w.heap.size + 1 + 1, 3, none⟩ = false := bthaw bx (v := .int .i64 0) (by first | (simp [go_sem]; done) | simp [go_sem, c1_2_3]) (by first | (simp [go_sem]; done) | simp [go_sem, f1_2_3])
  have BX2 : Hid (Below w.heap.size w wx2) := ((BX1.out.setCell (p := ⟨w.heap.size + 1 + 1, _, _⟩) (by show w.heap.size ≤ w.heap.size + 1 + 1; omega) _).setCell (p := ⟨w.heap.size + 1 + 1, _, _⟩) (by show w.heap.size ≤ w.heap.size + 1 + 1; omega) _).trans (bx.mono (by have := BX1.out.size; simp <;> omega))
  clear bx c1_0_0 c1_0_1 c1_0_2 c1_0_3 c1_1_0 c1_1_1 c1_1_2 c1_1_3 c1_2_0 c1_2_1 c1_2_2 c1_2_3 f1_1_0 f1_1_1 f1_1_2 f1_1_3 f1_2_0 f1_2_1 f1_2_2 f1_2_3 BX1
  go_wp2
  (try simp only [Exit.inBlock, Exit.then])
  refine bodyPost_ret (v := .agg #[.int .i64 ip, .int .i64 b, .int .i64 lo, .int .i64 hi]) (by simp [results, Tryz.results114, go_sem, c2_1_0, c2_1_1, c2_1_2, c2_1_3]; try rfl) rfl ?_
  exact ⟨rfl, ((((((BX2.out.setCell (p := ⟨w.heap.size + 1 + 1, _, _⟩) (by show w.heap.size ≤ w.heap.size + 1 + 1; omega) _).setCell (p := ⟨w.heap.size + 1 + 1, _, _⟩) (by show w.heap.size ≤ w.heap.size + 1 + 1; omega) _).setCell (p := ⟨w.heap.size + 1, _, _⟩) (by show w.heap.size ≤ w.heap.size + 1; omega) _).setCell (p := ⟨w.heap.size + 1, _, _⟩) (by show w.heap.size ≤ w.heap.size + 1; omega) _).setCell (p := ⟨w.heap.size + 1, _, _⟩) (by show w.heap.size ≤ w.heap.size + 1; omega) _).setCell (p := ⟨w.heap.size + 1, _, _⟩) (by show w.heap.size ≤ w.heap.size + 1; omega) _)⟩

set_option maxHeartbeats 1000000 in
theorem eqPlace_any (ip b lo hi : Int) (w : World) :
    Calls Tryz.prog 133 #[.agg #[.int .i64 ip, .int .i64 b, .int .i64 lo, .int .i64 hi], .agg #[.int .i64 ip, .int .i64 b, .int .i64 lo, .int .i64 hi]] w fun e w' => e = .returned (.bool true) ∧ Grw w w' := by
  have HA : Hid (∀ w, Calls Tryz.prog 53 #[.agg #[.int .i64 ip, .int .i64 b], .agg #[.int .i64 ip, .int .i64 b]] w fun e w' => e = .returned (.bool true) ∧ Grw w w') := fun w => eqNet2 ip b w
  have HB : Hid (∀ w, Calls Tryz.prog 196 #[.agg #[.int .i64 lo, .int .i64 hi], .agg #[.int .i64 lo, .int .i64 hi]] w fun e w' => e = .returned (.bool true) ∧ Grw w w') := fun w => eqRange2 lo hi w
  go_enter Tryz.func133, Tryz.ntmps133
  go_wp2_with fail
  refine (HA.out _).mono ?_
  rintro e wx1 ⟨rfl, bx⟩
  have k0_0 : World.cell? _ ⟨w.heap.size, 0, none⟩ = some (.int .i64 ip) := bx.keep (a := ⟨w.heap.size, 0, none⟩) (v := .int .i64 ip) (by simp [go_sem])
  have k0_1 : World.cell? _ ⟨w.heap.size, 1, none⟩ = some (.int .i64 b) := bx.keep (a := ⟨w.heap.size, 1, none⟩) (v := .int .i64 b) (by simp [go_sem])
  have k0_2 : World.cell? _ ⟨w.heap.size, 2, none⟩ = some (.int .i64 lo) := bx.keep (a := ⟨w.heap.size, 2, none⟩) (v := .int .i64 lo) (by simp [go_sem])
  have k0_3 : World.cell? _ ⟨w.heap.size, 3, none⟩ = some (.int .i64 hi) := bx.keep (a := ⟨w.heap.size, 3, none⟩) (v := .int .i64 hi) (by simp [go_sem])
  have k1_0 : World.cell? _ ⟨w.heap.size + 1, 0, none⟩ = some (.int .i64 ip) := bx.keep (a := ⟨w.heap.size + 1, 0, none⟩) (v := .int .i64 ip) (by simp [go_sem])
  have k1_1 : World.cell? _ ⟨w.heap.size + 1, 1, none⟩ = some (.int .i64 b) := bx.keep (a := ⟨w.heap.size + 1, 1, none⟩) (v := .int .i64 b) (by simp [go_sem])
  have k1_2 : World.cell? _ ⟨w.heap.size + 1, 2, none⟩ = some (.int .i64 lo) := bx.keep (a := ⟨w.heap.size + 1, 2, none⟩) (v := .int .i64 lo) (by simp [go_sem])
  have k1_3 : World.cell? _ ⟨w.heap.size + 1, 3, none⟩ = some (.int .i64 hi) := bx.keep (a := ⟨w.heap.size + 1, 3, none⟩) (v := .int .i64 hi) (by simp [go_sem])
  have BX : Hid (Grw w _) := (((Grw.refl _).alloc _).alloc _).trans bx
  clear bx
  go_wp2_with fail
  refine (HB.out _).mono ?_
  rintro e wx2 ⟨rfl, bx⟩
  replace k0_0 := bx.keep k0_0
  replace k0_1 := bx.keep k0_1
  replace k0_2 := bx.keep k0_2
  replace k0_3 := bx.keep k0_3
  replace k1_0 := bx.keep k1_0
  replace k1_1 := bx.keep k1_1
  replace k1_2 := bx.keep k1_2
  replace k1_3 := bx.keep k1_3
  replace BX : Hid (Grw w _) := BX.out.trans bx
  clear bx
  go_wp2
  go_ret
  exact ⟨rfl, BX.out⟩

theorem szPlaceS_any (a : Option Addr) (len cap : Nat) (l : Int) (w : World) (hl : len ≤ 9223372036854775807) (h0 : 0 ≤ l) (h1 : l ≤ 1048576) :
    Calls Tryz.prog 34 #[.slice a len cap, .int .i64 l] w fun e w' => ∃ r : Int, e = .returned (.int .i64 r) ∧ (0 ≤ r → r = l - len) ∧ -1 ≤ r ∧ r ≤ 1048576 ∧ w' = w := by
  by_cases h : (len : Int) ≤ l
  · go_enter Tryz.func34, Tryz.ntmps34
    go_wp2
    go_ret
    exact ⟨_, rfl, fun _ => by omega, by omega, by omega, rfl⟩
  · go_enter Tryz.func34, Tryz.ntmps34
    go_wp2
    go_ret
    exact ⟨-1, rfl, fun h => absurd h (by omega), by omega, by omega, rfl⟩
theorem infoPlace : (Tryz.prog.info? 185).map (fun i => (i.zero, i.size, i.bytes)) = some (some (.agg #[.int .i64 0, .int .i64 0, .int .i64 0, .int .i64 0]), 4, 32) := by kernel_rfl
set_option maxHeartbeats 2000000 in
theorem toPlaceS_any (a : Option Addr) (len cap : Nat) (xs : List PlaceV) (w : World) (h : Rw PlR 4 w a xs) (hl : xs.length = len) (hc : len ≤ 1048576) :
    Calls Tryz.prog 43 #[.slice a len cap] w fun e w' => e = .returned (.slice (some ⟨w.heap.size, 0, none⟩) len len) ∧ Rw PlR 4 w' (some ⟨w.heap.size, 0, none⟩) xs ∧ Below w.heap.size w w' := by
  have RW : Hid (Rw PlR 4 w a xs) := h
  clear h
  obtain ⟨i0, hi, hz0, hz1, hz2⟩ := info_parts infoPlace
  have hmk := run_make (P := Tryz.prog) w 37 185 i0 (.agg #[.int .i64 0, .int .i64 0, .int .i64 0, .int .i64 0]) Tryz.underlying37 hi hz0 .i64 .i64 len len (by omega) (Int.le_refl _) (by rw [hz2]; omega) (by omega)
  rw [hz1, Int.toNat_natCast] at hmk
  have HM : Hid ((w.alloc (.cells (madeCells #[.int .i64 0, .int .i64 0, .int .i64 0, .int .i64 0] (len * 4)) 185)).ownsRow w.heap.size 185 4 (.slice (some ⟨w.heap.size, 0, none⟩) len len) len (madeCells #[.int .i64 0, .int .i64 0, .int .i64 0, .int .i64 0] (len * 4)).toList ∧ Below w.heap.size w (w.alloc (.cells (madeCells #[.int .i64 0, .int .i64 0, .int .i64 0, .int .i64 0] (len * 4)) 185))) := ⟨owns_made w _ _ len 4 _ (Nat.le_refl _) (by unfold maxLen; omega), (Below.refl _ _).alloc (Nat.le_refl _) _⟩
  have hmk2 : (Instr.makeSlice 37 (.int .i64 (len : Int)) (.int .i64 (len : Int))).run Tryz.prog w = .ok (.slice (some ⟨w.heap.size, 0, none⟩) len len) (w.alloc (.cells (madeCells #[.int .i64 0, .int .i64 0, .int .i64 0, .int .i64 0] (len * 4)) 185)) := hmk
  clear hmk hi hz0 hz1 hz2
  obtain ⟨W, hW⟩ : ∃ W, W = w.alloc (.cells (madeCells #[.int .i64 0, .int .i64 0, .int .i64 0, .int .i64 0] (len * 4)) 185) := ⟨_, rfl⟩
  rw [← hW] at HM hmk2
  clear hW
  go_enter Tryz.func43, Tryz.ntmps43
  go_wp2
  go_loopw [4] (fun i wr => ∃ (k : Nat) (F : List Value), k ≤ len ∧ i = .int .i64 k ∧ Hid (wr.ownsRow w.heap.size 185 4 (.slice (some ⟨w.heap.size, 0, none⟩) len len) len F ∧ Cop PlR 4 wr F xs k ∧ Below w.heap.size w wr)) (fun i _ => len - (intOf i).toNat)
  case atStart => exact ⟨0, _, Nat.zero_le _, rfl, HM.out.1, Cop.zero, HM.out.2⟩
  case round =>
    obtain ⟨k, F, hk, rfl, X⟩ := hrel
    by_cases hlt : k < len
    · obtain ⟨x, hx⟩ := at_of hl hlt
      obtain ⟨b, off, vs, rfl, hb, hvl, hR, hc⟩ := RW.out.at PlR.kp X.out.2.2 hx
      obtain ⟨ip, bb, lo, hi⟩ := x
      obtain ⟨rfl, hlo, hhi⟩ := hR
      have q0 : wr.cell? ⟨b, off + k * 4, none⟩ = some (.int .i64 ip) := hc 0 _ rfl
      have q1 : wr.cell? ⟨b, off + k * 4 + 1, none⟩ = some (.int .i64 bb) := hc 1 _ rfl
      have q2 : wr.cell? ⟨b, off + k * 4 + 2, none⟩ = some (.int .i64 lo) := hc 2 _ rfl
      have q3 : wr.cell? ⟨b, off + k * 4 + 3, none⟩ = some (.int .i64 hi) := hc 3 _ rfl
      have HT : Hid (∀ w, Calls Tryz.prog 114 #[.agg #[.int .i64 ip, .int .i64 bb, .int .i64 lo, .int .i64 hi]] w fun e w' => e = .returned (.agg #[.int .i64 ip, .int .i64 bb, .int .i64 lo, .int .i64 hi]) ∧ Below w.heap.size w w') := fun w => toPlace_any _ _ _ _ w
      have hltz : (k : Int) < (len : Int) := by omega
      clear hc
      go_wp2_with fail
      refine (HT.out _).mono ?_
      rintro e w1 ⟨rfl, b1⟩
      have o1 := owns_now X.out.1 b1
      obtain ⟨⟨u0, c0⟩, z0⟩ := owns_cell o1 (j := 0) hlt (by omega)
      obtain ⟨⟨u1, c1⟩, z1⟩ := owns_cell o1 (j := 1) hlt (by omega)
      obtain ⟨⟨u2, c2⟩, z2⟩ := owns_cell o1 (j := 2) hlt (by omega)
      obtain ⟨⟨u3, c3⟩, z3⟩ := owns_cell o1 (j := 3) hlt (by omega)
      replace c0 : w1.cell? ⟨w.heap.size, k * 4, none⟩ = some u0 := c0
      replace z0 : w1.frozen? ⟨w.heap.size, k * 4, none⟩ = false := z0
      have Y0 : ∀ W1, W1 = (((w1.setCell ⟨w.heap.size, k * 4, none⟩ (.int .i64 ip)).setCell ⟨w.heap.size, k * 4 + 1, none⟩ (.int .i64 bb)).setCell ⟨w.heap.size, k * 4 + 2, none⟩ (.int .i64 lo)).setCell ⟨w.heap.size, k * 4 + 3, none⟩ (.int .i64 hi) → W1.ownsRow w.heap.size 185 4 (.slice (some ⟨w.heap.size, 0, none⟩) len len) len (sets F (k * 4) [.int .i64 ip, .int .i64 bb, .int .i64 lo, .int .i64 hi]) ∧ Cop PlR 4 W1 (sets F (k * 4) [.int .i64 ip, .int .i64 bb, .int .i64 lo, .int .i64 hi]) xs (k + 1) ∧ Below w.heap.size w W1 := by
        intro W1 hW1
        have h2 := owns_sets [.int .i64 ip, .int .i64 bb, .int .i64 lo, .int .i64 hi] _ _ (k * 4) o1
        rw [wsets4, ← hW1] at h2
        have hF : k * 4 + 4 ≤ F.length := by
          rw [X.out.1.1]
          have : (k + 1) * 4 ≤ len * 4 := Nat.mul_le_mul_right _ hlt
          omega
        have c2 : Cop PlR 4 W1 F xs k := Cop.keep X.out.2.1 (fun x vs h => h)
        have c3 := Cop.step (vs := [.int .i64 ip, .int .i64 bb, .int .i64 lo, .int .i64 hi]) c2 hx ⟨rfl, hlo, hhi⟩ rfl hF
        exact ⟨h2.1, c3, (X.out.2.2.trans (b1.mono X.out.2.2.size)).trans (below_row h2.2 (Nat.le_refl _) (Nat.le_trans X.out.2.2.size b1.size))⟩
      have Y : Hid (((((w1.setCell ⟨w.heap.size, k * 4, none⟩ (.int .i64 ip)).setCell ⟨w.heap.size, k * 4 + 1, none⟩ (.int .i64 bb)).setCell ⟨w.heap.size, k * 4 + 2, none⟩ (.int .i64 lo)).setCell ⟨w.heap.size, k * 4 + 3, none⟩ (.int .i64 hi)).ownsRow w.heap.size 185 4 (.slice (some ⟨w.heap.size, 0, none⟩) len len) len (sets F (k * 4) [.int .i64 ip, .int .i64 bb, .int .i64 lo, .int .i64 hi]) ∧ Cop PlR 4 ((((w1.setCell ⟨w.heap.size, k * 4, none⟩ (.int .i64 ip)).setCell ⟨w.heap.size, k * 4 + 1, none⟩ (.int .i64 bb)).setCell ⟨w.heap.size, k * 4 + 2, none⟩ (.int .i64 lo)).setCell ⟨w.heap.size, k * 4 + 3, none⟩ (.int .i64 hi)) (sets F (k * 4) [.int .i64 ip, .int .i64 bb, .int .i64 lo, .int .i64 hi]) xs (k + 1) ∧ Below w.heap.size w ((((w1.setCell ⟨w.heap.size, k * 4, none⟩ (.int .i64 ip)).setCell ⟨w.heap.size, k * 4 + 1, none⟩ (.int .i64 bb)).setCell ⟨w.heap.size, k * 4 + 2, none⟩ (.int .i64 lo)).setCell ⟨w.heap.size, k * 4 + 3, none⟩ (.int .i64 hi))) := Y0 _ rfl
      clear Y0
      clear o1 b1 q0 q1 q2 q3 HT X HM hmk2 hx
      go_wp2
      go_roundw
      case rel => exact ⟨k + 1, _, by omega, by go_num, Y⟩
      case measure => simp [intOf]; omega
    · obtain rfl : k = len := by omega
      go_wp2
      go_ret
      exact ⟨rfl, X.out.2.1.rw X.out.1 hl, X.out.2.2⟩
set_option maxHeartbeats 2000000 in
theorem eqPlaceS_yes (a a' : Option Addr) (len cap cap' : Nat) (xs : List PlaceV) (w : World) (h : Rw PlR 4 w a xs) (h' : Rw PlR 4 w a' xs) (hl : xs.length = len) (hlen : len ≤ 1048576) :
    Calls Tryz.prog 54 #[.slice a len cap, .slice a' len cap'] w fun e w' => e = .returned (.bool true) ∧ Grw w w' := by
  have hne : ((len : Int) != (len : Int)) = false := by simp
  have hmix : Tryz.prog.follows .mixedOrders = true := by kernel_rfl
  have RW : Hid (Rw PlR 4 w a xs) := h
  have RW' : Hid (Rw PlR 4 w a' xs) := h'
  clear h h'
  go_enter Tryz.func54, Tryz.ntmps54
  go_wp2
  go_loopw [5] (fun i wr => ∃ k : Nat, k ≤ len ∧ i = .int .i64 k ∧ Hid (Grw w wr)) (fun i _ => len - (intOf i).toNat)
  case atStart => exact ⟨0, Nat.zero_le _, rfl, Grw.refl w⟩
  case round =>
    obtain ⟨k, hk, rfl, HG⟩ := hrel
    by_cases hlt : k < len
    · obtain ⟨x, hx⟩ := at_of hl hlt
      obtain ⟨b, off, vs, rfl, hb, hvl, hR, hc⟩ := RW.out.at PlR.kp HG.out.below hx
      obtain ⟨b', off', vs', rfl, hb', hvl', hR', hc'⟩ := RW'.out.at PlR.kp HG.out.below hx
      obtain ⟨ip, bb, lo, hi⟩ := x
      obtain ⟨rfl, hlo, hhi⟩ := hR
      obtain ⟨rfl, -, -⟩ := hR'
      have q0 : ∀ n os, (grow (wr.drewN n) os).cell? ⟨b, off + k * 4, none⟩ = some (.int .i64 ip) := fun n os => grown_cell hb HG.out (hc 0 _ rfl) n os
      have q1 : ∀ n os, (grow (wr.drewN n) os).cell? ⟨b, off + k * 4 + 1, none⟩ = some (.int .i64 bb) := fun n os => grown_cell hb HG.out (hc 1 _ rfl) n os
      have q2 : ∀ n os, (grow (wr.drewN n) os).cell? ⟨b, off + k * 4 + 2, none⟩ = some (.int .i64 lo) := fun n os => grown_cell hb HG.out (hc 2 _ rfl) n os
      have q3 : ∀ n os, (grow (wr.drewN n) os).cell? ⟨b, off + k * 4 + 3, none⟩ = some (.int .i64 hi) := fun n os => grown_cell hb HG.out (hc 3 _ rfl) n os
      have r0 : ∀ n os, (grow (wr.drewN n) os).cell? ⟨b', off' + k * 4, none⟩ = some (.int .i64 ip) := fun n os => grown_cell hb' HG.out (hc' 0 _ rfl) n os
      have r1 : ∀ n os, (grow (wr.drewN n) os).cell? ⟨b', off' + k * 4 + 1, none⟩ = some (.int .i64 bb) := fun n os => grown_cell hb' HG.out (hc' 1 _ rfl) n os
      have r2 : ∀ n os, (grow (wr.drewN n) os).cell? ⟨b', off' + k * 4 + 2, none⟩ = some (.int .i64 lo) := fun n os => grown_cell hb' HG.out (hc' 2 _ rfl) n os
      have r3 : ∀ n os, (grow (wr.drewN n) os).cell? ⟨b', off' + k * 4 + 3, none⟩ = some (.int .i64 hi) := fun n os => grown_cell hb' HG.out (hc' 3 _ rfl) n os
      have HE : Hid (∀ w, Calls Tryz.prog 133 #[.agg #[.int .i64 ip, .int .i64 bb, .int .i64 lo, .int .i64 hi], .agg #[.int .i64 ip, .int .i64 bb, .int .i64 lo, .int .i64 hi]] w fun e w' => e = .returned (.bool true) ∧ Grw w w') := fun w => eqPlace_any _ _ _ _ w
      have hltz : (k : Int) < (len : Int) := by omega
      clear hc hc'
      go_wp2_with fail
      refine wp_region_quiet_grown (by assumption) (by kernel_rfl) ?_
      repeat (go_big_quiet_step (first | fail | (go_at_call 133; exact Calls.grown_of (HE.out _))))
      refine wpQuiet_nil ?_
      intro _ hw'
      obtain ⟨⟨nq, osq⟩, hw''⟩ := hw'
      subst hw''
      have HG2 : Hid (Grw w (grow (wr.drewN nq) osq)) := HG.out.trans ⟨nq, osq, rfl⟩
      clear q0 q1 q2 q3 r0 r1 r2 r3 HG HE
      go_wp2
      go_roundw
      case rel => exact ⟨k + 1, by omega, by go_num, HG2⟩
      case measure => simp [intOf]; omega
    · obtain rfl : k = len := by omega
      go_wp2
      go_ret
      exact ⟨rfl, HG.out⟩

/-- How much the roles hold. -/
def szR (ros : List RoleV) : Int := ros.foldr (fun r n => (r.nm.size : Int) + r.rs.length + n) 0
theorem szR_nonneg : ∀ ros : List RoleV, 0 ≤ szR ros
  | [] => Int.le_refl _
  | r :: ros => by have := szR_nonneg ros; unfold szR at *; rw [List.foldr_cons]; omega
theorem szR_cons (r : RoleV) (ros : List RoleV) : szR (r :: ros) = (r.nm.size : Int) + r.rs.length + szR ros := rfl
theorem szR_mem : ∀ (ros : List RoleV) (r : RoleV), r ∈ ros → (r.nm.size : Int) + r.rs.length ≤ szR ros
  | [], r, h => by simp at h
  | x :: ros, r, h => by
    rw [szR_cons]
    rcases List.mem_cons.1 h with rfl | h
    · have := szR_nonneg ros; omega
    · have := szR_mem ros r h; omega
theorem szR_step : ∀ (ros : List RoleV) (k : Nat) (r : RoleV), ros[k]? = some r → szR (ros.take (k + 1)) = szR (ros.take k) + ((r.nm.size : Int) + r.rs.length)
  | [], k, r, h => by simp at h
  | x :: ros, 0, r, h => by
    simp at h
    subst h
    simp [szR]
  | x :: ros, k + 1, r, h => by
    have := szR_step ros k r (by simpa using h)
    rw [List.take_succ_cons, List.take_succ_cons, szR_cons, szR_cons, this]
    omega
theorem SzR_of {ros : List RoleV} {n : Int} (h : szR ros ≤ n) (hn : n ≤ 1048576) : SzR ros := by
  intro r hr
  have := szR_mem ros r hr
  omega
set_option maxHeartbeats 2000000 in
theorem szRoleS_any (a : Option Addr) (len cap : Nat) (ros : List RoleV) (l : Int) (w : World) (h : Rw (RoR 0) 5 w a ros) (hl : ros.length = len) (hlm : len ≤ 9223372036854775807) (h0 : 0 ≤ l) (h1 : l ≤ 1048576) :
    Calls Tryz.prog 35 #[.slice a len cap, .int .i64 l] w fun e w' => ∃ r : Int, e = .returned (.int .i64 r) ∧ (0 ≤ r → (len : Int) + szR ros ≤ l) ∧ -1 ≤ r ∧ r ≤ 1048576 ∧ Grw w w' := by
  have RW : Hid (Rw (RoR 0) 5 w a ros) := h
  clear h
  by_cases hle : (len : Int) ≤ l
  rotate_left
  · go_enter Tryz.func35, Tryz.ntmps35
    go_wp2
    go_ret
    exact ⟨-1, rfl, fun h => absurd h (by omega), by omega, by omega, Grw.refl _⟩
  go_enter Tryz.func35, Tryz.ntmps35
  go_wp2
  go_loopw [1, 5] (fun p x wr => ∃ (k : Nat) (r : Int), k ≤ len ∧ x = .int .i64 k ∧ p = .int .i64 r ∧ 0 ≤ r ∧ r ≤ 1048576 ∧ Hid (r = l - len - szR (ros.take k)) ∧ Hid (Grw w wr)) (fun _ x _ => len - (intOf x).toNat)
  case atStart => exact ⟨0, l - len, Nat.zero_le _, rfl, rfl, by omega, by omega, by show l - len = l - len - 0; omega, Grw.refl _⟩
  case round =>
    obtain ⟨k, r, hk, rfl, rfl, hr0, hr1, HR, HG⟩ := hrel
    by_cases hlt : k < len
    · obtain ⟨x, hx⟩ := at_of hl hlt
      obtain ⟨b, off, vs, rfl, hb, hvl, hR, hc⟩ := RW.out.at (RoR.kp 0) HG.out.below hx
      have HS : Hid (szR (ros.take (k + 1)) = szR (ros.take k) + ((x.nm.size : Int) + x.rs.length)) := szR_step ros k x hx
      obtain ⟨nm, rrs, rq, rm, ri⟩ := x
      obtain ⟨ra, rc, rfl, hnm, hrc, hrm, hRR, -⟩ := hR
      have q0 : wr.cell? ⟨b, off + k * 5, none⟩ = some (.string nm) := hc 0 _ rfl
      have q1 : wr.cell? ⟨b, off + k * 5 + 1, none⟩ = some (.slice ra rrs.length rc) := hc 1 _ rfl
      have q2 : wr.cell? ⟨b, off + k * 5 + 2, none⟩ = some (.int .i64 rq) := hc 2 _ rfl
      have q3 : wr.cell? ⟨b, off + k * 5 + 3, none⟩ = some (.int .i64 rm) := hc 3 _ rfl
      have q4 : wr.cell? ⟨b, off + k * 5 + 4, none⟩ = some (.int .i64 ri) := hc 4 _ rfl
      have hnm2 : nm.size ≤ maxLen := hnm
      have hrc2 : rrs.length ≤ rc := hrc
      have HN : Hid (∀ w, Calls Tryz.prog 104 #[.agg #[.string nm, .slice ra rrs.length rc, .int .i64 rq, .int .i64 rm, .int .i64 ri], .int .i64 r] w fun e w' => ∃ r' : Int, e = .returned (.int .i64 r') ∧ (0 ≤ r' → r' = r - nm.size - rrs.length) ∧ -1 ≤ r' ∧ r' ≤ 1048576 ∧ Grw w w') := fun w => szRole_any nm rq rm ri ra rrs.length rc r w (by unfold maxLen at hnm2; omega) (by unfold maxLen at hrm; omega) hr0 hr1
      have hltz : (k : Int) < (len : Int) := by omega
      clear hc hvl hx hRR hrc hrm hnm hnm2 hrc2
      go_wp2_with fail
      refine (HN.out _).mono ?_
      rintro e w1 ⟨r', rfl, hr', hr2, hr3, g1⟩
      have HG1 : Hid (Grw w w1) := HG.out.trans g1
      clear q0 q1 q2 q3 q4 HN g1 HG
      by_cases hneg : r' < 0
      · go_wp2
        go_ret
        exact ⟨-1, rfl, fun h => absurd h (by omega), by omega, by omega, HG1.out⟩
      · have HR' : Hid (r' = l - len - szR (ros.take (k + 1))) := by
          have e1 := HR.out
          have e2 : szR (ros.take (k + 1)) = szR (ros.take k) + ((nm.size : Int) + rrs.length) := HS.out
          have e3 := hr' (by omega)
          show r' = _
          rw [e2]
          omega
        clear HR HS hr'
        go_wp2
        go_roundw
        case rel => exact ⟨k + 1, r', by omega, by go_num, rfl, by omega, hr3, HR', HG1⟩
        case measure => simp [intOf]; omega
    · obtain rfl : k = len := by omega
      have hfin : Hid ((k : Int) + szR ros ≤ l) := by
        have e1 := HR.out
        rw [List.take_of_length_le (by omega)] at e1
        show (k : Int) + szR ros ≤ l
        omega
      go_wp2
      go_ret
      exact ⟨r, rfl, fun _ => hfin.out, by omega, hr1, HG.out⟩
theorem infoRole : (Tryz.prog.info? 141).map (fun i => (i.zero, i.size, i.bytes)) = some (some (.agg #[.string ⟨#[]⟩, .slice none 0 0, .int .i64 0, .int .i64 0, .int .i64 0]), 5, 64) := by kernel_rfl
theorem RoR_set {g : Nat} {w w' : World} {r : RoleV} {vs : List Value} {gb : Nat} (h : RoR g w r vs) (hg : w.grownBy w' (some gb)) (hgb : gb < g) : RoR g w' r vs := by
  obtain ⟨a, cap, h1, h2, h3, h4, h5, h6⟩ := h
  refine ⟨a, cap, h1, h2, h3, h4, fun h0 => ?_, h6⟩
  obtain ⟨b, off, rfl, hlt, hc⟩ := h5 h0
  have hbg := h6 b off rfl
  refine ⟨b, off, rfl, Nat.lt_of_lt_of_le hlt hg.size, fun i x hx => ?_⟩
  obtain ⟨us, u1, u2, u3⟩ := hc i x hx
  refine ⟨us, u1, u2, fun j v hv => ?_⟩
  rw [World.cell?_of_block (w := w) (hg.block b hlt (by intro e; cases e; omega))]
  exact u3 j v hv
theorem Rw_lower {g g' : Nat} {K : Nat} {w : World} {a : Option Addr} {xs : List RoleV} (h : Rw (RoR g) K w a xs) (hg : g' ≤ g) : Rw (RoR g') K w a xs := by
  intro h0
  obtain ⟨b, off, e, hlt, hc⟩ := h h0
  refine ⟨b, off, e, hlt, fun i x hx => ?_⟩
  obtain ⟨vs, h1, h2, h3⟩ := hc i x hx
  exact ⟨vs, h1, h2.lower hg, h3⟩
theorem grown_setC (w : World) (g j : Nat) (v : Value) : w.grownBy (w.setCell ⟨g, j, none⟩ v) (some g) :=
  ⟨rfl, rfl, rfl, by simp, fun k _ hk => Below.heap_setCell w ⟨g, j, none⟩ v k (fun e => hk (by rw [e]))⟩
theorem rw_grow {α : Type} {R : World → α → List Value → Prop} {K : Nat} {w w' : World} {a : Option Addr} {xs : List α} {g : Nat} (h : Rw R K w a xs) (hg : w.grownBy w' (some g)) (hne : ∀ b off, a = some ⟨b, off, none⟩ → b ≠ g) (hk : ∀ x vs, R w x vs → R w' x vs) : Rw R K w' a xs := by
  intro h0
  obtain ⟨b, off, rfl, hlt, hc⟩ := h h0
  refine ⟨b, off, rfl, Nat.lt_of_lt_of_le hlt hg.size, fun i x hx => ?_⟩
  obtain ⟨vs, h1, h2, h3⟩ := hc i x hx
  refine ⟨vs, h1, hk _ _ h2, fun j v hv => ?_⟩
  rw [World.cell?_of_block (w := w) (hg.block b hlt (fun e => hne b off rfl (Option.some.inj e)))]
  exact h3 j v hv
theorem pl_away {w : World} {c g j : Nat} {v : Value} {ps : List PlaceV} (h : Rw PlR 4 w (some ⟨c, 0, none⟩) ps) (hne : c ≠ g) : Rw PlR 4 (w.setCell ⟨g, j, none⟩ v) (some ⟨c, 0, none⟩) ps :=
  rw_grow h (grown_setC w g j v) (fun b off e => by cases e; exact hne) (fun _ _ h => h)
theorem ro_away {w : World} {c g j lo : Nat} {v : Value} {ros : List RoleV} (h : Rw (RoR lo) 5 w (some ⟨c, 0, none⟩) ros) (hne : c ≠ g) (hlo : g < lo) : Rw (RoR lo) 5 (w.setCell ⟨g, j, none⟩ v) (some ⟨c, 0, none⟩) ros :=
  rw_grow h (grown_setC w g j v) (fun b off e => by cases e; exact hne) (fun _ _ h => RoR_set h (grown_setC w g j v) hlo)
set_option maxHeartbeats 4000000 in
theorem toRoleS_any (a : Option Addr) (len cap : Nat) (xs : List RoleV) (w : World) (h : Rw (RoR 0) 5 w a xs) (hl : xs.length = len) (hc : len ≤ 1048576) (hsz : SzR xs) :
    Calls Tryz.prog 44 #[.slice a len cap] w fun e w' => e = .returned (.slice (some ⟨w.heap.size, 0, none⟩) len len) ∧ Rw (RoR (w.heap.size + 1)) 5 w' (some ⟨w.heap.size, 0, none⟩) xs ∧ Below w.heap.size w w' := by
  have RW : Hid (Rw (RoR 0) 5 w a xs) := h
  have SZ : Hid (SzR xs) := hsz
  clear h hsz
  obtain ⟨i0, hi, hz0, hz1, hz2⟩ := info_parts infoRole
  have hmk := run_make (P := Tryz.prog) w 38 141 i0 (.agg #[.string ⟨#[]⟩, .slice none 0 0, .int .i64 0, .int .i64 0, .int .i64 0]) Tryz.underlying38 hi hz0 .i64 .i64 len len (by omega) (Int.le_refl _) (by rw [hz2]; omega) (by omega)
  rw [hz1, Int.toNat_natCast] at hmk
  have HM : Hid ((w.alloc (.cells (madeCells #[.string ⟨#[]⟩, .slice none 0 0, .int .i64 0, .int .i64 0, .int .i64 0] (len * 5)) 141)).ownsRow w.heap.size 141 5 (.slice (some ⟨w.heap.size, 0, none⟩) len len) len (madeCells #[.string ⟨#[]⟩, .slice none 0 0, .int .i64 0, .int .i64 0, .int .i64 0] (len * 5)).toList ∧ Below w.heap.size w (w.alloc (.cells (madeCells #[.string ⟨#[]⟩, .slice none 0 0, .int .i64 0, .int .i64 0, .int .i64 0] (len * 5)) 141)) ∧ w.heap.size < (w.alloc (.cells (madeCells #[.string ⟨#[]⟩, .slice none 0 0, .int .i64 0, .int .i64 0, .int .i64 0] (len * 5)) 141)).heap.size) := ⟨owns_made w _ _ len 5 _ (Nat.le_refl _) (by unfold maxLen; omega), (Below.refl _ _).alloc (Nat.le_refl _) _, by simp⟩
  have hmk2 : (Instr.makeSlice 38 (.int .i64 (len : Int)) (.int .i64 (len : Int))).run Tryz.prog w = .ok (.slice (some ⟨w.heap.size, 0, none⟩) len len) (w.alloc (.cells (madeCells #[.string ⟨#[]⟩, .slice none 0 0, .int .i64 0, .int .i64 0, .int .i64 0] (len * 5)) 141)) := hmk
  clear hmk hi hz0 hz1 hz2
  obtain ⟨W, hW⟩ : ∃ W, W = w.alloc (.cells (madeCells #[.string ⟨#[]⟩, .slice none 0 0, .int .i64 0, .int .i64 0, .int .i64 0] (len * 5)) 141) := ⟨_, rfl⟩
  rw [← hW] at HM hmk2
  clear hW
  go_enter Tryz.func44, Tryz.ntmps44
  go_wp2
  go_loopw [4] (fun i wr => ∃ (k : Nat) (F : List Value), k ≤ len ∧ i = .int .i64 k ∧ Hid (wr.ownsRow w.heap.size 141 5 (.slice (some ⟨w.heap.size, 0, none⟩) len len) len F ∧ Cop (RoR (w.heap.size + 1)) 5 wr F xs k ∧ Below w.heap.size w wr ∧ w.heap.size < wr.heap.size)) (fun i _ => len - (intOf i).toNat)
  case atStart => exact ⟨0, _, Nat.zero_le _, rfl, HM.out.1, Cop.zero, HM.out.2.1, HM.out.2.2⟩
  case round =>
    obtain ⟨k, F, hk, rfl, X⟩ := hrel
    by_cases hlt : k < len
    · obtain ⟨x, hx⟩ := at_of hl hlt
      obtain ⟨b, off, vs, rfl, hb, hvl, hR, hc⟩ := RW.out.at (RoR.kp 0) X.out.2.2.1 hx
      have hsz := SZ.out _ (List.mem_of_getElem? hx)
      obtain ⟨nm, rrs, rq, rm, ri⟩ := x
      obtain ⟨ra, rc, rfl, hnm, hrc, hrm, hRR, -⟩ := hR
      have q0 : wr.cell? ⟨b, off + k * 5, none⟩ = some (.string nm) := hc 0 _ rfl
      have q1 : wr.cell? ⟨b, off + k * 5 + 1, none⟩ = some (.slice ra rrs.length rc) := hc 1 _ rfl
      have q2 : wr.cell? ⟨b, off + k * 5 + 2, none⟩ = some (.int .i64 rq) := hc 2 _ rfl
      have q3 : wr.cell? ⟨b, off + k * 5 + 3, none⟩ = some (.int .i64 rm) := hc 3 _ rfl
      have q4 : wr.cell? ⟨b, off + k * 5 + 4, none⟩ = some (.int .i64 ri) := hc 4 _ rfl
      have HT : Hid (∀ w, Rw RuR 6 w ra rrs → Calls Tryz.prog 115 #[.agg #[.string nm, .slice ra rrs.length rc, .int .i64 rq, .int .i64 rm, .int .i64 ri]] w fun e w' => ∃ a', e = .returned (.agg #[.string nm, .slice a' rrs.length rrs.length, .int .i64 rq, .int .i64 rm, .int .i64 ri]) ∧ (∀ b off, a' = some ⟨b, off, none⟩ → w.heap.size ≤ b) ∧ Rw RuR 6 w' a' rrs ∧ Below w.heap.size w w') := fun w h => toRole_any nm rrs rq rm ri ra _ rc w h rfl hsz.2
      have hltz : (k : Int) < (len : Int) := by omega
      clear hc
      go_wp2_with fail
      refine (HT.out _ hRR).mono ?_
      rintro e w1 ⟨ra2, rfl, hge, hr2, b1⟩
      have o1 := owns_now X.out.1 b1
      obtain ⟨⟨u0, c0⟩, z0⟩ := owns_cell o1 (j := 0) hlt (by omega)
      obtain ⟨⟨u1, c1⟩, z1⟩ := owns_cell o1 (j := 1) hlt (by omega)
      obtain ⟨⟨u2, c2⟩, z2⟩ := owns_cell o1 (j := 2) hlt (by omega)
      obtain ⟨⟨u3, c3⟩, z3⟩ := owns_cell o1 (j := 3) hlt (by omega)
      obtain ⟨⟨u4, c4⟩, z4⟩ := owns_cell o1 (j := 4) hlt (by omega)
      replace c0 : w1.cell? ⟨w.heap.size, k * 5, none⟩ = some u0 := c0
      replace z0 : w1.frozen? ⟨w.heap.size, k * 5, none⟩ = false := z0
      have Y0 : ∀ W1, W1 = ((((w1.setCell ⟨w.heap.size, k * 5, none⟩ (.string nm)).setCell ⟨w.heap.size, k * 5 + 1, none⟩ (.slice ra2 rrs.length rrs.length)).setCell ⟨w.heap.size, k * 5 + 2, none⟩ (.int .i64 rq)).setCell ⟨w.heap.size, k * 5 + 3, none⟩ (.int .i64 rm)).setCell ⟨w.heap.size, k * 5 + 4, none⟩ (.int .i64 ri) → W1.ownsRow w.heap.size 141 5 (.slice (some ⟨w.heap.size, 0, none⟩) len len) len (sets F (k * 5) [.string nm, .slice ra2 rrs.length rrs.length, .int .i64 rq, .int .i64 rm, .int .i64 ri]) ∧ Cop (RoR (w.heap.size + 1)) 5 W1 (sets F (k * 5) [.string nm, .slice ra2 rrs.length rrs.length, .int .i64 rq, .int .i64 rm, .int .i64 ri]) xs (k + 1) ∧ Below w.heap.size w W1 ∧ w.heap.size < W1.heap.size := by
        intro W1 hW1
        have h2 := owns_sets [.string nm, .slice ra2 rrs.length rrs.length, .int .i64 rq, .int .i64 rm, .int .i64 ri] _ _ (k * 5) o1
        rw [wsets5, ← hW1] at h2
        have hF : k * 5 + 5 ≤ F.length := by
          rw [X.out.1.1]
          have : (k + 1) * 5 ≤ len * 5 := Nat.mul_le_mul_right _ hlt
          omega
        have c2 : Cop (RoR (w.heap.size + 1)) 5 W1 F xs k := Cop.keep X.out.2.1 (fun x vs h => RoR_set (RoR.kp _ _ _ _ _ h b1) h2.2 (by omega))
        have hr3 : RoR (w.heap.size + 1) w1 ⟨nm, rrs, rq, rm, ri⟩ [.string nm, .slice ra2 rrs.length rrs.length, .int .i64 rq, .int .i64 rm, .int .i64 ri] := ⟨ra2, rrs.length, rfl, hnm, Nat.le_refl _, by unfold maxLen; omega, hr2, fun b off e => Nat.le_trans X.out.2.2.2 (hge b off e)⟩
        have c3 := Cop.step (vs := [.string nm, .slice ra2 rrs.length rrs.length, .int .i64 rq, .int .i64 rm, .int .i64 ri]) c2 hx (RoR_set hr3 h2.2 (by omega)) rfl hF
        exact ⟨h2.1, c3, (X.out.2.2.1.trans (b1.mono X.out.2.2.1.size)).trans (below_row h2.2 (Nat.le_refl _) (Nat.le_trans X.out.2.2.1.size b1.size)), Nat.lt_of_lt_of_le (Nat.lt_of_lt_of_le X.out.2.2.2 b1.size) h2.2.size⟩
      have Y : Hid ((((((w1.setCell ⟨w.heap.size, k * 5, none⟩ (.string nm)).setCell ⟨w.heap.size, k * 5 + 1, none⟩ (.slice ra2 rrs.length rrs.length)).setCell ⟨w.heap.size, k * 5 + 2, none⟩ (.int .i64 rq)).setCell ⟨w.heap.size, k * 5 + 3, none⟩ (.int .i64 rm)).setCell ⟨w.heap.size, k * 5 + 4, none⟩ (.int .i64 ri)).ownsRow w.heap.size 141 5 (.slice (some ⟨w.heap.size, 0, none⟩) len len) len (sets F (k * 5) [.string nm, .slice ra2 rrs.length rrs.length, .int .i64 rq, .int .i64 rm, .int .i64 ri]) ∧ Cop (RoR (w.heap.size + 1)) 5 (((((w1.setCell ⟨w.heap.size, k * 5, none⟩ (.string nm)).setCell ⟨w.heap.size, k * 5 + 1, none⟩ (.slice ra2 rrs.length rrs.length)).setCell ⟨w.heap.size, k * 5 + 2, none⟩ (.int .i64 rq)).setCell ⟨w.heap.size, k * 5 + 3, none⟩ (.int .i64 rm)).setCell ⟨w.heap.size, k * 5 + 4, none⟩ (.int .i64 ri)) (sets F (k * 5) [.string nm, .slice ra2 rrs.length rrs.length, .int .i64 rq, .int .i64 rm, .int .i64 ri]) xs (k + 1) ∧ Below w.heap.size w (((((w1.setCell ⟨w.heap.size, k * 5, none⟩ (.string nm)).setCell ⟨w.heap.size, k * 5 + 1, none⟩ (.slice ra2 rrs.length rrs.length)).setCell ⟨w.heap.size, k * 5 + 2, none⟩ (.int .i64 rq)).setCell ⟨w.heap.size, k * 5 + 3, none⟩ (.int .i64 rm)).setCell ⟨w.heap.size, k * 5 + 4, none⟩ (.int .i64 ri)) ∧ w.heap.size < (((((w1.setCell ⟨w.heap.size, k * 5, none⟩ (.string nm)).setCell ⟨w.heap.size, k * 5 + 1, none⟩ (.slice ra2 rrs.length rrs.length)).setCell ⟨w.heap.size, k * 5 + 2, none⟩ (.int .i64 rq)).setCell ⟨w.heap.size, k * 5 + 3, none⟩ (.int .i64 rm)).setCell ⟨w.heap.size, k * 5 + 4, none⟩ (.int .i64 ri)).heap.size) := Y0 _ rfl
      clear Y0 o1 b1 q0 q1 q2 q3 q4 HT X HM hmk2 hx hRR hr2 hge hsz
      go_wp2
      go_roundw
      case rel => exact ⟨k + 1, _, by omega, by go_num, Y⟩
      case measure => simp [intOf]; omega
    · obtain rfl : k = len := by omega
      go_wp2
      go_ret
      exact ⟨rfl, X.out.2.1.rw X.out.1 hl, X.out.2.2.1⟩
set_option maxHeartbeats 2000000 in
theorem eqRoleS_yes (a a' : Option Addr) (len cap cap' : Nat) (xs : List RoleV) (w : World) (h : Rw (RoR 0) 5 w a xs) (h' : Rw (RoR 0) 5 w a' xs) (hl : xs.length = len) (hlen : len ≤ 1048576) (hsz : SzR xs) :
    Calls Tryz.prog 55 #[.slice a len cap, .slice a' len cap'] w fun e w' => e = .returned (.bool true) ∧ Grw w w' := by
  have hne : ((len : Int) != (len : Int)) = false := by simp
  have hmix : Tryz.prog.follows .mixedOrders = true := by kernel_rfl
  have RW : Hid (Rw (RoR 0) 5 w a xs) := h
  have RW' : Hid (Rw (RoR 0) 5 w a' xs) := h'
  have SZ : Hid (SzR xs) := hsz
  clear h h' hsz
  go_enter Tryz.func55, Tryz.ntmps55
  go_wp2
  go_loopw [5] (fun i wr => ∃ k : Nat, k ≤ len ∧ i = .int .i64 k ∧ Hid (Grw w wr)) (fun i _ => len - (intOf i).toNat)
  case atStart => exact ⟨0, Nat.zero_le _, rfl, Grw.refl w⟩
  case round =>
    obtain ⟨k, hk, rfl, HG⟩ := hrel
    by_cases hlt : k < len
    · obtain ⟨x, hx⟩ := at_of hl hlt
      have hsz := SZ.out _ (List.mem_of_getElem? hx)
      obtain ⟨b, off, vs, rfl, hb, hvl, hR, hc⟩ := RW.out.at (RoR.kp 0) HG.out.below hx
      obtain ⟨b', off', vs', rfl, hb', hvl', hR', hc'⟩ := RW'.out.at (RoR.kp 0) HG.out.below hx
      obtain ⟨nm, rrs, rq, rm, ri⟩ := x
      obtain ⟨ra, rc, rfl, hnm, hrc, hrm, hRR, -⟩ := hR
      obtain ⟨ra2, rc2, rfl, -, -, -, hRR2, -⟩ := hR'
      have q0 : ∀ n os, (grow (wr.drewN n) os).cell? ⟨b, off + k * 5, none⟩ = some (.string nm) := fun n os => grown_cell hb HG.out (hc 0 _ rfl) n os
      have q1 : ∀ n os, (grow (wr.drewN n) os).cell? ⟨b, off + k * 5 + 1, none⟩ = some (.slice ra rrs.length rc) := fun n os => grown_cell hb HG.out (hc 1 _ rfl) n os
      have q2 : ∀ n os, (grow (wr.drewN n) os).cell? ⟨b, off + k * 5 + 2, none⟩ = some (.int .i64 rq) := fun n os => grown_cell hb HG.out (hc 2 _ rfl) n os
      have q3 : ∀ n os, (grow (wr.drewN n) os).cell? ⟨b, off + k * 5 + 3, none⟩ = some (.int .i64 rm) := fun n os => grown_cell hb HG.out (hc 3 _ rfl) n os
      have q4 : ∀ n os, (grow (wr.drewN n) os).cell? ⟨b, off + k * 5 + 4, none⟩ = some (.int .i64 ri) := fun n os => grown_cell hb HG.out (hc 4 _ rfl) n os
      have r0 : ∀ n os, (grow (wr.drewN n) os).cell? ⟨b', off' + k * 5, none⟩ = some (.string nm) := fun n os => grown_cell hb' HG.out (hc' 0 _ rfl) n os
      have r1 : ∀ n os, (grow (wr.drewN n) os).cell? ⟨b', off' + k * 5 + 1, none⟩ = some (.slice ra2 rrs.length rc2) := fun n os => grown_cell hb' HG.out (hc' 1 _ rfl) n os
      have r2 : ∀ n os, (grow (wr.drewN n) os).cell? ⟨b', off' + k * 5 + 2, none⟩ = some (.int .i64 rq) := fun n os => grown_cell hb' HG.out (hc' 2 _ rfl) n os
      have r3 : ∀ n os, (grow (wr.drewN n) os).cell? ⟨b', off' + k * 5 + 3, none⟩ = some (.int .i64 rm) := fun n os => grown_cell hb' HG.out (hc' 3 _ rfl) n os
      have r4 : ∀ n os, (grow (wr.drewN n) os).cell? ⟨b', off' + k * 5 + 4, none⟩ = some (.int .i64 ri) := fun n os => grown_cell hb' HG.out (hc' 4 _ rfl) n os
      have HE : Hid (∀ w, Rw RuR 6 w ra rrs → Rw RuR 6 w ra2 rrs → Calls Tryz.prog 134 #[.agg #[.string nm, .slice ra rrs.length rc, .int .i64 rq, .int .i64 rm, .int .i64 ri], .agg #[.string nm, .slice ra2 rrs.length rc2, .int .i64 rq, .int .i64 rm, .int .i64 ri]] w fun e w' => e = .returned (.bool true) ∧ Grw w w') := fun w h h' => eqRole_yes nm rrs rq rm ri ra ra2 _ rc rc2 w h h' rfl hsz.2
      have YR : Hid (∀ n os, Rw RuR 6 (grow (wr.drewN n) os) ra rrs ∧ Rw RuR 6 (grow (wr.drewN n) os) ra2 rrs) := fun n os => ⟨hRR.keep RuR.kp (Grw.below ⟨n, os, rfl⟩), hRR2.keep RuR.kp (Grw.below ⟨n, os, rfl⟩)⟩
      have hltz : (k : Int) < (len : Int) := by omega
      clear hc hc' hRR hRR2
      go_wp2_with fail
      refine wp_region_quiet_grown (by assumption) (by kernel_rfl) ?_
      repeat (go_big_quiet_step (first | fail | (go_at_call 134; exact Calls.grown_of (HE.out _ (YR.out _ _).1 (YR.out _ _).2))))
      refine wpQuiet_nil ?_
      intro _ hw'
      obtain ⟨⟨nq, osq⟩, hw''⟩ := hw'
      subst hw''
      have HG2 : Hid (Grw w (grow (wr.drewN nq) osq)) := HG.out.trans ⟨nq, osq, rfl⟩
      clear q0 q1 q2 q3 q4 r0 r1 r2 r3 r4 HG HE YR
      go_wp2
      go_roundw
      case rel => exact ⟨k + 1, by omega, by go_num, HG2⟩
      case measure => simp [intOf]; omega
    · obtain rfl : k = len := by omega
      go_wp2
      go_ret
      exact ⟨rfl, HG.out⟩

set_option maxHeartbeats 2000000 in
theorem szConfig_any (ip b gt : Int) (gm wm : ByteArray) (rs : Int) (x y : Option Addr) (lenx capx leny capy : Nat) (ps : List PlaceV) (ros : List RoleV) (w : World) (h : Rw PlR 4 w x ps) (hl : ps.length = lenx) (h2 : Rw (RoR 0) 5 w y ros) (hl2 : ros.length = leny) (hg : gm.size ≤ 9223372036854775807) (hw : wm.size ≤ 9223372036854775807) (hx : lenx ≤ 9223372036854775807) (hy : leny ≤ 9223372036854775807) :
    Calls Tryz.prog 8 #[.agg #[.int .i64 ip, .int .i64 b, .int .i64 gt, .string gm, .string wm, .int .i64 rs, .slice x lenx capx, .slice y leny capy], .int .i64 1048576] w fun e w' => ∃ r : Int, e = .returned (.int .i64 r) ∧ (0 ≤ r → (gm.size : Int) + wm.size + lenx + leny + szR ros ≤ 1048576) ∧ -1 ≤ r ∧ r ≤ 1048576 ∧ Grw w w' := by
  have RY : Hid (Rw (RoR 0) 5 w y ros) := h2
  clear h h2
  by_cases h1 : (gm.size : Int) ≤ 1048576
  rotate_left
  · go_enter Tryz.func8, Tryz.ntmps8
    go_wp2
    go_ret
    exact ⟨-1, rfl, fun h => absurd h (by omega), by omega, by omega, (Grw.refl _).alloc _⟩
  by_cases h3 : (wm.size : Int) ≤ 1048576 - gm.size
  rotate_left
  · go_enter Tryz.func8, Tryz.ntmps8
    go_wp2
    go_ret
    exact ⟨-1, rfl, fun h => absurd h (by omega), by omega, by omega, (Grw.refl _).alloc _⟩
  have HC : Hid (∀ w, Calls Tryz.prog 34 #[.slice x lenx capx, .int .i64 (1048576 - gm.size - wm.size)] w fun e w' => ∃ r : Int, e = .returned (.int .i64 r) ∧ (0 ≤ r → r = 1048576 - gm.size - wm.size - lenx) ∧ -1 ≤ r ∧ r ≤ 1048576 ∧ w' = w) := fun w => szPlaceS_any x lenx capx _ w hx (by omega) (by omega)
  go_enter Tryz.func8, Tryz.ntmps8
  go_wp2_with fail
  refine (HC.out _).mono ?_
  rintro e w1 ⟨r, rfl, hr, hr1, hr2, rfl⟩
  by_cases hr0 : r < 0
  · go_wp2
    go_ret
    exact ⟨-1, rfl, fun h => absurd h (by omega), by omega, by omega, (Grw.refl _).alloc _⟩
  have hrv := hr (by omega)
  have HD : Hid (∀ w, Rw (RoR 0) 5 w y ros → Calls Tryz.prog 35 #[.slice y leny capy, .int .i64 r] w fun e w' => ∃ r' : Int, e = .returned (.int .i64 r') ∧ (0 ≤ r' → (leny : Int) + szR ros ≤ r) ∧ -1 ≤ r' ∧ r' ≤ 1048576 ∧ Grw w w') := fun w h => szRoleS_any y leny capy ros r w h hl2 hy (by omega) hr2
  have HV : Hid (r = 1048576 - gm.size - wm.size - lenx) := hrv
  clear hr hrv
  go_wp2_with fail
  refine (HD.out _ (RY.out.keep (RoR.kp 0) ((Grw.refl w).alloc _).below)).mono ?_
  rintro e w2 ⟨r', rfl, hr', hr3, hr4, g2⟩
  have BX : Hid (Grw w w2) := ((Grw.refl _).alloc _).trans g2
  clear g2
  by_cases hr5 : r' < 0
  · go_wp2
    go_ret
    exact ⟨-1, rfl, fun h => absurd h (by omega), by omega, by omega, BX.out⟩
  · have hfin : Hid ((gm.size : Int) + wm.size + lenx + leny + szR ros ≤ 1048576) := by
      have e1 := hr' (by omega)
      have e2 := HV.out
      show (gm.size : Int) + wm.size + lenx + leny + szR ros ≤ 1048576
      omega
    clear hr'
    go_wp2
    go_ret
    exact ⟨r', rfl, fun _ => hfin.out, by omega, hr4, BX.out⟩

set_option maxHeartbeats 4000000 in
theorem toConfig_at (ip b gt : Int) (gm wm : ByteArray) (rs : Int) (x y : Option Addr) (lenx capx leny capy : Nat) (ps : List PlaceV) (ros : List RoleV) (w : World) (h : Rw PlR 4 w x ps) (hl : ps.length = lenx) (h2 : Rw (RoR 0) 5 w y ros) (hl2 : ros.length = leny) (hx : lenx ≤ 1048576) (hy : leny ≤ 1048576) (hsz : SzR ros) :
    Calls Tryz.prog 11 #[.agg #[.int .i64 ip, .int .i64 b, .int .i64 gt, .string gm, .string wm, .int .i64 rs, .slice x lenx capx, .slice y leny capy]] w fun e w' => ∃ b1 b2 : Nat, w.heap.size ≤ b1 ∧ w.heap.size ≤ b2 ∧ e = .returned (.agg #[.int .i64 ip, .int .i64 b, .int .i64 gt, .string gm, .string wm, .int .i64 rs, .slice (some ⟨b1, 0, none⟩) lenx lenx, .slice (some ⟨b2, 0, none⟩) leny leny]) ∧ (Rw PlR 4 w' (some ⟨b1, 0, none⟩) ps ∧ Rw (RoR w.heap.size) 5 w' (some ⟨b2, 0, none⟩) ros) ∧ Below w.heap.size w w' := by
  have RX : Hid (Rw PlR 4 w x ps) := h
  have RY : Hid (Rw (RoR 0) 5 w y ros) := h2
  have HA : Hid (∀ w, Calls Tryz.prog 42 #[.agg #[.int .i64 ip, .int .i64 b]] w fun e w' => e = .returned (.agg #[.int .i64 ip, .int .i64 b]) ∧ Below w.heap.size w w') := fun w => toNet2 ip b w
  have HB : Hid (∀ w, Rw PlR 4 w x ps → Calls Tryz.prog 43 #[.slice x lenx capx] w fun e w' => e = .returned (.slice (some ⟨w.heap.size, 0, none⟩) lenx lenx) ∧ Rw PlR 4 w' (some ⟨w.heap.size, 0, none⟩) ps ∧ Below w.heap.size w w') := fun w h => toPlaceS_any x lenx capx ps w h hl hx
  have HC : Hid (∀ w, Rw (RoR 0) 5 w y ros → Calls Tryz.prog 44 #[.slice y leny capy] w fun e w' => e = .returned (.slice (some ⟨w.heap.size, 0, none⟩) leny leny) ∧ Rw (RoR (w.heap.size + 1)) 5 w' (some ⟨w.heap.size, 0, none⟩) ros ∧ Below w.heap.size w w') := fun w h => toRoleS_any y leny capy ros w h hl2 hy hsz
  clear h h2 hsz
  go_enter Tryz.func11, Tryz.ntmps11
  go_wp2_with fail
  refine (HA.out _).mono ?_
  rintro e wx1 ⟨rfl, bx⟩
  have c1_0_0 : wx1.cell? ⟨w.heap.size, 0, none⟩ = some (.int .i64 ip) := bkeep bx (by simp [go_sem])
  have c1_0_1 : wx1.cell? ⟨w.heap.size, 1, none⟩ = some (.int .i64 b) := bkeep bx (by simp [go_sem])
  have c1_0_2 : wx1.cell? ⟨w.heap.size, 2, none⟩ = some (.int .i64 gt) := bkeep bx (by simp [go_sem])
  have c1_0_3 : wx1.cell? ⟨w.heap.size, 3, none⟩ = some (.string gm) := bkeep bx (by simp [go_sem])
  have c1_0_4 : wx1.cell? ⟨w.heap.size, 4, none⟩ = some (.string wm) := bkeep bx (by simp [go_sem])
  have c1_0_5 : wx1.cell? ⟨w.heap.size, 5, none⟩ = some (.int .i64 rs) := bkeep bx (by simp [go_sem])
  have c1_0_6 : wx1.cell? ⟨w.heap.size, 6, none⟩ = some (.slice x lenx capx) := bkeep bx (by simp [go_sem])
  have c1_0_7 : wx1.cell? ⟨w.heap.size, 7, none⟩ = some (.slice y leny capy) := bkeep bx (by simp [go_sem])
  have c1_1_0 : wx1.cell? ⟨w.heap.size + 1, 0, none⟩ = some (.int .i64 0) := bkeep bx (by simp [go_sem])
  have f1_1_0 : wx1.frozen? ⟨w.heap.size + 1, 0, none⟩ = false := bthaw bx (v := .int .i64 0) (by simp [go_sem]) (by simp [go_sem])
  have c1_1_1 : wx1.cell? ⟨w.heap.size + 1, 1, none⟩ = some (.int .i64 0) := bkeep bx (by simp [go_sem])
  have f1_1_1 : wx1.frozen? ⟨w.heap.size + 1, 1, none⟩ = false := bthaw bx (v := .int .i64 0) (by simp [go_sem]) (by simp [go_sem])
  have c1_1_2 : wx1.cell? ⟨w.heap.size + 1, 2, none⟩ = some (.int .i64 0) := bkeep bx (by simp [go_sem])
  have f1_1_2 : wx1.frozen? ⟨w.heap.size + 1, 2, none⟩ = false := bthaw bx (v := .int .i64 0) (by simp [go_sem]) (by simp [go_sem])
  have c1_1_3 : wx1.cell? ⟨w.heap.size + 1, 3, none⟩ = some (.string ⟨#[]⟩) := bkeep bx (by simp [go_sem])
  have f1_1_3 : wx1.frozen? ⟨w.heap.size + 1, 3, none⟩ = false := bthaw bx (v := .string ⟨#[]⟩) (by simp [go_sem]) (by simp [go_sem])
  have c1_1_4 : wx1.cell? ⟨w.heap.size + 1, 4, none⟩ = some (.string ⟨#[]⟩) := bkeep bx (by simp [go_sem])
  have f1_1_4 : wx1.frozen? ⟨w.heap.size + 1, 4, none⟩ = false := bthaw bx (v := .string ⟨#[]⟩) (by simp [go_sem]) (by simp [go_sem])
  have c1_1_5 : wx1.cell? ⟨w.heap.size + 1, 5, none⟩ = some (.int .i64 0) := bkeep bx (by simp [go_sem])
  have f1_1_5 : wx1.frozen? ⟨w.heap.size + 1, 5, none⟩ = false := bthaw bx (v := .int .i64 0) (by simp [go_sem]) (by simp [go_sem])
  have c1_1_6 : wx1.cell? ⟨w.heap.size + 1, 6, none⟩ = some (.slice none 0 0) := bkeep bx (by simp [go_sem])
  have f1_1_6 : wx1.frozen? ⟨w.heap.size + 1, 6, none⟩ = false := bthaw bx (v := .slice none 0 0) (by simp [go_sem]) (by simp [go_sem])
  have c1_1_7 : wx1.cell? ⟨w.heap.size + 1, 7, none⟩ = some (.slice none 0 0) := bkeep bx (by simp [go_sem])
  have f1_1_7 : wx1.frozen? ⟨w.heap.size + 1, 7, none⟩ = false := bthaw bx (v := .slice none 0 0) (by simp [go_sem]) (by simp [go_sem])
  have c1_2_0 : wx1.cell? ⟨w.heap.size + 1 + 1, 0, none⟩ = some (.int .i64 0) := bkeep bx (by simp [go_sem])
  have f1_2_0 : wx1.frozen? ⟨w.heap.size + 1 + 1, 0, none⟩ = false := bthaw bx (v := .int .i64 0) (by simp [go_sem]) (by simp [go_sem])
  have c1_2_1 : wx1.cell? ⟨w.heap.size + 1 + 1, 1, none⟩ = some (.int .i64 0) := bkeep bx (by simp [go_sem])
  have f1_2_1 : wx1.frozen? ⟨w.heap.size + 1 + 1, 1, none⟩ = false := bthaw bx (v := .int .i64 0) (by simp [go_sem]) (by simp [go_sem])
  have c1_2_2 : wx1.cell? ⟨w.heap.size + 1 + 1, 2, none⟩ = some (.int .i64 0) := bkeep bx (by simp [go_sem])
  have f1_2_2 : wx1.frozen? ⟨w.heap.size + 1 + 1, 2, none⟩ = false := bthaw bx (v := .int .i64 0) (by simp [go_sem]) (by simp [go_sem])
  have c1_2_3 : wx1.cell? ⟨w.heap.size + 1 + 1, 3, none⟩ = some (.string ⟨#[]⟩) := bkeep bx (by simp [go_sem])
  have f1_2_3 : wx1.frozen? ⟨w.heap.size + 1 + 1, 3, none⟩ = false := bthaw bx (v := .string ⟨#[]⟩) (by simp [go_sem]) (by simp [go_sem])
  have c1_2_4 : wx1.cell? ⟨w.heap.size + 1 + 1, 4, none⟩ = some (.string ⟨#[]⟩) := bkeep bx (by simp [go_sem])
  have f1_2_4 : wx1.frozen? ⟨w.heap.size + 1 + 1, 4, none⟩ = false := bthaw bx (v := .string ⟨#[]⟩) (by simp [go_sem]) (by simp [go_sem])
  have c1_2_5 : wx1.cell? ⟨w.heap.size + 1 + 1, 5, none⟩ = some (.int .i64 0) := bkeep bx (by simp [go_sem])
  have f1_2_5 : wx1.frozen? ⟨w.heap.size + 1 + 1, 5, none⟩ = false := bthaw bx (v := .int .i64 0) (by simp [go_sem]) (by simp [go_sem])
  have c1_2_6 : wx1.cell? ⟨w.heap.size + 1 + 1, 6, none⟩ = some (.slice none 0 0) := bkeep bx (by simp [go_sem])
  have f1_2_6 : wx1.frozen? ⟨w.heap.size + 1 + 1, 6, none⟩ = false := bthaw bx (v := .slice none 0 0) (by simp [go_sem]) (by simp [go_sem])
  have c1_2_7 : wx1.cell? ⟨w.heap.size + 1 + 1, 7, none⟩ = some (.slice none 0 0) := bkeep bx (by simp [go_sem])
  have f1_2_7 : wx1.frozen? ⟨w.heap.size + 1 + 1, 7, none⟩ = false := bthaw bx (v := .slice none 0 0) (by simp [go_sem]) (by simp [go_sem])
  have BX1 : Hid (Below w.heap.size w wx1) := ((((Below.refl w.heap.size w).alloc (by simp <;> omega) _).alloc (by simp <;> omega) _).alloc (by simp <;> omega) _).trans (bx.mono (by simp <;> omega))
  clear bx
  have L1 : w.heap.size + 1 + 1 < wx1.heap.size := World.block_lt_of_cell? wx1 _ c1_2_0
  have N1o : wx1.heap.size ≠ w.heap.size + 1 + 1 := by omega
  have N1r : wx1.heap.size ≠ w.heap.size + 1 := by omega
  go_wp2_with fail
  refine (HB.out _ (RX.out.keep PlR.kp ((((((BX1.out.setCell (p := ⟨w.heap.size + 1 + 1, _, _⟩) (by show w.heap.size ≤ w.heap.size + 1 + 1; omega) _).setCell (p := ⟨w.heap.size + 1 + 1, _, _⟩) (by show w.heap.size ≤ w.heap.size + 1 + 1; omega) _).setCell (p := ⟨w.heap.size + 1 + 1, _, _⟩) (by show w.heap.size ≤ w.heap.size + 1 + 1; omega) _).setCell (p := ⟨w.heap.size + 1 + 1, _, _⟩) (by show w.heap.size ≤ w.heap.size + 1 + 1; omega) _).setCell (p := ⟨w.heap.size + 1 + 1, _, _⟩) (by show w.heap.size ≤ w.heap.size + 1 + 1; omega) _).setCell (p := ⟨w.heap.size + 1 + 1, _, _⟩) (by show w.heap.size ≤ w.heap.size + 1 + 1; omega) _))).mono ?_
  rintro e wx2 ⟨rfl, hp, bx⟩
  have c2_0_0 : wx2.cell? ⟨w.heap.size, 0, none⟩ = some (.int .i64 ip) := bkeep bx (by first | (simp [go_sem]; done) | simp [go_sem, c1_0_0])
  have c2_0_1 : wx2.cell? ⟨w.heap.size, 1, none⟩ = some (.int .i64 b) := bkeep bx (by first | (simp [go_sem]; done) | simp [go_sem, c1_0_1])
  have c2_0_2 : wx2.cell? ⟨w.heap.size, 2, none⟩ = some (.int .i64 gt) := bkeep bx (by first | (simp [go_sem]; done) | simp [go_sem, c1_0_2])
  have c2_0_3 : wx2.cell? ⟨w.heap.size, 3, none⟩ = some (.string gm) := bkeep bx (by first | (simp [go_sem]; done) | simp [go_sem, c1_0_3])
  have c2_0_4 : wx2.cell? ⟨w.heap.size, 4, none⟩ = some (.string wm) := bkeep bx (by first | (simp [go_sem]; done) | simp [go_sem, c1_0_4])
  have c2_0_5 : wx2.cell? ⟨w.heap.size, 5, none⟩ = some (.int .i64 rs) := bkeep bx (by first | (simp [go_sem]; done) | simp [go_sem, c1_0_5])
  have c2_0_6 : wx2.cell? ⟨w.heap.size, 6, none⟩ = some (.slice x lenx capx) := bkeep bx (by first | (simp [go_sem]; done) | simp [go_sem, c1_0_6])
  have c2_0_7 : wx2.cell? ⟨w.heap.size, 7, none⟩ = some (.slice y leny capy) := bkeep bx (by first | (simp [go_sem]; done) | simp [go_sem, c1_0_7])
  have c2_1_0 : wx2.cell? ⟨w.heap.size + 1, 0, none⟩ = some (.int .i64 0) := bkeep bx (by first | (simp [go_sem]; done) | simp [go_sem, c1_1_0])
  have f2_1_0 : wx2.frozen? ⟨w.heap.size + 1, 0, none⟩ = false := bthaw bx (v := .int .i64 0) (by first | (simp [go_sem]; done) | simp [go_sem, c1_1_0]) (by first | (simp [go_sem]; done) | simp [go_sem, f1_1_0])
  have c2_1_1 : wx2.cell? ⟨w.heap.size + 1, 1, none⟩ = some (.int .i64 0) := bkeep bx (by first | (simp [go_sem]; done) | simp [go_sem, c1_1_1])
  have f2_1_1 : wx2.frozen? ⟨w.heap.size + 1, 1, none⟩ = false := bthaw bx (v := .int .i64 0) (by first | (simp [go_sem]; done) | simp [go_sem, c1_1_1]) (by first | (simp [go_sem]; done) | simp [go_sem, f1_1_1])
  have c2_1_2 : wx2.cell? ⟨w.heap.size + 1, 2, none⟩ = some (.int .i64 0) := bkeep bx (by first | (simp [go_sem]; done) | simp [go_sem, c1_1_2])
  have f2_1_2 : wx2.frozen? ⟨w.heap.size + 1, 2, none⟩ = false := bthaw bx (v := .int .i64 0) (by first | (simp [go_sem]; done) | simp [go_sem, c1_1_2]) (by first | (simp [go_sem]; done) | simp [go_sem, f1_1_2])
  have c2_1_3 : wx2.cell? ⟨w.heap.size + 1, 3, none⟩ = some (.string ⟨#[]⟩) := bkeep bx (by first | (simp [go_sem]; done) | simp [go_sem, c1_1_3])
  have f2_1_3 : wx2.frozen? ⟨w.heap.size + 1, 3, none⟩ = false := bthaw bx (v := .string ⟨#[]⟩) (by first | (simp [go_sem]; done) | simp [go_sem, c1_1_3]) (by first | (simp [go_sem]; done) | simp [go_sem, f1_1_3])
  have c2_1_4 : wx2.cell? ⟨w.heap.size + 1, 4, none⟩ = some (.string ⟨#[]⟩) := bkeep bx (by first | (simp [go_sem]; done) | simp [go_sem, c1_1_4])
  have f2_1_4 : wx2.frozen? ⟨w.heap.size + 1, 4, none⟩ = false := bthaw bx (v := .string ⟨#[]⟩) (by first | (simp [go_sem]; done) | simp [go_sem, c1_1_4]) (by first | (simp [go_sem]; done) | simp [go_sem, f1_1_4])
  have c2_1_5 : wx2.cell? ⟨w.heap.size + 1, 5, none⟩ = some (.int .i64 0) := bkeep bx (by first | (simp [go_sem]; done) | simp [go_sem, c1_1_5])
  have f2_1_5 : wx2.frozen? ⟨w.heap.size + 1, 5, none⟩ = false := bthaw bx (v := .int .i64 0) (by first | (simp [go_sem]; done) | simp [go_sem, c1_1_5]) (by first | (simp [go_sem]; done) | simp [go_sem, f1_1_5])
  have c2_1_6 : wx2.cell? ⟨w.heap.size + 1, 6, none⟩ = some (.slice none 0 0) := bkeep bx (by first | (simp [go_sem]; done) | simp [go_sem, c1_1_6])
  have f2_1_6 : wx2.frozen? ⟨w.heap.size + 1, 6, none⟩ = false := bthaw bx (v := .slice none 0 0) (by first | (simp [go_sem]; done) | simp [go_sem, c1_1_6]) (by first | (simp [go_sem]; done) | simp [go_sem, f1_1_6])
  have c2_1_7 : wx2.cell? ⟨w.heap.size + 1, 7, none⟩ = some (.slice none 0 0) := bkeep bx (by first | (simp [go_sem]; done) | simp [go_sem, c1_1_7])
  have f2_1_7 : wx2.frozen? ⟨w.heap.size + 1, 7, none⟩ = false := bthaw bx (v := .slice none 0 0) (by first | (simp [go_sem]; done) | simp [go_sem, c1_1_7]) (by first | (simp [go_sem]; done) | simp [go_sem, f1_1_7])
  have c2_2_0 : wx2.cell? ⟨w.heap.size + 1 + 1, 0, none⟩ = some (.int .i64 ip) := bkeep bx (by first | (simp [go_sem]; done) | simp [go_sem, c1_2_0])
  have f2_2_0 : wx2.frozen? ⟨w.heap.size + 1 + 1, 0, none⟩ = false := bthaw bx (v := .int .i64 ip) (by first | (simp [go_sem]; done) | simp [go_sem, c1_2_0]) (by first | (simp [go_sem]; done) | simp [go_sem, f1_2_0])
  have c2_2_1 : wx2.cell? ⟨w.heap.size + 1 + 1, 1, none⟩ = some (.int .i64 b) := bkeep bx (by first | (simp [go_sem]; done) | simp [go_sem, c1_2_1])
  have f2_2_1 : wx2.frozen? ⟨w.heap.size + 1 + 1, 1, none⟩ = false := bthaw bx (v := .int .i64 b) (by first | (simp [go_sem]; done) | simp [go_sem, c1_2_1]) (by first | (simp [go_sem]; done) | simp [go_sem, f1_2_1])
  have c2_2_2 : wx2.cell? ⟨w.heap.size + 1 + 1, 2, none⟩ = some (.int .i64 gt) := bkeep bx (by first | (simp [go_sem]; done) | simp [go_sem, c1_2_2])
  have f2_2_2 : wx2.frozen? ⟨w.heap.size + 1 + 1, 2, none⟩ = false := bthaw bx (v := .int .i64 gt) (by first | (simp [go_sem]; done) | simp [go_sem, c1_2_2]) (by first | (simp [go_sem]; done) | simp [go_sem, f1_2_2])
  have c2_2_3 : wx2.cell? ⟨w.heap.size + 1 + 1, 3, none⟩ = some (.string gm) := bkeep bx (by first | (simp [go_sem]; done) | simp [go_sem, c1_2_3])
  have f2_2_3 : wx2.frozen? ⟨w.heap.size + 1 + 1, 3, none⟩ = false := bthaw bx (v := .string gm) (by first | (simp [go_sem]; done) | simp [go_sem, c1_2_3]) (by first | (simp [go_sem]; done) | simp [go_sem, f1_2_3])
  have c2_2_4 : wx2.cell? ⟨w.heap.size + 1 + 1, 4, none⟩ = some (.string wm) := bkeep bx (by first | (simp [go_sem]; done) | simp [go_sem, c1_2_4])
  have f2_2_4 : wx2.frozen? ⟨w.heap.size + 1 + 1, 4, none⟩ = false := bthaw bx (v := .string wm) (by first | (simp [go_sem]; done) | simp [go_sem, c1_2_4]) (by first | (simp [go_sem]; done) | simp [go_sem, f1_2_4])
  have c2_2_5 : wx2.cell? ⟨w.heap.size + 1 + 1, 5, none⟩ = some (.int .i64 rs) := bkeep bx (by first | (simp [go_sem]; done) | simp [go_sem, c1_2_5])
  have f2_2_5 : wx2.frozen? ⟨w.heap.size + 1 + 1, 5, none⟩ = false := bthaw bx (v := .int .i64 rs) (by first | (simp [go_sem]; done) | simp [go_sem, c1_2_5]) (by first | (simp [go_sem]; done) | simp [go_sem, f1_2_5])
  have c2_2_6 : wx2.cell? ⟨w.heap.size + 1 + 1, 6, none⟩ = some (.slice none 0 0) := bkeep bx (by first | (simp [go_sem]; done) | simp [go_sem, c1_2_6])
  have f2_2_6 : wx2.frozen? ⟨w.heap.size + 1 + 1, 6, none⟩ = false := bthaw bx (v := .slice none 0 0) (by first | (simp [go_sem]; done) | simp [go_sem, c1_2_6]) (by first | (simp [go_sem]; done) | simp [go_sem, f1_2_6])
  have c2_2_7 : wx2.cell? ⟨w.heap.size + 1 + 1, 7, none⟩ = some (.slice none 0 0) := bkeep bx (by first | (simp [go_sem]; done) | simp [go_sem, c1_2_7])
  have f2_2_7 : wx2.frozen? ⟨w.heap.size + 1 + 1, 7, none⟩ = false := bthaw bx (v := .slice none 0 0) (by first | (simp [go_sem]; done) | simp [go_sem, c1_2_7]) (by first | (simp [go_sem]; done) | simp [go_sem, f1_2_7])
  have BX2 : Hid (Below w.heap.size w wx2) := ((((((BX1.out.setCell (p := ⟨w.heap.size + 1 + 1, _, _⟩) (by show w.heap.size ≤ w.heap.size + 1 + 1; omega) _).setCell (p := ⟨w.heap.size + 1 + 1, _, _⟩) (by show w.heap.size ≤ w.heap.size + 1 + 1; omega) _).setCell (p := ⟨w.heap.size + 1 + 1, _, _⟩) (by show w.heap.size ≤ w.heap.size + 1 + 1; omega) _).setCell (p := ⟨w.heap.size + 1 + 1, _, _⟩) (by show w.heap.size ≤ w.heap.size + 1 + 1; omega) _).setCell (p := ⟨w.heap.size + 1 + 1, _, _⟩) (by show w.heap.size ≤ w.heap.size + 1 + 1; omega) _).setCell (p := ⟨w.heap.size + 1 + 1, _, _⟩) (by show w.heap.size ≤ w.heap.size + 1 + 1; omega) _).trans (bx.mono (by have := BX1.out.size; simp <;> omega))
  clear bx c1_0_0 c1_0_1 c1_0_2 c1_0_3 c1_0_4 c1_0_5 c1_0_6 c1_0_7 c1_1_0 c1_1_1 c1_1_2 c1_1_3 c1_1_4 c1_1_5 c1_1_6 c1_1_7 c1_2_0 c1_2_1 c1_2_2 c1_2_3 c1_2_4 c1_2_5 c1_2_6 c1_2_7 f1_1_0 f1_1_1 f1_1_2 f1_1_3 f1_1_4 f1_1_5 f1_1_6 f1_1_7 f1_2_0 f1_2_1 f1_2_2 f1_2_3 f1_2_4 f1_2_5 f1_2_6 f1_2_7 BX1
  simp [go_sem] at hp
  have P2 : Hid (Rw PlR 4 wx2 (some ⟨wx1.heap.size, 0, none⟩) ps) := hp
  clear hp
  have L2 : w.heap.size + 1 + 1 < wx2.heap.size := World.block_lt_of_cell? wx2 _ c2_2_0
  have N2o : wx2.heap.size ≠ w.heap.size + 1 + 1 := by omega
  have N2r : wx2.heap.size ≠ w.heap.size + 1 := by omega
  have M2o : w.heap.size + 1 + 1 < wx2.heap.size + 1 := by omega
  have M2r : w.heap.size + 1 < wx2.heap.size + 1 := by omega
  have P2 : Hid (Rw PlR 4 (wx2.setCell ⟨w.heap.size + 1 + 1, 6, none⟩ (.slice (some ⟨wx1.heap.size, 0, none⟩) lenx lenx)) (some ⟨wx1.heap.size, 0, none⟩) ps) := pl_away P2.out N1o
  go_wp2_with fail
  refine (HC.out _ (RY.out.keep (RoR.kp 0) (BX2.out.setCell (p := ⟨w.heap.size + 1 + 1, _, _⟩) (by show w.heap.size ≤ w.heap.size + 1 + 1; omega) _))).mono ?_
  rintro e wx3 ⟨rfl, hp, bx⟩
  have c3_0_0 : wx3.cell? ⟨w.heap.size, 0, none⟩ = some (.int .i64 ip) := bkeep bx (by first | (simp [go_sem]; done) | simp [go_sem, c2_0_0])
  have c3_0_1 : wx3.cell? ⟨w.heap.size, 1, none⟩ = some (.int .i64 b) := bkeep bx (by first | (simp [go_sem]; done) | simp [go_sem, c2_0_1])
  have c3_0_2 : wx3.cell? ⟨w.heap.size, 2, none⟩ = some (.int .i64 gt) := bkeep bx (by first | (simp [go_sem]; done) | simp [go_sem, c2_0_2])
  have c3_0_3 : wx3.cell? ⟨w.heap.size, 3, none⟩ = some (.string gm) := bkeep bx (by first | (simp [go_sem]; done) | simp [go_sem, c2_0_3])
  have c3_0_4 : wx3.cell? ⟨w.heap.size, 4, none⟩ = some (.string wm) := bkeep bx (by first | (simp [go_sem]; done) | simp [go_sem, c2_0_4])
  have c3_0_5 : wx3.cell? ⟨w.heap.size, 5, none⟩ = some (.int .i64 rs) := bkeep bx (by first | (simp [go_sem]; done) | simp [go_sem, c2_0_5])
  have c3_0_6 : wx3.cell? ⟨w.heap.size, 6, none⟩ = some (.slice x lenx capx) := bkeep bx (by first | (simp [go_sem]; done) | simp [go_sem, c2_0_6])
  have c3_0_7 : wx3.cell? ⟨w.heap.size, 7, none⟩ = some (.slice y leny capy) := bkeep bx (by first | (simp [go_sem]; done) | simp [go_sem, c2_0_7])
  have c3_1_0 : wx3.cell? ⟨w.heap.size + 1, 0, none⟩ = some (.int .i64 0) := bkeep bx (by first | (simp [go_sem]; done) | simp [go_sem, c2_1_0])
  have f3_1_0 : wx3.frozen? ⟨w.heap.size + 1, 0, none⟩ = false := bthaw bx (v := .int .i64 0) (by first | (simp [go_sem]; done) | simp [go_sem, c2_1_0]) (by first | (simp [go_sem]; done) | simp [go_sem, f2_1_0])
  have c3_1_1 : wx3.cell? ⟨w.heap.size + 1, 1, none⟩ = some (.int .i64 0) := bkeep bx (by first | (simp [go_sem]; done) | simp [go_sem, c2_1_1])
  have f3_1_1 : wx3.frozen? ⟨w.heap.size + 1, 1, none⟩ = false := bthaw bx (v := .int .i64 0) (by first | (simp [go_sem]; done) | simp [go_sem, c2_1_1]) (by first | (simp [go_sem]; done) | simp [go_sem, f2_1_1])
  have c3_1_2 : wx3.cell? ⟨w.heap.size + 1, 2, none⟩ = some (.int .i64 0) := bkeep bx (by first | (simp [go_sem]; done) | simp [go_sem, c2_1_2])
  have f3_1_2 : wx3.frozen? ⟨w.heap.size + 1, 2, none⟩ = false := bthaw bx (v := .int .i64 0) (by first | (simp [go_sem]; done) | simp [go_sem, c2_1_2]) (by first | (simp [go_sem]; done) | simp [go_sem, f2_1_2])
  have c3_1_3 : wx3.cell? ⟨w.heap.size + 1, 3, none⟩ = some (.string ⟨#[]⟩) := bkeep bx (by first | (simp [go_sem]; done) | simp [go_sem, c2_1_3])
  have f3_1_3 : wx3.frozen? ⟨w.heap.size + 1, 3, none⟩ = false := bthaw bx (v := .string ⟨#[]⟩) (by first | (simp [go_sem]; done) | simp [go_sem, c2_1_3]) (by first | (simp [go_sem]; done) | simp [go_sem, f2_1_3])
  have c3_1_4 : wx3.cell? ⟨w.heap.size + 1, 4, none⟩ = some (.string ⟨#[]⟩) := bkeep bx (by first | (simp [go_sem]; done) | simp [go_sem, c2_1_4])
  have f3_1_4 : wx3.frozen? ⟨w.heap.size + 1, 4, none⟩ = false := bthaw bx (v := .string ⟨#[]⟩) (by first | (simp [go_sem]; done) | simp [go_sem, c2_1_4]) (by first | (simp [go_sem]; done) | simp [go_sem, f2_1_4])
  have c3_1_5 : wx3.cell? ⟨w.heap.size + 1, 5, none⟩ = some (.int .i64 0) := bkeep bx (by first | (simp [go_sem]; done) | simp [go_sem, c2_1_5])
  have f3_1_5 : wx3.frozen? ⟨w.heap.size + 1, 5, none⟩ = false := bthaw bx (v := .int .i64 0) (by first | (simp [go_sem]; done) | simp [go_sem, c2_1_5]) (by first | (simp [go_sem]; done) | simp [go_sem, f2_1_5])
  have c3_1_6 : wx3.cell? ⟨w.heap.size + 1, 6, none⟩ = some (.slice none 0 0) := bkeep bx (by first | (simp [go_sem]; done) | simp [go_sem, c2_1_6])
  have f3_1_6 : wx3.frozen? ⟨w.heap.size + 1, 6, none⟩ = false := bthaw bx (v := .slice none 0 0) (by first | (simp [go_sem]; done) | simp [go_sem, c2_1_6]) (by first | (simp [go_sem]; done) | simp [go_sem, f2_1_6])
  have c3_1_7 : wx3.cell? ⟨w.heap.size + 1, 7, none⟩ = some (.slice none 0 0) := bkeep bx (by first | (simp [go_sem]; done) | simp [go_sem, c2_1_7])
  have f3_1_7 : wx3.frozen? ⟨w.heap.size + 1, 7, none⟩ = false := bthaw bx (v := .slice none 0 0) (by first | (simp [go_sem]; done) | simp [go_sem, c2_1_7]) (by first | (simp [go_sem]; done) | simp [go_sem, f2_1_7])
  have c3_2_0 : wx3.cell? ⟨w.heap.size + 1 + 1, 0, none⟩ = some (.int .i64 ip) := bkeep bx (by first | (simp [go_sem]; done) | simp [go_sem, c2_2_0])
  have f3_2_0 : wx3.frozen? ⟨w.heap.size + 1 + 1, 0, none⟩ = false := bthaw bx (v := .int .i64 ip) (by first | (simp [go_sem]; done) | simp [go_sem, c2_2_0]) (by first | (simp [go_sem]; done) | simp [go_sem, f2_2_0])
  have c3_2_1 : wx3.cell? ⟨w.heap.size + 1 + 1, 1, none⟩ = some (.int .i64 b) := bkeep bx (by first | (simp [go_sem]; done) | simp [go_sem, c2_2_1])
  have f3_2_1 : wx3.frozen? ⟨w.heap.size + 1 + 1, 1, none⟩ = false := bthaw bx (v := .int .i64 b) (by first | (simp [go_sem]; done) | simp [go_sem, c2_2_1]) (by first | (simp [go_sem]; done) | simp [go_sem, f2_2_1])
  have c3_2_2 : wx3.cell? ⟨w.heap.size + 1 + 1, 2, none⟩ = some (.int .i64 gt) := bkeep bx (by first | (simp [go_sem]; done) | simp [go_sem, c2_2_2])
  have f3_2_2 : wx3.frozen? ⟨w.heap.size + 1 + 1, 2, none⟩ = false := bthaw bx (v := .int .i64 gt) (by first | (simp [go_sem]; done) | simp [go_sem, c2_2_2]) (by first | (simp [go_sem]; done) | simp [go_sem, f2_2_2])
  have c3_2_3 : wx3.cell? ⟨w.heap.size + 1 + 1, 3, none⟩ = some (.string gm) := bkeep bx (by first | (simp [go_sem]; done) | simp [go_sem, c2_2_3])
  have f3_2_3 : wx3.frozen? ⟨w.heap.size + 1 + 1, 3, none⟩ = false := bthaw bx (v := .string gm) (by first | (simp [go_sem]; done) | simp [go_sem, c2_2_3]) (by first | (simp [go_sem]; done) | simp [go_sem, f2_2_3])
  have c3_2_4 : wx3.cell? ⟨w.heap.size + 1 + 1, 4, none⟩ = some (.string wm) := bkeep bx (by first | (simp [go_sem]; done) | simp [go_sem, c2_2_4])
  have f3_2_4 : wx3.frozen? ⟨w.heap.size + 1 + 1, 4, none⟩ = false := bthaw bx (v := .string wm) (by first | (simp [go_sem]; done) | simp [go_sem, c2_2_4]) (by first | (simp [go_sem]; done) | simp [go_sem, f2_2_4])
  have c3_2_5 : wx3.cell? ⟨w.heap.size + 1 + 1, 5, none⟩ = some (.int .i64 rs) := bkeep bx (by first | (simp [go_sem]; done) | simp [go_sem, c2_2_5])
  have f3_2_5 : wx3.frozen? ⟨w.heap.size + 1 + 1, 5, none⟩ = false := bthaw bx (v := .int .i64 rs) (by first | (simp [go_sem]; done) | simp [go_sem, c2_2_5]) (by first | (simp [go_sem]; done) | simp [go_sem, f2_2_5])
  have c3_2_6 : wx3.cell? ⟨w.heap.size + 1 + 1, 6, none⟩ = some (.slice (some ⟨wx1.heap.size, 0, none⟩) lenx lenx) := bkeep bx (by first | (simp [go_sem]; done) | simp [go_sem, c2_2_6])
  have f3_2_6 : wx3.frozen? ⟨w.heap.size + 1 + 1, 6, none⟩ = false := bthaw bx (v := .slice (some ⟨wx1.heap.size, 0, none⟩) lenx lenx) (by first | (simp [go_sem]; done) | simp [go_sem, c2_2_6]) (by first | (simp [go_sem]; done) | simp [go_sem, f2_2_6])
  have c3_2_7 : wx3.cell? ⟨w.heap.size + 1 + 1, 7, none⟩ = some (.slice none 0 0) := bkeep bx (by first | (simp [go_sem]; done) | simp [go_sem, c2_2_7])
  have f3_2_7 : wx3.frozen? ⟨w.heap.size + 1 + 1, 7, none⟩ = false := bthaw bx (v := .slice none 0 0) (by first | (simp [go_sem]; done) | simp [go_sem, c2_2_7]) (by first | (simp [go_sem]; done) | simp [go_sem, f2_2_7])
  have BX3 : Hid (Below w.heap.size w wx3) := (BX2.out.setCell (p := ⟨w.heap.size + 1 + 1, _, _⟩) (by show w.heap.size ≤ w.heap.size + 1 + 1; omega) _).trans (bx.mono (by have := BX2.out.size; simp <;> omega))
  have P3 : Hid (Rw PlR 4 wx3 (some ⟨wx1.heap.size, 0, none⟩) ps) := P2.out.keep PlR.kp bx
  clear bx c2_0_0 c2_0_1 c2_0_2 c2_0_3 c2_0_4 c2_0_5 c2_0_6 c2_0_7 c2_1_0 c2_1_1 c2_1_2 c2_1_3 c2_1_4 c2_1_5 c2_1_6 c2_1_7 c2_2_0 c2_2_1 c2_2_2 c2_2_3 c2_2_4 c2_2_5 c2_2_6 c2_2_7 f2_1_0 f2_1_1 f2_1_2 f2_1_3 f2_1_4 f2_1_5 f2_1_6 f2_1_7 f2_2_0 f2_2_1 f2_2_2 f2_2_3 f2_2_4 f2_2_5 f2_2_6 f2_2_7 BX2
  simp [go_sem] at hp
  have R3 : Hid (Rw (RoR (wx2.heap.size + 1)) 5 wx3 (some ⟨wx2.heap.size, 0, none⟩) ros) := hp
  clear hp P2
  go_wp2
  (try simp only [Exit.inBlock, Exit.then])
  refine bodyPost_ret (v := .agg #[.int .i64 ip, .int .i64 b, .int .i64 gt, .string gm, .string wm, .int .i64 rs, .slice (some ⟨wx1.heap.size, 0, none⟩) lenx lenx, .slice (some ⟨wx2.heap.size, 0, none⟩) leny leny]) (by simp [results, Tryz.results11, go_sem, c3_1_0, c3_1_1, c3_1_2, c3_1_3, c3_1_4, c3_1_5, c3_1_6, c3_1_7]; try rfl) rfl ?_
  refine ⟨wx1.heap.size, wx2.heap.size, by omega, by omega, rfl, ⟨?_, Rw_lower (g := wx2.heap.size + 1) ?_ (by omega)⟩, (((((((((BX3.out.setCell (p := ⟨w.heap.size + 1 + 1, _, _⟩) (by show w.heap.size ≤ w.heap.size + 1 + 1; omega) _).setCell (p := ⟨w.heap.size + 1, _, _⟩) (by show w.heap.size ≤ w.heap.size + 1; omega) _).setCell (p := ⟨w.heap.size + 1, _, _⟩) (by show w.heap.size ≤ w.heap.size + 1; omega) _).setCell (p := ⟨w.heap.size + 1, _, _⟩) (by show w.heap.size ≤ w.heap.size + 1; omega) _).setCell (p := ⟨w.heap.size + 1, _, _⟩) (by show w.heap.size ≤ w.heap.size + 1; omega) _).setCell (p := ⟨w.heap.size + 1, _, _⟩) (by show w.heap.size ≤ w.heap.size + 1; omega) _).setCell (p := ⟨w.heap.size + 1, _, _⟩) (by show w.heap.size ≤ w.heap.size + 1; omega) _).setCell (p := ⟨w.heap.size + 1, _, _⟩) (by show w.heap.size ≤ w.heap.size + 1; omega) _).setCell (p := ⟨w.heap.size + 1, _, _⟩) (by show w.heap.size ≤ w.heap.size + 1; omega) _)⟩
  · exact (pl_away (pl_away (pl_away (pl_away (pl_away (pl_away (pl_away (pl_away (pl_away P3.out N1o) N1r) N1r) N1r) N1r) N1r) N1r) N1r) N1r)
  · exact (ro_away (ro_away (ro_away (ro_away (ro_away (ro_away (ro_away (ro_away (ro_away R3.out N2o M2o) N2r M2r) N2r M2r) N2r M2r) N2r M2r) N2r M2r) N2r M2r) N2r M2r) N2r M2r)
theorem toConfig_any (ip b gt : Int) (gm wm : ByteArray) (rs : Int) (x y : Option Addr) (lenx capx leny capy : Nat) (ps : List PlaceV) (ros : List RoleV) (w : World) (h : Rw PlR 4 w x ps) (hl : ps.length = lenx) (h2 : Rw (RoR 0) 5 w y ros) (hl2 : ros.length = leny) (hx : lenx ≤ 1048576) (hy : leny ≤ 1048576) (hsz : SzR ros) :
    Calls Tryz.prog 11 #[.agg #[.int .i64 ip, .int .i64 b, .int .i64 gt, .string gm, .string wm, .int .i64 rs, .slice x lenx capx, .slice y leny capy]] w fun e w' => ∃ xa ya, e = .returned (.agg #[.int .i64 ip, .int .i64 b, .int .i64 gt, .string gm, .string wm, .int .i64 rs, .slice xa lenx lenx, .slice ya leny leny]) ∧ (Rw PlR 4 w' xa ps ∧ Rw (RoR 0) 5 w' ya ros) ∧ Below w.heap.size w w' := (toConfig_at ip b gt gm wm rs x y lenx capx leny capy ps ros w h hl h2 hl2 hx hy hsz).mono fun e w' ⟨b1, b2, _, _, he, hr, hb⟩ => ⟨_, _, he, ⟨hr.1, Rw_lower hr.2 (Nat.zero_le _)⟩, hb⟩

set_option maxHeartbeats 2000000 in
theorem eqConfig_caps (ip b gt : Int) (gm wm : ByteArray) (rs : Int) (xa ya xb yb : Option Addr) (lenx leny cxa cya cxb cyb : Nat) (ps : List PlaceV) (ros : List RoleV) (w : World) (h : Rw PlR 4 w xa ps) (h' : Rw PlR 4 w xb ps) (hl : ps.length = lenx) (h2 : Rw (RoR 0) 5 w ya ros) (h2' : Rw (RoR 0) 5 w yb ros) (hl2 : ros.length = leny) (hx : lenx ≤ 1048576) (hy : leny ≤ 1048576) (hsz : SzR ros) :
    Calls Tryz.prog 15 #[.agg #[.int .i64 ip, .int .i64 b, .int .i64 gt, .string gm, .string wm, .int .i64 rs, .slice xa lenx cxa, .slice ya leny cya], .agg #[.int .i64 ip, .int .i64 b, .int .i64 gt, .string gm, .string wm, .int .i64 rs, .slice xb lenx cxb, .slice yb leny cyb]] w fun e w' => e = .returned (.bool true) ∧ Grw w w' := by
  have RX : Hid (Rw PlR 4 w xa ps ∧ Rw PlR 4 w xb ps) := ⟨h, h'⟩
  have RY : Hid (Rw (RoR 0) 5 w ya ros ∧ Rw (RoR 0) 5 w yb ros) := ⟨h2, h2'⟩
  have HA : Hid (∀ w, Calls Tryz.prog 53 #[.agg #[.int .i64 ip, .int .i64 b], .agg #[.int .i64 ip, .int .i64 b]] w fun e w' => e = .returned (.bool true) ∧ Grw w w') := fun w => eqNet2 ip b w
  have HB : Hid (∀ w, Rw PlR 4 w xa ps → Rw PlR 4 w xb ps → Calls Tryz.prog 54 #[.slice xa lenx cxa, .slice xb lenx cxb] w fun e w' => e = .returned (.bool true) ∧ Grw w w') := fun w h h' => eqPlaceS_yes xa xb lenx cxa cxb ps w h h' hl hx
  have HC : Hid (∀ w, Rw (RoR 0) 5 w ya ros → Rw (RoR 0) 5 w yb ros → Calls Tryz.prog 55 #[.slice ya leny cya, .slice yb leny cyb] w fun e w' => e = .returned (.bool true) ∧ Grw w w') := fun w h h' => eqRoleS_yes ya yb leny cya cyb ros w h h' hl2 hy hsz
  clear h h' h2 h2' hsz
  have n0 : (gt != gt) = false := by simp
  have n1 : (gm.toList == gm.toList) = true := by simp
  have n2 : (wm.toList == wm.toList) = true := by simp
  have n3 : (rs != rs) = false := by simp
  go_enter Tryz.func15, Tryz.ntmps15
  go_wp2_with fail
  refine (HA.out _).mono ?_
  rintro e wx1 ⟨rfl, bx⟩
  have k0_0 : World.cell? _ ⟨w.heap.size, 0, none⟩ = some (.int .i64 ip) := bx.keep (a := ⟨w.heap.size, 0, none⟩) (v := .int .i64 ip) (by simp [go_sem])
  have k0_1 : World.cell? _ ⟨w.heap.size, 1, none⟩ = some (.int .i64 b) := bx.keep (a := ⟨w.heap.size, 1, none⟩) (v := .int .i64 b) (by simp [go_sem])
  have k0_2 : World.cell? _ ⟨w.heap.size, 2, none⟩ = some (.int .i64 gt) := bx.keep (a := ⟨w.heap.size, 2, none⟩) (v := .int .i64 gt) (by simp [go_sem])
  have k0_3 : World.cell? _ ⟨w.heap.size, 3, none⟩ = some (.string gm) := bx.keep (a := ⟨w.heap.size, 3, none⟩) (v := .string gm) (by simp [go_sem])
  have k0_4 : World.cell? _ ⟨w.heap.size, 4, none⟩ = some (.string wm) := bx.keep (a := ⟨w.heap.size, 4, none⟩) (v := .string wm) (by simp [go_sem])
  have k0_5 : World.cell? _ ⟨w.heap.size, 5, none⟩ = some (.int .i64 rs) := bx.keep (a := ⟨w.heap.size, 5, none⟩) (v := .int .i64 rs) (by simp [go_sem])
  have k0_6 : World.cell? _ ⟨w.heap.size, 6, none⟩ = some (.slice xa lenx cxa) := bx.keep (a := ⟨w.heap.size, 6, none⟩) (v := .slice xa lenx cxa) (by simp [go_sem])
  have k0_7 : World.cell? _ ⟨w.heap.size, 7, none⟩ = some (.slice ya leny cya) := bx.keep (a := ⟨w.heap.size, 7, none⟩) (v := .slice ya leny cya) (by simp [go_sem])
  have k1_0 : World.cell? _ ⟨w.heap.size + 1, 0, none⟩ = some (.int .i64 ip) := bx.keep (a := ⟨w.heap.size + 1, 0, none⟩) (v := .int .i64 ip) (by simp [go_sem])
  have k1_1 : World.cell? _ ⟨w.heap.size + 1, 1, none⟩ = some (.int .i64 b) := bx.keep (a := ⟨w.heap.size + 1, 1, none⟩) (v := .int .i64 b) (by simp [go_sem])
  have k1_2 : World.cell? _ ⟨w.heap.size + 1, 2, none⟩ = some (.int .i64 gt) := bx.keep (a := ⟨w.heap.size + 1, 2, none⟩) (v := .int .i64 gt) (by simp [go_sem])
  have k1_3 : World.cell? _ ⟨w.heap.size + 1, 3, none⟩ = some (.string gm) := bx.keep (a := ⟨w.heap.size + 1, 3, none⟩) (v := .string gm) (by simp [go_sem])
  have k1_4 : World.cell? _ ⟨w.heap.size + 1, 4, none⟩ = some (.string wm) := bx.keep (a := ⟨w.heap.size + 1, 4, none⟩) (v := .string wm) (by simp [go_sem])
  have k1_5 : World.cell? _ ⟨w.heap.size + 1, 5, none⟩ = some (.int .i64 rs) := bx.keep (a := ⟨w.heap.size + 1, 5, none⟩) (v := .int .i64 rs) (by simp [go_sem])
  have k1_6 : World.cell? _ ⟨w.heap.size + 1, 6, none⟩ = some (.slice xb lenx cxb) := bx.keep (a := ⟨w.heap.size + 1, 6, none⟩) (v := .slice xb lenx cxb) (by simp [go_sem])
  have k1_7 : World.cell? _ ⟨w.heap.size + 1, 7, none⟩ = some (.slice yb leny cyb) := bx.keep (a := ⟨w.heap.size + 1, 7, none⟩) (v := .slice yb leny cyb) (by simp [go_sem])
  have BX : Hid (Grw w _) := (((Grw.refl _).alloc _).alloc _).trans bx
  clear bx
  go_wp2_with fail
  refine (HB.out _ (RX.out.1.keep PlR.kp BX.out.below) (RX.out.2.keep PlR.kp BX.out.below)).mono ?_
  rintro e wx2 ⟨rfl, bx⟩
  replace k0_0 := bx.keep k0_0
  replace k0_1 := bx.keep k0_1
  replace k0_2 := bx.keep k0_2
  replace k0_3 := bx.keep k0_3
  replace k0_4 := bx.keep k0_4
  replace k0_5 := bx.keep k0_5
  replace k0_6 := bx.keep k0_6
  replace k0_7 := bx.keep k0_7
  replace k1_0 := bx.keep k1_0
  replace k1_1 := bx.keep k1_1
  replace k1_2 := bx.keep k1_2
  replace k1_3 := bx.keep k1_3
  replace k1_4 := bx.keep k1_4
  replace k1_5 := bx.keep k1_5
  replace k1_6 := bx.keep k1_6
  replace k1_7 := bx.keep k1_7
  replace BX : Hid (Grw w _) := BX.out.trans bx
  clear bx
  go_wp2_with fail
  refine (HC.out _ (RY.out.1.keep (RoR.kp 0) BX.out.below) (RY.out.2.keep (RoR.kp 0) BX.out.below)).mono ?_
  rintro e wx3 ⟨rfl, bx⟩
  replace k0_0 := bx.keep k0_0
  replace k0_1 := bx.keep k0_1
  replace k0_2 := bx.keep k0_2
  replace k0_3 := bx.keep k0_3
  replace k0_4 := bx.keep k0_4
  replace k0_5 := bx.keep k0_5
  replace k0_6 := bx.keep k0_6
  replace k0_7 := bx.keep k0_7
  replace k1_0 := bx.keep k1_0
  replace k1_1 := bx.keep k1_1
  replace k1_2 := bx.keep k1_2
  replace k1_3 := bx.keep k1_3
  replace k1_4 := bx.keep k1_4
  replace k1_5 := bx.keep k1_5
  replace k1_6 := bx.keep k1_6
  replace k1_7 := bx.keep k1_7
  replace BX : Hid (Grw w _) := BX.out.trans bx
  clear bx
  go_wp2
  go_ret
  exact ⟨rfl, BX.out⟩
theorem eqConfig_yes (ip b gt : Int) (gm wm : ByteArray) (rs : Int) (xa ya xb yb : Option Addr) (lenx leny : Nat) (ps : List PlaceV) (ros : List RoleV) (w : World) (h : Rw PlR 4 w xa ps) (h' : Rw PlR 4 w xb ps) (hl : ps.length = lenx) (h2 : Rw (RoR 0) 5 w ya ros) (h2' : Rw (RoR 0) 5 w yb ros) (hl2 : ros.length = leny) (hx : lenx ≤ 1048576) (hy : leny ≤ 1048576) (hsz : SzR ros) :
    Calls Tryz.prog 15 #[.agg #[.int .i64 ip, .int .i64 b, .int .i64 gt, .string gm, .string wm, .int .i64 rs, .slice xa lenx lenx, .slice ya leny leny], .agg #[.int .i64 ip, .int .i64 b, .int .i64 gt, .string gm, .string wm, .int .i64 rs, .slice xb lenx lenx, .slice yb leny leny]] w fun e w' => e = .returned (.bool true) ∧ Grw w w' := eqConfig_caps ip b gt gm wm rs xa ya xb yb lenx leny lenx leny lenx leny ps ros w h h' hl h2 h2' hl2 hx hy hsz

end Go.Proofs.YtlebblmlbhnppaaGreat

namespace Go.Proofs.YtlebblmlbhnppaaGreat
open Go.RowKit Go.PlainAid Go.Proofs.YtlebblmlbhnppaaGreat.Bt Go.Sort
set_option linter.unusedVariables false
set_option maxRecDepth 20000
theorem gkeep {w w' : World} (h : Below w.heap.size w w') {a : Addr} {v : Value} (hc : w.cell? a = some v) : w'.cell? a = some v := by
  rw [h.cell (World.block_lt_of_cell? w a hc)]; exact hc

set_option maxHeartbeats 2000000 in
theorem toUser_any (nm : ByteArray) (sa : ByteArray) (ha : ByteArray) (ro : ByteArray) (bl : Int) (lg : Int) (w : World) :
    Calls Tryz.prog 116 #[.agg #[.string nm, .string sa, .string ha, .string ro, .int .i64 bl, .int .i64 lg]] w fun e w' => e = .returned (.agg #[.string nm, .string sa, .string ha, .string ro, .int .i64 bl, .int .i64 lg]) ∧ Below w.heap.size w w' := by
  go_enter Tryz.func116, Tryz.ntmps116
  go_wp2
  (try simp only [Exit.inBlock, Exit.then])
  refine bodyPost_ret (v := .agg #[.string nm, .string sa, .string ha, .string ro, .int .i64 bl, .int .i64 lg]) (by simp [results, Tryz.results116, go_sem]; try rfl) rfl ?_
  exact ⟨rfl, ((((Grw.refl _).alloc _).alloc _).alloc _).below⟩
set_option maxHeartbeats 1000000 in
theorem eqUser_any (nm : ByteArray) (sa : ByteArray) (ha : ByteArray) (ro : ByteArray) (bl : Int) (lg : Int) (w : World) :
    Calls Tryz.prog 135 #[.agg #[.string nm, .string sa, .string ha, .string ro, .int .i64 bl, .int .i64 lg], .agg #[.string nm, .string sa, .string ha, .string ro, .int .i64 bl, .int .i64 lg]] w fun e w' => e = .returned (.bool true) ∧ Grw w w' := by
  have h0 : (nm.toList == nm.toList) = true := by simp
  have h1 : (sa.toList == sa.toList) = true := by simp
  have h2 : (ha.toList == ha.toList) = true := by simp
  have h3 : (ro.toList == ro.toList) = true := by simp
  have h4 : (bl != bl) = false := by simp
  have h5 : (lg != lg) = false := by simp
  go_enter Tryz.func135, Tryz.ntmps135
  go_wp2
  go_ret
  exact ⟨rfl, ((Grw.refl _).alloc _).alloc _⟩
theorem infoUser : (Tryz.prog.info? 144).map (fun i => (i.zero, i.size, i.bytes)) = some (some (.agg #[.string ⟨#[]⟩, .string ⟨#[]⟩, .string ⟨#[]⟩, .string ⟨#[]⟩, .int .i64 0, .int .i64 0]), 6, 80) := by kernel_rfl
set_option maxHeartbeats 2000000 in
theorem toUserS_any (a : Option Addr) (len cap : Nat) (xs : List UserV) (w : World) (h : Rw UsR 6 w a xs) (hl : xs.length = len) (hc : len ≤ 1048576) :
    Calls Tryz.prog 45 #[.slice a len cap] w fun e w' => e = .returned (.slice (some ⟨w.heap.size, 0, none⟩) len len) ∧ Rw UsR 6 w' (some ⟨w.heap.size, 0, none⟩) xs ∧ w.heap.size < w'.heap.size ∧ Below w.heap.size w w' := by
  have RW : Hid (Rw UsR 6 w a xs) := h
  clear h
  obtain ⟨i0, hi, hz0, hz1, hz2⟩ := info_parts infoUser
  have hmk := run_make (P := Tryz.prog) w 41 144 i0 (.agg #[.string ⟨#[]⟩, .string ⟨#[]⟩, .string ⟨#[]⟩, .string ⟨#[]⟩, .int .i64 0, .int .i64 0]) Tryz.underlying41 hi hz0 .i64 .i64 len len (by omega) (Int.le_refl _) (by rw [hz2]; omega) (by omega)
  rw [hz1, Int.toNat_natCast] at hmk
  have HM : Hid ((w.alloc (.cells (madeCells #[.string ⟨#[]⟩, .string ⟨#[]⟩, .string ⟨#[]⟩, .string ⟨#[]⟩, .int .i64 0, .int .i64 0] (len * 6)) 144)).ownsRow w.heap.size 144 6 (.slice (some ⟨w.heap.size, 0, none⟩) len len) len (madeCells #[.string ⟨#[]⟩, .string ⟨#[]⟩, .string ⟨#[]⟩, .string ⟨#[]⟩, .int .i64 0, .int .i64 0] (len * 6)).toList ∧ Below w.heap.size w (w.alloc (.cells (madeCells #[.string ⟨#[]⟩, .string ⟨#[]⟩, .string ⟨#[]⟩, .string ⟨#[]⟩, .int .i64 0, .int .i64 0] (len * 6)) 144))) := ⟨owns_made w _ _ len 6 _ (Nat.le_refl _) (by unfold maxLen; omega), (Below.refl _ _).alloc (Nat.le_refl _) _⟩
  have hmk2 : (Instr.makeSlice 41 (.int .i64 (len : Int)) (.int .i64 (len : Int))).run Tryz.prog w = .ok (.slice (some ⟨w.heap.size, 0, none⟩) len len) (w.alloc (.cells (madeCells #[.string ⟨#[]⟩, .string ⟨#[]⟩, .string ⟨#[]⟩, .string ⟨#[]⟩, .int .i64 0, .int .i64 0] (len * 6)) 144)) := hmk
  clear hmk hi hz0 hz1 hz2
  obtain ⟨W, hW⟩ : ∃ W, W = w.alloc (.cells (madeCells #[.string ⟨#[]⟩, .string ⟨#[]⟩, .string ⟨#[]⟩, .string ⟨#[]⟩, .int .i64 0, .int .i64 0] (len * 6)) 144) := ⟨_, rfl⟩
  rw [← hW] at HM hmk2
  clear hW
  go_enter Tryz.func45, Tryz.ntmps45
  go_wp2
  go_loopw [4] (fun i wr => ∃ (k : Nat) (F : List Value), k ≤ len ∧ i = .int .i64 k ∧ Hid (wr.ownsRow w.heap.size 144 6 (.slice (some ⟨w.heap.size, 0, none⟩) len len) len F ∧ Cop UsR 6 wr F xs k ∧ Below w.heap.size w wr)) (fun i _ => len - (intOf i).toNat)
  case atStart => exact ⟨0, _, Nat.zero_le _, rfl, HM.out.1, Cop.zero, HM.out.2⟩
  case round =>
    obtain ⟨k, F, hk, rfl, X⟩ := hrel
    by_cases hlt : k < len
    · obtain ⟨x, hx⟩ := at_of hl hlt
      obtain ⟨b, off, vs, rfl, hb, hvl, hR, hc⟩ := RW.out.at UsR.kp X.out.2.2 hx
      obtain ⟨nm, sa, ha, ro, bl, lg⟩ := x
      obtain ⟨rfl, hok⟩ := hR
      have HK : Hid (UsRok ⟨nm, sa, ha, ro, bl, lg⟩) := hok
      clear hok
      have q0 : wr.cell? ⟨b, off + k * 6, none⟩ = some (.string nm) := hc 0 _ rfl
      have q1 : wr.cell? ⟨b, off + k * 6 + 1, none⟩ = some (.string sa) := hc 1 _ rfl
      have q2 : wr.cell? ⟨b, off + k * 6 + 2, none⟩ = some (.string ha) := hc 2 _ rfl
      have q3 : wr.cell? ⟨b, off + k * 6 + 3, none⟩ = some (.string ro) := hc 3 _ rfl
      have q4 : wr.cell? ⟨b, off + k * 6 + 4, none⟩ = some (.int .i64 bl) := hc 4 _ rfl
      have q5 : wr.cell? ⟨b, off + k * 6 + 5, none⟩ = some (.int .i64 lg) := hc 5 _ rfl
      have HT : Hid (∀ w, Calls Tryz.prog 116 #[.agg #[.string nm, .string sa, .string ha, .string ro, .int .i64 bl, .int .i64 lg]] w fun e w' => e = .returned (.agg #[.string nm, .string sa, .string ha, .string ro, .int .i64 bl, .int .i64 lg]) ∧ Below w.heap.size w w') := fun w => toUser_any nm sa ha ro bl lg w
      have hltz : (k : Int) < (len : Int) := by omega
      clear hc
      go_wp2_with fail
      refine (HT.out _).mono ?_
      rintro e w1 ⟨rfl, b1⟩
      have o1 := owns_now X.out.1 b1
      obtain ⟨⟨u0, c0⟩, z0⟩ := owns_cell o1 (j := 0) hlt (by omega)
      obtain ⟨⟨u1, c1⟩, z1⟩ := owns_cell o1 (j := 1) hlt (by omega)
      obtain ⟨⟨u2, c2⟩, z2⟩ := owns_cell o1 (j := 2) hlt (by omega)
      obtain ⟨⟨u3, c3⟩, z3⟩ := owns_cell o1 (j := 3) hlt (by omega)
      obtain ⟨⟨u4, c4⟩, z4⟩ := owns_cell o1 (j := 4) hlt (by omega)
      obtain ⟨⟨u5, c5⟩, z5⟩ := owns_cell o1 (j := 5) hlt (by omega)
      replace c0 : w1.cell? ⟨w.heap.size, k * 6, none⟩ = some u0 := c0
      replace z0 : w1.frozen? ⟨w.heap.size, k * 6, none⟩ = false := z0
      have Y0 : ∀ W1, W1 = (((((w1.setCell ⟨w.heap.size, k * 6, none⟩ (.string nm)).setCell ⟨w.heap.size, k * 6 + 1, none⟩ (.string sa)).setCell ⟨w.heap.size, k * 6 + 2, none⟩ (.string ha)).setCell ⟨w.heap.size, k * 6 + 3, none⟩ (.string ro)).setCell ⟨w.heap.size, k * 6 + 4, none⟩ (.int .i64 bl)).setCell ⟨w.heap.size, k * 6 + 5, none⟩ (.int .i64 lg) → W1.ownsRow w.heap.size 144 6 (.slice (some ⟨w.heap.size, 0, none⟩) len len) len (sets F (k * 6) [.string nm, .string sa, .string ha, .string ro, .int .i64 bl, .int .i64 lg]) ∧ Cop UsR 6 W1 (sets F (k * 6) [.string nm, .string sa, .string ha, .string ro, .int .i64 bl, .int .i64 lg]) xs (k + 1) ∧ Below w.heap.size w W1 := by
        intro W1 hW1
        have h2 := owns_sets [.string nm, .string sa, .string ha, .string ro, .int .i64 bl, .int .i64 lg] _ _ (k * 6) o1
        rw [wsets6, ← hW1] at h2
        have hF : k * 6 + 6 ≤ F.length := by
          rw [X.out.1.1]
          have : (k + 1) * 6 ≤ len * 6 := Nat.mul_le_mul_right _ hlt
          omega
        have c2 : Cop UsR 6 W1 F xs k := Cop.keep X.out.2.1 (fun x vs h => h)
        have c3 := Cop.step (vs := [.string nm, .string sa, .string ha, .string ro, .int .i64 bl, .int .i64 lg]) c2 hx ⟨rfl, HK.out⟩ rfl hF
        exact ⟨h2.1, c3, (X.out.2.2.trans (b1.mono X.out.2.2.size)).trans (below_row h2.2 (Nat.le_refl _) (Nat.le_trans X.out.2.2.size b1.size))⟩
      have Y : Hid (((((((w1.setCell ⟨w.heap.size, k * 6, none⟩ (.string nm)).setCell ⟨w.heap.size, k * 6 + 1, none⟩ (.string sa)).setCell ⟨w.heap.size, k * 6 + 2, none⟩ (.string ha)).setCell ⟨w.heap.size, k * 6 + 3, none⟩ (.string ro)).setCell ⟨w.heap.size, k * 6 + 4, none⟩ (.int .i64 bl)).setCell ⟨w.heap.size, k * 6 + 5, none⟩ (.int .i64 lg)).ownsRow w.heap.size 144 6 (.slice (some ⟨w.heap.size, 0, none⟩) len len) len (sets F (k * 6) [.string nm, .string sa, .string ha, .string ro, .int .i64 bl, .int .i64 lg]) ∧ Cop UsR 6 ((((((w1.setCell ⟨w.heap.size, k * 6, none⟩ (.string nm)).setCell ⟨w.heap.size, k * 6 + 1, none⟩ (.string sa)).setCell ⟨w.heap.size, k * 6 + 2, none⟩ (.string ha)).setCell ⟨w.heap.size, k * 6 + 3, none⟩ (.string ro)).setCell ⟨w.heap.size, k * 6 + 4, none⟩ (.int .i64 bl)).setCell ⟨w.heap.size, k * 6 + 5, none⟩ (.int .i64 lg)) (sets F (k * 6) [.string nm, .string sa, .string ha, .string ro, .int .i64 bl, .int .i64 lg]) xs (k + 1) ∧ Below w.heap.size w ((((((w1.setCell ⟨w.heap.size, k * 6, none⟩ (.string nm)).setCell ⟨w.heap.size, k * 6 + 1, none⟩ (.string sa)).setCell ⟨w.heap.size, k * 6 + 2, none⟩ (.string ha)).setCell ⟨w.heap.size, k * 6 + 3, none⟩ (.string ro)).setCell ⟨w.heap.size, k * 6 + 4, none⟩ (.int .i64 bl)).setCell ⟨w.heap.size, k * 6 + 5, none⟩ (.int .i64 lg))) := Y0 _ rfl
      clear Y0
      clear o1 b1 q0 q1 q2 q3 q4 q5 HT X HM hmk2 hx HK
      go_wp2
      go_roundw
      case rel => exact ⟨k + 1, _, by omega, by go_num, Y⟩
      case measure => simp [intOf]; omega
    · obtain rfl : k = len := by omega
      go_wp2
      go_ret
      exact ⟨rfl, X.out.2.1.rw X.out.1 hl, (World.ownsRow.lt X.out.1 w.heap.size rfl).2, X.out.2.2⟩
set_option maxHeartbeats 2000000 in
theorem eqUserS_yes (a a' : Option Addr) (len cap cap' : Nat) (xs : List UserV) (w : World) (h : Rw UsR 6 w a xs) (h' : Rw UsR 6 w a' xs) (hl : xs.length = len) (hlen : len ≤ 9223372036854775807) :
    Calls Tryz.prog 56 #[.slice a len cap, .slice a' len cap'] w fun e w' => e = .returned (.bool true) ∧ Grw w w' := by
  have hne : ((len : Int) != (len : Int)) = false := by simp
  have hmix : Tryz.prog.follows .mixedOrders = true := by kernel_rfl
  have RW : Hid (Rw UsR 6 w a xs) := h
  have RW' : Hid (Rw UsR 6 w a' xs) := h'
  clear h h'
  go_enter Tryz.func56, Tryz.ntmps56
  go_wp2
  go_loopw [5] (fun i wr => ∃ k : Nat, k ≤ len ∧ i = .int .i64 k ∧ Hid (Grw w wr)) (fun i _ => len - (intOf i).toNat)
  case atStart => exact ⟨0, Nat.zero_le _, rfl, Grw.refl w⟩
  case round =>
    obtain ⟨k, hk, rfl, HG⟩ := hrel
    by_cases hlt : k < len
    · obtain ⟨x, hx⟩ := at_of hl hlt
      obtain ⟨b, off, vs, rfl, hb, hvl, hR, hc⟩ := RW.out.at UsR.kp HG.out.below hx
      obtain ⟨b', off', vs', rfl, hb', hvl', hR', hc'⟩ := RW'.out.at UsR.kp HG.out.below hx
      obtain ⟨nm, sa, ha, ro, bl, lg⟩ := x
      obtain ⟨rfl, -⟩ := hR
      obtain ⟨rfl, -⟩ := hR'
      have q0 : ∀ n os, (grow (wr.drewN n) os).cell? ⟨b, off + k * 6, none⟩ = some (.string nm) := fun n os => grown_cell hb HG.out (hc 0 _ rfl) n os
      have q1 : ∀ n os, (grow (wr.drewN n) os).cell? ⟨b, off + k * 6 + 1, none⟩ = some (.string sa) := fun n os => grown_cell hb HG.out (hc 1 _ rfl) n os
      have q2 : ∀ n os, (grow (wr.drewN n) os).cell? ⟨b, off + k * 6 + 2, none⟩ = some (.string ha) := fun n os => grown_cell hb HG.out (hc 2 _ rfl) n os
      have q3 : ∀ n os, (grow (wr.drewN n) os).cell? ⟨b, off + k * 6 + 3, none⟩ = some (.string ro) := fun n os => grown_cell hb HG.out (hc 3 _ rfl) n os
      have q4 : ∀ n os, (grow (wr.drewN n) os).cell? ⟨b, off + k * 6 + 4, none⟩ = some (.int .i64 bl) := fun n os => grown_cell hb HG.out (hc 4 _ rfl) n os
      have q5 : ∀ n os, (grow (wr.drewN n) os).cell? ⟨b, off + k * 6 + 5, none⟩ = some (.int .i64 lg) := fun n os => grown_cell hb HG.out (hc 5 _ rfl) n os
      have r0 : ∀ n os, (grow (wr.drewN n) os).cell? ⟨b', off' + k * 6, none⟩ = some (.string nm) := fun n os => grown_cell hb' HG.out (hc' 0 _ rfl) n os
      have r1 : ∀ n os, (grow (wr.drewN n) os).cell? ⟨b', off' + k * 6 + 1, none⟩ = some (.string sa) := fun n os => grown_cell hb' HG.out (hc' 1 _ rfl) n os
      have r2 : ∀ n os, (grow (wr.drewN n) os).cell? ⟨b', off' + k * 6 + 2, none⟩ = some (.string ha) := fun n os => grown_cell hb' HG.out (hc' 2 _ rfl) n os
      have r3 : ∀ n os, (grow (wr.drewN n) os).cell? ⟨b', off' + k * 6 + 3, none⟩ = some (.string ro) := fun n os => grown_cell hb' HG.out (hc' 3 _ rfl) n os
      have r4 : ∀ n os, (grow (wr.drewN n) os).cell? ⟨b', off' + k * 6 + 4, none⟩ = some (.int .i64 bl) := fun n os => grown_cell hb' HG.out (hc' 4 _ rfl) n os
      have r5 : ∀ n os, (grow (wr.drewN n) os).cell? ⟨b', off' + k * 6 + 5, none⟩ = some (.int .i64 lg) := fun n os => grown_cell hb' HG.out (hc' 5 _ rfl) n os
      have HE : Hid (∀ w, Calls Tryz.prog 135 #[.agg #[.string nm, .string sa, .string ha, .string ro, .int .i64 bl, .int .i64 lg], .agg #[.string nm, .string sa, .string ha, .string ro, .int .i64 bl, .int .i64 lg]] w fun e w' => e = .returned (.bool true) ∧ Grw w w') := fun w => eqUser_any nm sa ha ro bl lg w
      have hltz : (k : Int) < (len : Int) := by omega
      clear hc hc'
      go_wp2_with fail
      refine wp_region_quiet_grown (by assumption) (by kernel_rfl) ?_
      repeat (go_big_quiet_step (first | fail | (go_at_call 135; exact Calls.grown_of (HE.out _))))
      refine wpQuiet_nil ?_
      intro _ hw'
      obtain ⟨⟨nq, osq⟩, hw''⟩ := hw'
      subst hw''
      have HG2 : Hid (Grw w (grow (wr.drewN nq) osq)) := HG.out.trans ⟨nq, osq, rfl⟩
      clear q0 q1 q2 q3 q4 q5 r0 r1 r2 r3 r4 r5 HG HE
      go_wp2
      go_roundw
      case rel => exact ⟨k + 1, by omega, by go_num, HG2⟩
      case measure => simp [intOf]; omega
    · obtain rfl : k = len := by omega
      go_wp2
      go_ret
      exact ⟨rfl, HG.out⟩

set_option maxHeartbeats 2000000 in
theorem toSession_any (id : Int) (us : Int) (mc : ByteArray) (ip : Int) (be : Int) (la : Int) (ud : Int) (qu : Int) (un : Int) (il : Int) (w : World) :
    Calls Tryz.prog 117 #[.agg #[.int .i64 id, .int .i64 us, .string mc, .int .i64 ip, .int .i64 be, .int .i64 la, .int .i64 ud, .int .i64 qu, .int .i64 un, .int .i64 il]] w fun e w' => e = .returned (.agg #[.int .i64 id, .int .i64 us, .string mc, .int .i64 ip, .int .i64 be, .int .i64 la, .int .i64 ud, .int .i64 qu, .int .i64 un, .int .i64 il]) ∧ Below w.heap.size w w' := by
  go_enter Tryz.func117, Tryz.ntmps117
  go_wp2
  (try simp only [Exit.inBlock, Exit.then])
  refine bodyPost_ret (v := .agg #[.int .i64 id, .int .i64 us, .string mc, .int .i64 ip, .int .i64 be, .int .i64 la, .int .i64 ud, .int .i64 qu, .int .i64 un, .int .i64 il]) (by simp [results, Tryz.results117, go_sem]; try rfl) rfl ?_
  exact ⟨rfl, ((((Grw.refl _).alloc _).alloc _).alloc _).below⟩
set_option maxHeartbeats 1000000 in
theorem eqSession_any (id : Int) (us : Int) (mc : ByteArray) (ip : Int) (be : Int) (la : Int) (ud : Int) (qu : Int) (un : Int) (il : Int) (w : World) :
    Calls Tryz.prog 136 #[.agg #[.int .i64 id, .int .i64 us, .string mc, .int .i64 ip, .int .i64 be, .int .i64 la, .int .i64 ud, .int .i64 qu, .int .i64 un, .int .i64 il], .agg #[.int .i64 id, .int .i64 us, .string mc, .int .i64 ip, .int .i64 be, .int .i64 la, .int .i64 ud, .int .i64 qu, .int .i64 un, .int .i64 il]] w fun e w' => e = .returned (.bool true) ∧ Grw w w' := by
  have h0 : (id != id) = false := by simp
  have h1 : (us != us) = false := by simp
  have h2 : (mc.toList == mc.toList) = true := by simp
  have h3 : (ip != ip) = false := by simp
  have h4 : (be != be) = false := by simp
  have h5 : (la != la) = false := by simp
  have h6 : (ud != ud) = false := by simp
  have h7 : (qu != qu) = false := by simp
  have h8 : (un != un) = false := by simp
  have h9 : (il != il) = false := by simp
  go_enter Tryz.func136, Tryz.ntmps136
  go_wp2
  go_ret
  exact ⟨rfl, ((Grw.refl _).alloc _).alloc _⟩
theorem infoSession : (Tryz.prog.info? 137).map (fun i => (i.zero, i.size, i.bytes)) = some (some (.agg #[.int .i64 0, .int .i64 0, .string ⟨#[]⟩, .int .i64 0, .int .i64 0, .int .i64 0, .int .i64 0, .int .i64 0, .int .i64 0, .int .i64 0]), 10, 88) := by kernel_rfl
set_option maxHeartbeats 2000000 in
theorem toSessionS_any (a : Option Addr) (len cap : Nat) (xs : List SessV) (w : World) (h : Rw SeR 10 w a xs) (hl : xs.length = len) (hc : len ≤ 1048576) :
    Calls Tryz.prog 46 #[.slice a len cap] w fun e w' => e = .returned (.slice (some ⟨w.heap.size, 0, none⟩) len len) ∧ Rw SeR 10 w' (some ⟨w.heap.size, 0, none⟩) xs ∧ w.heap.size < w'.heap.size ∧ Below w.heap.size w w' := by
  have RW : Hid (Rw SeR 10 w a xs) := h
  clear h
  obtain ⟨i0, hi, hz0, hz1, hz2⟩ := info_parts infoSession
  have hmk := run_make (P := Tryz.prog) w 42 137 i0 (.agg #[.int .i64 0, .int .i64 0, .string ⟨#[]⟩, .int .i64 0, .int .i64 0, .int .i64 0, .int .i64 0, .int .i64 0, .int .i64 0, .int .i64 0]) Tryz.underlying42 hi hz0 .i64 .i64 len len (by omega) (Int.le_refl _) (by rw [hz2]; omega) (by omega)
  rw [hz1, Int.toNat_natCast] at hmk
  have HM : Hid ((w.alloc (.cells (madeCells #[.int .i64 0, .int .i64 0, .string ⟨#[]⟩, .int .i64 0, .int .i64 0, .int .i64 0, .int .i64 0, .int .i64 0, .int .i64 0, .int .i64 0] (len * 10)) 137)).ownsRow w.heap.size 137 10 (.slice (some ⟨w.heap.size, 0, none⟩) len len) len (madeCells #[.int .i64 0, .int .i64 0, .string ⟨#[]⟩, .int .i64 0, .int .i64 0, .int .i64 0, .int .i64 0, .int .i64 0, .int .i64 0, .int .i64 0] (len * 10)).toList ∧ Below w.heap.size w (w.alloc (.cells (madeCells #[.int .i64 0, .int .i64 0, .string ⟨#[]⟩, .int .i64 0, .int .i64 0, .int .i64 0, .int .i64 0, .int .i64 0, .int .i64 0, .int .i64 0] (len * 10)) 137))) := ⟨owns_made w _ _ len 10 _ (Nat.le_refl _) (by unfold maxLen; omega), (Below.refl _ _).alloc (Nat.le_refl _) _⟩
  have hmk2 : (Instr.makeSlice 42 (.int .i64 (len : Int)) (.int .i64 (len : Int))).run Tryz.prog w = .ok (.slice (some ⟨w.heap.size, 0, none⟩) len len) (w.alloc (.cells (madeCells #[.int .i64 0, .int .i64 0, .string ⟨#[]⟩, .int .i64 0, .int .i64 0, .int .i64 0, .int .i64 0, .int .i64 0, .int .i64 0, .int .i64 0] (len * 10)) 137)) := hmk
  clear hmk hi hz0 hz1 hz2
  obtain ⟨W, hW⟩ : ∃ W, W = w.alloc (.cells (madeCells #[.int .i64 0, .int .i64 0, .string ⟨#[]⟩, .int .i64 0, .int .i64 0, .int .i64 0, .int .i64 0, .int .i64 0, .int .i64 0, .int .i64 0] (len * 10)) 137) := ⟨_, rfl⟩
  rw [← hW] at HM hmk2
  clear hW
  go_enter Tryz.func46, Tryz.ntmps46
  go_wp2
  go_loopw [4] (fun i wr => ∃ (k : Nat) (F : List Value), k ≤ len ∧ i = .int .i64 k ∧ Hid (wr.ownsRow w.heap.size 137 10 (.slice (some ⟨w.heap.size, 0, none⟩) len len) len F ∧ Cop SeR 10 wr F xs k ∧ Below w.heap.size w wr)) (fun i _ => len - (intOf i).toNat)
  case atStart => exact ⟨0, _, Nat.zero_le _, rfl, HM.out.1, Cop.zero, HM.out.2⟩
  case round =>
    obtain ⟨k, F, hk, rfl, X⟩ := hrel
    by_cases hlt : k < len
    · obtain ⟨x, hx⟩ := at_of hl hlt
      obtain ⟨b, off, vs, rfl, hb, hvl, hR, hc⟩ := RW.out.at SeR.kp X.out.2.2 hx
      obtain ⟨id, us, mc, ip, be, la, ud, qu, un, il⟩ := x
      obtain ⟨rfl, hok⟩ := hR
      have HK : Hid (SeRok ⟨id, us, mc, ip, be, la, ud, qu, un, il⟩) := hok
      clear hok
      have q0 : wr.cell? ⟨b, off + k * 10, none⟩ = some (.int .i64 id) := hc 0 _ rfl
      have q1 : wr.cell? ⟨b, off + k * 10 + 1, none⟩ = some (.int .i64 us) := hc 1 _ rfl
      have q2 : wr.cell? ⟨b, off + k * 10 + 2, none⟩ = some (.string mc) := hc 2 _ rfl
      have q3 : wr.cell? ⟨b, off + k * 10 + 3, none⟩ = some (.int .i64 ip) := hc 3 _ rfl
      have q4 : wr.cell? ⟨b, off + k * 10 + 4, none⟩ = some (.int .i64 be) := hc 4 _ rfl
      have q5 : wr.cell? ⟨b, off + k * 10 + 5, none⟩ = some (.int .i64 la) := hc 5 _ rfl
      have q6 : wr.cell? ⟨b, off + k * 10 + 6, none⟩ = some (.int .i64 ud) := hc 6 _ rfl
      have q7 : wr.cell? ⟨b, off + k * 10 + 7, none⟩ = some (.int .i64 qu) := hc 7 _ rfl
      have q8 : wr.cell? ⟨b, off + k * 10 + 8, none⟩ = some (.int .i64 un) := hc 8 _ rfl
      have q9 : wr.cell? ⟨b, off + k * 10 + 9, none⟩ = some (.int .i64 il) := hc 9 _ rfl
      have HT : Hid (∀ w, Calls Tryz.prog 117 #[.agg #[.int .i64 id, .int .i64 us, .string mc, .int .i64 ip, .int .i64 be, .int .i64 la, .int .i64 ud, .int .i64 qu, .int .i64 un, .int .i64 il]] w fun e w' => e = .returned (.agg #[.int .i64 id, .int .i64 us, .string mc, .int .i64 ip, .int .i64 be, .int .i64 la, .int .i64 ud, .int .i64 qu, .int .i64 un, .int .i64 il]) ∧ Below w.heap.size w w') := fun w => toSession_any id us mc ip be la ud qu un il w
      have hltz : (k : Int) < (len : Int) := by omega
      clear hc
      go_wp2_with fail
      refine (HT.out _).mono ?_
      rintro e w1 ⟨rfl, b1⟩
      have o1 := owns_now X.out.1 b1
      obtain ⟨⟨u0, c0⟩, z0⟩ := owns_cell o1 (j := 0) hlt (by omega)
      obtain ⟨⟨u1, c1⟩, z1⟩ := owns_cell o1 (j := 1) hlt (by omega)
      obtain ⟨⟨u2, c2⟩, z2⟩ := owns_cell o1 (j := 2) hlt (by omega)
      obtain ⟨⟨u3, c3⟩, z3⟩ := owns_cell o1 (j := 3) hlt (by omega)
      obtain ⟨⟨u4, c4⟩, z4⟩ := owns_cell o1 (j := 4) hlt (by omega)
      obtain ⟨⟨u5, c5⟩, z5⟩ := owns_cell o1 (j := 5) hlt (by omega)
      obtain ⟨⟨u6, c6⟩, z6⟩ := owns_cell o1 (j := 6) hlt (by omega)
      obtain ⟨⟨u7, c7⟩, z7⟩ := owns_cell o1 (j := 7) hlt (by omega)
      obtain ⟨⟨u8, c8⟩, z8⟩ := owns_cell o1 (j := 8) hlt (by omega)
      obtain ⟨⟨u9, c9⟩, z9⟩ := owns_cell o1 (j := 9) hlt (by omega)
      replace c0 : w1.cell? ⟨w.heap.size, k * 10, none⟩ = some u0 := c0
      replace z0 : w1.frozen? ⟨w.heap.size, k * 10, none⟩ = false := z0
      have Y0 : ∀ W1, W1 = (((((((((w1.setCell ⟨w.heap.size, k * 10, none⟩ (.int .i64 id)).setCell ⟨w.heap.size, k * 10 + 1, none⟩ (.int .i64 us)).setCell ⟨w.heap.size, k * 10 + 2, none⟩ (.string mc)).setCell ⟨w.heap.size, k * 10 + 3, none⟩ (.int .i64 ip)).setCell ⟨w.heap.size, k * 10 + 4, none⟩ (.int .i64 be)).setCell ⟨w.heap.size, k * 10 + 5, none⟩ (.int .i64 la)).setCell ⟨w.heap.size, k * 10 + 6, none⟩ (.int .i64 ud)).setCell ⟨w.heap.size, k * 10 + 7, none⟩ (.int .i64 qu)).setCell ⟨w.heap.size, k * 10 + 8, none⟩ (.int .i64 un)).setCell ⟨w.heap.size, k * 10 + 9, none⟩ (.int .i64 il) → W1.ownsRow w.heap.size 137 10 (.slice (some ⟨w.heap.size, 0, none⟩) len len) len (sets F (k * 10) [.int .i64 id, .int .i64 us, .string mc, .int .i64 ip, .int .i64 be, .int .i64 la, .int .i64 ud, .int .i64 qu, .int .i64 un, .int .i64 il]) ∧ Cop SeR 10 W1 (sets F (k * 10) [.int .i64 id, .int .i64 us, .string mc, .int .i64 ip, .int .i64 be, .int .i64 la, .int .i64 ud, .int .i64 qu, .int .i64 un, .int .i64 il]) xs (k + 1) ∧ Below w.heap.size w W1 := by
        intro W1 hW1
        have h2 := owns_sets [.int .i64 id, .int .i64 us, .string mc, .int .i64 ip, .int .i64 be, .int .i64 la, .int .i64 ud, .int .i64 qu, .int .i64 un, .int .i64 il] _ _ (k * 10) o1
        rw [wsets10, ← hW1] at h2
        have hF : k * 10 + 10 ≤ F.length := by
          rw [X.out.1.1]
          have : (k + 1) * 10 ≤ len * 10 := Nat.mul_le_mul_right _ hlt
          omega
        have c2 : Cop SeR 10 W1 F xs k := Cop.keep X.out.2.1 (fun x vs h => h)
        have c3 := Cop.step (vs := [.int .i64 id, .int .i64 us, .string mc, .int .i64 ip, .int .i64 be, .int .i64 la, .int .i64 ud, .int .i64 qu, .int .i64 un, .int .i64 il]) c2 hx ⟨rfl, HK.out⟩ rfl hF
        exact ⟨h2.1, c3, (X.out.2.2.trans (b1.mono X.out.2.2.size)).trans (below_row h2.2 (Nat.le_refl _) (Nat.le_trans X.out.2.2.size b1.size))⟩
      have Y : Hid (((((((((((w1.setCell ⟨w.heap.size, k * 10, none⟩ (.int .i64 id)).setCell ⟨w.heap.size, k * 10 + 1, none⟩ (.int .i64 us)).setCell ⟨w.heap.size, k * 10 + 2, none⟩ (.string mc)).setCell ⟨w.heap.size, k * 10 + 3, none⟩ (.int .i64 ip)).setCell ⟨w.heap.size, k * 10 + 4, none⟩ (.int .i64 be)).setCell ⟨w.heap.size, k * 10 + 5, none⟩ (.int .i64 la)).setCell ⟨w.heap.size, k * 10 + 6, none⟩ (.int .i64 ud)).setCell ⟨w.heap.size, k * 10 + 7, none⟩ (.int .i64 qu)).setCell ⟨w.heap.size, k * 10 + 8, none⟩ (.int .i64 un)).setCell ⟨w.heap.size, k * 10 + 9, none⟩ (.int .i64 il)).ownsRow w.heap.size 137 10 (.slice (some ⟨w.heap.size, 0, none⟩) len len) len (sets F (k * 10) [.int .i64 id, .int .i64 us, .string mc, .int .i64 ip, .int .i64 be, .int .i64 la, .int .i64 ud, .int .i64 qu, .int .i64 un, .int .i64 il]) ∧ Cop SeR 10 ((((((((((w1.setCell ⟨w.heap.size, k * 10, none⟩ (.int .i64 id)).setCell ⟨w.heap.size, k * 10 + 1, none⟩ (.int .i64 us)).setCell ⟨w.heap.size, k * 10 + 2, none⟩ (.string mc)).setCell ⟨w.heap.size, k * 10 + 3, none⟩ (.int .i64 ip)).setCell ⟨w.heap.size, k * 10 + 4, none⟩ (.int .i64 be)).setCell ⟨w.heap.size, k * 10 + 5, none⟩ (.int .i64 la)).setCell ⟨w.heap.size, k * 10 + 6, none⟩ (.int .i64 ud)).setCell ⟨w.heap.size, k * 10 + 7, none⟩ (.int .i64 qu)).setCell ⟨w.heap.size, k * 10 + 8, none⟩ (.int .i64 un)).setCell ⟨w.heap.size, k * 10 + 9, none⟩ (.int .i64 il)) (sets F (k * 10) [.int .i64 id, .int .i64 us, .string mc, .int .i64 ip, .int .i64 be, .int .i64 la, .int .i64 ud, .int .i64 qu, .int .i64 un, .int .i64 il]) xs (k + 1) ∧ Below w.heap.size w ((((((((((w1.setCell ⟨w.heap.size, k * 10, none⟩ (.int .i64 id)).setCell ⟨w.heap.size, k * 10 + 1, none⟩ (.int .i64 us)).setCell ⟨w.heap.size, k * 10 + 2, none⟩ (.string mc)).setCell ⟨w.heap.size, k * 10 + 3, none⟩ (.int .i64 ip)).setCell ⟨w.heap.size, k * 10 + 4, none⟩ (.int .i64 be)).setCell ⟨w.heap.size, k * 10 + 5, none⟩ (.int .i64 la)).setCell ⟨w.heap.size, k * 10 + 6, none⟩ (.int .i64 ud)).setCell ⟨w.heap.size, k * 10 + 7, none⟩ (.int .i64 qu)).setCell ⟨w.heap.size, k * 10 + 8, none⟩ (.int .i64 un)).setCell ⟨w.heap.size, k * 10 + 9, none⟩ (.int .i64 il))) := Y0 _ rfl
      clear Y0
      clear o1 b1 q0 q1 q2 q3 q4 q5 q6 q7 q8 q9 HT X HM hmk2 hx HK
      go_wp2
      go_roundw
      case rel => exact ⟨k + 1, _, by omega, by go_num, Y⟩
      case measure => simp [intOf]; omega
    · obtain rfl : k = len := by omega
      go_wp2
      go_ret
      exact ⟨rfl, X.out.2.1.rw X.out.1 hl, (World.ownsRow.lt X.out.1 w.heap.size rfl).2, X.out.2.2⟩
set_option maxHeartbeats 2000000 in
theorem eqSessionS_yes (a a' : Option Addr) (len cap cap' : Nat) (xs : List SessV) (w : World) (h : Rw SeR 10 w a xs) (h' : Rw SeR 10 w a' xs) (hl : xs.length = len) (hlen : len ≤ 9223372036854775807) :
    Calls Tryz.prog 57 #[.slice a len cap, .slice a' len cap'] w fun e w' => e = .returned (.bool true) ∧ Grw w w' := by
  have hne : ((len : Int) != (len : Int)) = false := by simp
  have hmix : Tryz.prog.follows .mixedOrders = true := by kernel_rfl
  have RW : Hid (Rw SeR 10 w a xs) := h
  have RW' : Hid (Rw SeR 10 w a' xs) := h'
  clear h h'
  go_enter Tryz.func57, Tryz.ntmps57
  go_wp2
  go_loopw [5] (fun i wr => ∃ k : Nat, k ≤ len ∧ i = .int .i64 k ∧ Hid (Grw w wr)) (fun i _ => len - (intOf i).toNat)
  case atStart => exact ⟨0, Nat.zero_le _, rfl, Grw.refl w⟩
  case round =>
    obtain ⟨k, hk, rfl, HG⟩ := hrel
    by_cases hlt : k < len
    · obtain ⟨x, hx⟩ := at_of hl hlt
      obtain ⟨b, off, vs, rfl, hb, hvl, hR, hc⟩ := RW.out.at SeR.kp HG.out.below hx
      obtain ⟨b', off', vs', rfl, hb', hvl', hR', hc'⟩ := RW'.out.at SeR.kp HG.out.below hx
      obtain ⟨id, us, mc, ip, be, la, ud, qu, un, il⟩ := x
      obtain ⟨rfl, -⟩ := hR
      obtain ⟨rfl, -⟩ := hR'
      have q0 : ∀ n os, (grow (wr.drewN n) os).cell? ⟨b, off + k * 10, none⟩ = some (.int .i64 id) := fun n os => grown_cell hb HG.out (hc 0 _ rfl) n os
      have q1 : ∀ n os, (grow (wr.drewN n) os).cell? ⟨b, off + k * 10 + 1, none⟩ = some (.int .i64 us) := fun n os => grown_cell hb HG.out (hc 1 _ rfl) n os
      have q2 : ∀ n os, (grow (wr.drewN n) os).cell? ⟨b, off + k * 10 + 2, none⟩ = some (.string mc) := fun n os => grown_cell hb HG.out (hc 2 _ rfl) n os
      have q3 : ∀ n os, (grow (wr.drewN n) os).cell? ⟨b, off + k * 10 + 3, none⟩ = some (.int .i64 ip) := fun n os => grown_cell hb HG.out (hc 3 _ rfl) n os
      have q4 : ∀ n os, (grow (wr.drewN n) os).cell? ⟨b, off + k * 10 + 4, none⟩ = some (.int .i64 be) := fun n os => grown_cell hb HG.out (hc 4 _ rfl) n os
      have q5 : ∀ n os, (grow (wr.drewN n) os).cell? ⟨b, off + k * 10 + 5, none⟩ = some (.int .i64 la) := fun n os => grown_cell hb HG.out (hc 5 _ rfl) n os
      have q6 : ∀ n os, (grow (wr.drewN n) os).cell? ⟨b, off + k * 10 + 6, none⟩ = some (.int .i64 ud) := fun n os => grown_cell hb HG.out (hc 6 _ rfl) n os
      have q7 : ∀ n os, (grow (wr.drewN n) os).cell? ⟨b, off + k * 10 + 7, none⟩ = some (.int .i64 qu) := fun n os => grown_cell hb HG.out (hc 7 _ rfl) n os
      have q8 : ∀ n os, (grow (wr.drewN n) os).cell? ⟨b, off + k * 10 + 8, none⟩ = some (.int .i64 un) := fun n os => grown_cell hb HG.out (hc 8 _ rfl) n os
      have q9 : ∀ n os, (grow (wr.drewN n) os).cell? ⟨b, off + k * 10 + 9, none⟩ = some (.int .i64 il) := fun n os => grown_cell hb HG.out (hc 9 _ rfl) n os
      have r0 : ∀ n os, (grow (wr.drewN n) os).cell? ⟨b', off' + k * 10, none⟩ = some (.int .i64 id) := fun n os => grown_cell hb' HG.out (hc' 0 _ rfl) n os
      have r1 : ∀ n os, (grow (wr.drewN n) os).cell? ⟨b', off' + k * 10 + 1, none⟩ = some (.int .i64 us) := fun n os => grown_cell hb' HG.out (hc' 1 _ rfl) n os
      have r2 : ∀ n os, (grow (wr.drewN n) os).cell? ⟨b', off' + k * 10 + 2, none⟩ = some (.string mc) := fun n os => grown_cell hb' HG.out (hc' 2 _ rfl) n os
      have r3 : ∀ n os, (grow (wr.drewN n) os).cell? ⟨b', off' + k * 10 + 3, none⟩ = some (.int .i64 ip) := fun n os => grown_cell hb' HG.out (hc' 3 _ rfl) n os
      have r4 : ∀ n os, (grow (wr.drewN n) os).cell? ⟨b', off' + k * 10 + 4, none⟩ = some (.int .i64 be) := fun n os => grown_cell hb' HG.out (hc' 4 _ rfl) n os
      have r5 : ∀ n os, (grow (wr.drewN n) os).cell? ⟨b', off' + k * 10 + 5, none⟩ = some (.int .i64 la) := fun n os => grown_cell hb' HG.out (hc' 5 _ rfl) n os
      have r6 : ∀ n os, (grow (wr.drewN n) os).cell? ⟨b', off' + k * 10 + 6, none⟩ = some (.int .i64 ud) := fun n os => grown_cell hb' HG.out (hc' 6 _ rfl) n os
      have r7 : ∀ n os, (grow (wr.drewN n) os).cell? ⟨b', off' + k * 10 + 7, none⟩ = some (.int .i64 qu) := fun n os => grown_cell hb' HG.out (hc' 7 _ rfl) n os
      have r8 : ∀ n os, (grow (wr.drewN n) os).cell? ⟨b', off' + k * 10 + 8, none⟩ = some (.int .i64 un) := fun n os => grown_cell hb' HG.out (hc' 8 _ rfl) n os
      have r9 : ∀ n os, (grow (wr.drewN n) os).cell? ⟨b', off' + k * 10 + 9, none⟩ = some (.int .i64 il) := fun n os => grown_cell hb' HG.out (hc' 9 _ rfl) n os
      have HE : Hid (∀ w, Calls Tryz.prog 136 #[.agg #[.int .i64 id, .int .i64 us, .string mc, .int .i64 ip, .int .i64 be, .int .i64 la, .int .i64 ud, .int .i64 qu, .int .i64 un, .int .i64 il], .agg #[.int .i64 id, .int .i64 us, .string mc, .int .i64 ip, .int .i64 be, .int .i64 la, .int .i64 ud, .int .i64 qu, .int .i64 un, .int .i64 il]] w fun e w' => e = .returned (.bool true) ∧ Grw w w') := fun w => eqSession_any id us mc ip be la ud qu un il w
      have hltz : (k : Int) < (len : Int) := by omega
      clear hc hc'
      go_wp2_with fail
      refine wp_region_quiet_grown (by assumption) (by kernel_rfl) ?_
      repeat (go_big_quiet_step (first | fail | (go_at_call 136; exact Calls.grown_of (HE.out _))))
      refine wpQuiet_nil ?_
      intro _ hw'
      obtain ⟨⟨nq, osq⟩, hw''⟩ := hw'
      subst hw''
      have HG2 : Hid (Grw w (grow (wr.drewN nq) osq)) := HG.out.trans ⟨nq, osq, rfl⟩
      clear q0 q1 q2 q3 q4 q5 q6 q7 q8 q9 r0 r1 r2 r3 r4 r5 r6 r7 r8 r9 HG HE
      go_wp2
      go_roundw
      case rel => exact ⟨k + 1, by omega, by go_num, HG2⟩
      case measure => simp [intOf]; omega
    · obtain rfl : k = len := by omega
      go_wp2
      go_ret
      exact ⟨rfl, HG.out⟩

set_option maxHeartbeats 2000000 in
theorem toFail_any (mc : ByteArray) (ct : Int) (un : Int) (w : World) :
    Calls Tryz.prog 118 #[.agg #[.string mc, .int .i64 ct, .int .i64 un]] w fun e w' => e = .returned (.agg #[.string mc, .int .i64 ct, .int .i64 un]) ∧ Below w.heap.size w w' := by
  go_enter Tryz.func118, Tryz.ntmps118
  go_wp2
  (try simp only [Exit.inBlock, Exit.then])
  refine bodyPost_ret (v := .agg #[.string mc, .int .i64 ct, .int .i64 un]) (by simp [results, Tryz.results118, go_sem]; try rfl) rfl ?_
  exact ⟨rfl, ((((Grw.refl _).alloc _).alloc _).alloc _).below⟩
set_option maxHeartbeats 1000000 in
theorem eqFail_any (mc : ByteArray) (ct : Int) (un : Int) (w : World) :
    Calls Tryz.prog 137 #[.agg #[.string mc, .int .i64 ct, .int .i64 un], .agg #[.string mc, .int .i64 ct, .int .i64 un]] w fun e w' => e = .returned (.bool true) ∧ Grw w w' := by
  have h0 : (mc.toList == mc.toList) = true := by simp
  have h1 : (ct != ct) = false := by simp
  have h2 : (un != un) = false := by simp
  go_enter Tryz.func137, Tryz.ntmps137
  go_wp2
  go_ret
  exact ⟨rfl, ((Grw.refl _).alloc _).alloc _⟩
theorem infoFail : (Tryz.prog.info? 179).map (fun i => (i.zero, i.size, i.bytes)) = some (some (.agg #[.string ⟨#[]⟩, .int .i64 0, .int .i64 0]), 3, 32) := by kernel_rfl
set_option maxHeartbeats 2000000 in
theorem toFailS_any (a : Option Addr) (len cap : Nat) (xs : List FailV) (w : World) (h : Rw FaR 3 w a xs) (hl : xs.length = len) (hc : len ≤ 1048576) :
    Calls Tryz.prog 47 #[.slice a len cap] w fun e w' => e = .returned (.slice (some ⟨w.heap.size, 0, none⟩) len len) ∧ Rw FaR 3 w' (some ⟨w.heap.size, 0, none⟩) xs ∧ w.heap.size < w'.heap.size ∧ Below w.heap.size w w' := by
  have RW : Hid (Rw FaR 3 w a xs) := h
  clear h
  obtain ⟨i0, hi, hz0, hz1, hz2⟩ := info_parts infoFail
  have hmk := run_make (P := Tryz.prog) w 43 179 i0 (.agg #[.string ⟨#[]⟩, .int .i64 0, .int .i64 0]) Tryz.underlying43 hi hz0 .i64 .i64 len len (by omega) (Int.le_refl _) (by rw [hz2]; omega) (by omega)
  rw [hz1, Int.toNat_natCast] at hmk
  have HM : Hid ((w.alloc (.cells (madeCells #[.string ⟨#[]⟩, .int .i64 0, .int .i64 0] (len * 3)) 179)).ownsRow w.heap.size 179 3 (.slice (some ⟨w.heap.size, 0, none⟩) len len) len (madeCells #[.string ⟨#[]⟩, .int .i64 0, .int .i64 0] (len * 3)).toList ∧ Below w.heap.size w (w.alloc (.cells (madeCells #[.string ⟨#[]⟩, .int .i64 0, .int .i64 0] (len * 3)) 179))) := ⟨owns_made w _ _ len 3 _ (Nat.le_refl _) (by unfold maxLen; omega), (Below.refl _ _).alloc (Nat.le_refl _) _⟩
  have hmk2 : (Instr.makeSlice 43 (.int .i64 (len : Int)) (.int .i64 (len : Int))).run Tryz.prog w = .ok (.slice (some ⟨w.heap.size, 0, none⟩) len len) (w.alloc (.cells (madeCells #[.string ⟨#[]⟩, .int .i64 0, .int .i64 0] (len * 3)) 179)) := hmk
  clear hmk hi hz0 hz1 hz2
  obtain ⟨W, hW⟩ : ∃ W, W = w.alloc (.cells (madeCells #[.string ⟨#[]⟩, .int .i64 0, .int .i64 0] (len * 3)) 179) := ⟨_, rfl⟩
  rw [← hW] at HM hmk2
  clear hW
  go_enter Tryz.func47, Tryz.ntmps47
  go_wp2
  go_loopw [4] (fun i wr => ∃ (k : Nat) (F : List Value), k ≤ len ∧ i = .int .i64 k ∧ Hid (wr.ownsRow w.heap.size 179 3 (.slice (some ⟨w.heap.size, 0, none⟩) len len) len F ∧ Cop FaR 3 wr F xs k ∧ Below w.heap.size w wr)) (fun i _ => len - (intOf i).toNat)
  case atStart => exact ⟨0, _, Nat.zero_le _, rfl, HM.out.1, Cop.zero, HM.out.2⟩
  case round =>
    obtain ⟨k, F, hk, rfl, X⟩ := hrel
    by_cases hlt : k < len
    · obtain ⟨x, hx⟩ := at_of hl hlt
      obtain ⟨b, off, vs, rfl, hb, hvl, hR, hc⟩ := RW.out.at FaR.kp X.out.2.2 hx
      obtain ⟨mc, ct, un⟩ := x
      obtain ⟨rfl, hok⟩ := hR
      have HK : Hid (FaRok ⟨mc, ct, un⟩) := hok
      clear hok
      have q0 : wr.cell? ⟨b, off + k * 3, none⟩ = some (.string mc) := hc 0 _ rfl
      have q1 : wr.cell? ⟨b, off + k * 3 + 1, none⟩ = some (.int .i64 ct) := hc 1 _ rfl
      have q2 : wr.cell? ⟨b, off + k * 3 + 2, none⟩ = some (.int .i64 un) := hc 2 _ rfl
      have HT : Hid (∀ w, Calls Tryz.prog 118 #[.agg #[.string mc, .int .i64 ct, .int .i64 un]] w fun e w' => e = .returned (.agg #[.string mc, .int .i64 ct, .int .i64 un]) ∧ Below w.heap.size w w') := fun w => toFail_any mc ct un w
      have hltz : (k : Int) < (len : Int) := by omega
      clear hc
      go_wp2_with fail
      refine (HT.out _).mono ?_
      rintro e w1 ⟨rfl, b1⟩
      have o1 := owns_now X.out.1 b1
      obtain ⟨⟨u0, c0⟩, z0⟩ := owns_cell o1 (j := 0) hlt (by omega)
      obtain ⟨⟨u1, c1⟩, z1⟩ := owns_cell o1 (j := 1) hlt (by omega)
      obtain ⟨⟨u2, c2⟩, z2⟩ := owns_cell o1 (j := 2) hlt (by omega)
      replace c0 : w1.cell? ⟨w.heap.size, k * 3, none⟩ = some u0 := c0
      replace z0 : w1.frozen? ⟨w.heap.size, k * 3, none⟩ = false := z0
      have Y0 : ∀ W1, W1 = ((w1.setCell ⟨w.heap.size, k * 3, none⟩ (.string mc)).setCell ⟨w.heap.size, k * 3 + 1, none⟩ (.int .i64 ct)).setCell ⟨w.heap.size, k * 3 + 2, none⟩ (.int .i64 un) → W1.ownsRow w.heap.size 179 3 (.slice (some ⟨w.heap.size, 0, none⟩) len len) len (sets F (k * 3) [.string mc, .int .i64 ct, .int .i64 un]) ∧ Cop FaR 3 W1 (sets F (k * 3) [.string mc, .int .i64 ct, .int .i64 un]) xs (k + 1) ∧ Below w.heap.size w W1 := by
        intro W1 hW1
        have h2 := owns_sets [.string mc, .int .i64 ct, .int .i64 un] _ _ (k * 3) o1
        rw [wsets3, ← hW1] at h2
        have hF : k * 3 + 3 ≤ F.length := by
          rw [X.out.1.1]
          have : (k + 1) * 3 ≤ len * 3 := Nat.mul_le_mul_right _ hlt
          omega
        have c2 : Cop FaR 3 W1 F xs k := Cop.keep X.out.2.1 (fun x vs h => h)
        have c3 := Cop.step (vs := [.string mc, .int .i64 ct, .int .i64 un]) c2 hx ⟨rfl, HK.out⟩ rfl hF
        exact ⟨h2.1, c3, (X.out.2.2.trans (b1.mono X.out.2.2.size)).trans (below_row h2.2 (Nat.le_refl _) (Nat.le_trans X.out.2.2.size b1.size))⟩
      have Y : Hid ((((w1.setCell ⟨w.heap.size, k * 3, none⟩ (.string mc)).setCell ⟨w.heap.size, k * 3 + 1, none⟩ (.int .i64 ct)).setCell ⟨w.heap.size, k * 3 + 2, none⟩ (.int .i64 un)).ownsRow w.heap.size 179 3 (.slice (some ⟨w.heap.size, 0, none⟩) len len) len (sets F (k * 3) [.string mc, .int .i64 ct, .int .i64 un]) ∧ Cop FaR 3 (((w1.setCell ⟨w.heap.size, k * 3, none⟩ (.string mc)).setCell ⟨w.heap.size, k * 3 + 1, none⟩ (.int .i64 ct)).setCell ⟨w.heap.size, k * 3 + 2, none⟩ (.int .i64 un)) (sets F (k * 3) [.string mc, .int .i64 ct, .int .i64 un]) xs (k + 1) ∧ Below w.heap.size w (((w1.setCell ⟨w.heap.size, k * 3, none⟩ (.string mc)).setCell ⟨w.heap.size, k * 3 + 1, none⟩ (.int .i64 ct)).setCell ⟨w.heap.size, k * 3 + 2, none⟩ (.int .i64 un))) := Y0 _ rfl
      clear Y0
      clear o1 b1 q0 q1 q2 HT X HM hmk2 hx HK
      go_wp2
      go_roundw
      case rel => exact ⟨k + 1, _, by omega, by go_num, Y⟩
      case measure => simp [intOf]; omega
    · obtain rfl : k = len := by omega
      go_wp2
      go_ret
      exact ⟨rfl, X.out.2.1.rw X.out.1 hl, (World.ownsRow.lt X.out.1 w.heap.size rfl).2, X.out.2.2⟩
set_option maxHeartbeats 2000000 in
theorem eqFailS_yes (a a' : Option Addr) (len cap cap' : Nat) (xs : List FailV) (w : World) (h : Rw FaR 3 w a xs) (h' : Rw FaR 3 w a' xs) (hl : xs.length = len) (hlen : len ≤ 9223372036854775807) :
    Calls Tryz.prog 58 #[.slice a len cap, .slice a' len cap'] w fun e w' => e = .returned (.bool true) ∧ Grw w w' := by
  have hne : ((len : Int) != (len : Int)) = false := by simp
  have hmix : Tryz.prog.follows .mixedOrders = true := by kernel_rfl
  have RW : Hid (Rw FaR 3 w a xs) := h
  have RW' : Hid (Rw FaR 3 w a' xs) := h'
  clear h h'
  go_enter Tryz.func58, Tryz.ntmps58
  go_wp2
  go_loopw [5] (fun i wr => ∃ k : Nat, k ≤ len ∧ i = .int .i64 k ∧ Hid (Grw w wr)) (fun i _ => len - (intOf i).toNat)
  case atStart => exact ⟨0, Nat.zero_le _, rfl, Grw.refl w⟩
  case round =>
    obtain ⟨k, hk, rfl, HG⟩ := hrel
    by_cases hlt : k < len
    · obtain ⟨x, hx⟩ := at_of hl hlt
      obtain ⟨b, off, vs, rfl, hb, hvl, hR, hc⟩ := RW.out.at FaR.kp HG.out.below hx
      obtain ⟨b', off', vs', rfl, hb', hvl', hR', hc'⟩ := RW'.out.at FaR.kp HG.out.below hx
      obtain ⟨mc, ct, un⟩ := x
      obtain ⟨rfl, -⟩ := hR
      obtain ⟨rfl, -⟩ := hR'
      have q0 : ∀ n os, (grow (wr.drewN n) os).cell? ⟨b, off + k * 3, none⟩ = some (.string mc) := fun n os => grown_cell hb HG.out (hc 0 _ rfl) n os
      have q1 : ∀ n os, (grow (wr.drewN n) os).cell? ⟨b, off + k * 3 + 1, none⟩ = some (.int .i64 ct) := fun n os => grown_cell hb HG.out (hc 1 _ rfl) n os
      have q2 : ∀ n os, (grow (wr.drewN n) os).cell? ⟨b, off + k * 3 + 2, none⟩ = some (.int .i64 un) := fun n os => grown_cell hb HG.out (hc 2 _ rfl) n os
      have r0 : ∀ n os, (grow (wr.drewN n) os).cell? ⟨b', off' + k * 3, none⟩ = some (.string mc) := fun n os => grown_cell hb' HG.out (hc' 0 _ rfl) n os
      have r1 : ∀ n os, (grow (wr.drewN n) os).cell? ⟨b', off' + k * 3 + 1, none⟩ = some (.int .i64 ct) := fun n os => grown_cell hb' HG.out (hc' 1 _ rfl) n os
      have r2 : ∀ n os, (grow (wr.drewN n) os).cell? ⟨b', off' + k * 3 + 2, none⟩ = some (.int .i64 un) := fun n os => grown_cell hb' HG.out (hc' 2 _ rfl) n os
      have HE : Hid (∀ w, Calls Tryz.prog 137 #[.agg #[.string mc, .int .i64 ct, .int .i64 un], .agg #[.string mc, .int .i64 ct, .int .i64 un]] w fun e w' => e = .returned (.bool true) ∧ Grw w w') := fun w => eqFail_any mc ct un w
      have hltz : (k : Int) < (len : Int) := by omega
      clear hc hc'
      go_wp2_with fail
      refine wp_region_quiet_grown (by assumption) (by kernel_rfl) ?_
      repeat (go_big_quiet_step (first | fail | (go_at_call 137; exact Calls.grown_of (HE.out _))))
      refine wpQuiet_nil ?_
      intro _ hw'
      obtain ⟨⟨nq, osq⟩, hw''⟩ := hw'
      subst hw''
      have HG2 : Hid (Grw w (grow (wr.drewN nq) osq)) := HG.out.trans ⟨nq, osq, rfl⟩
      clear q0 q1 q2 r0 r1 r2 HG HE
      go_wp2
      go_roundw
      case rel => exact ⟨k + 1, by omega, by go_num, HG2⟩
      case measure => simp [intOf]; omega
    · obtain rfl : k = len := by omega
      go_wp2
      go_ret
      exact ⟨rfl, HG.out⟩

set_option maxHeartbeats 2000000 in
theorem toRecord_any (id : Int) (tm : Int) (ca : Int) (bt : Int) (st : Bool) (w : World) :
    Calls Tryz.prog 119 #[.agg #[.int .i64 id, .int .i64 tm, .int .i64 ca, .int .i64 bt, .bool st]] w fun e w' => e = .returned (.agg #[.int .i64 id, .int .i64 tm, .int .i64 ca, .int .i64 bt, .bool st]) ∧ Below w.heap.size w w' := by
  go_enter Tryz.func119, Tryz.ntmps119
  go_wp2
  (try simp only [Exit.inBlock, Exit.then])
  refine bodyPost_ret (v := .agg #[.int .i64 id, .int .i64 tm, .int .i64 ca, .int .i64 bt, .bool st]) (by simp [results, Tryz.results119, go_sem]; try rfl) rfl ?_
  exact ⟨rfl, ((((Grw.refl _).alloc _).alloc _).alloc _).below⟩
set_option maxHeartbeats 1000000 in
theorem eqRecord_any (id : Int) (tm : Int) (ca : Int) (bt : Int) (st : Bool) (w : World) :
    Calls Tryz.prog 138 #[.agg #[.int .i64 id, .int .i64 tm, .int .i64 ca, .int .i64 bt, .bool st], .agg #[.int .i64 id, .int .i64 tm, .int .i64 ca, .int .i64 bt, .bool st]] w fun e w' => e = .returned (.bool true) ∧ Grw w w' := by
  have h0 : (id != id) = false := by simp
  have h1 : (tm != tm) = false := by simp
  have h2 : (ca != ca) = false := by simp
  have h3 : (bt != bt) = false := by simp
  have h4 : (st != st) = false := by simp
  go_enter Tryz.func138, Tryz.ntmps138
  go_wp2
  go_ret
  exact ⟨rfl, ((Grw.refl _).alloc _).alloc _⟩
theorem infoRecord : (Tryz.prog.info? 163).map (fun i => (i.zero, i.size, i.bytes)) = some (some (.agg #[.int .i64 0, .int .i64 0, .int .i64 0, .int .i64 0, .bool false]), 5, 40) := by kernel_rfl
set_option maxHeartbeats 2000000 in
theorem toRecordS_any (a : Option Addr) (len cap : Nat) (xs : List RecV) (w : World) (h : Rw ReR 5 w a xs) (hl : xs.length = len) (hc : len ≤ 1048576) :
    Calls Tryz.prog 48 #[.slice a len cap] w fun e w' => e = .returned (.slice (some ⟨w.heap.size, 0, none⟩) len len) ∧ Rw ReR 5 w' (some ⟨w.heap.size, 0, none⟩) xs ∧ w.heap.size < w'.heap.size ∧ Below w.heap.size w w' := by
  have RW : Hid (Rw ReR 5 w a xs) := h
  clear h
  obtain ⟨i0, hi, hz0, hz1, hz2⟩ := info_parts infoRecord
  have hmk := run_make (P := Tryz.prog) w 44 163 i0 (.agg #[.int .i64 0, .int .i64 0, .int .i64 0, .int .i64 0, .bool false]) Tryz.underlying44 hi hz0 .i64 .i64 len len (by omega) (Int.le_refl _) (by rw [hz2]; omega) (by omega)
  rw [hz1, Int.toNat_natCast] at hmk
  have HM : Hid ((w.alloc (.cells (madeCells #[.int .i64 0, .int .i64 0, .int .i64 0, .int .i64 0, .bool false] (len * 5)) 163)).ownsRow w.heap.size 163 5 (.slice (some ⟨w.heap.size, 0, none⟩) len len) len (madeCells #[.int .i64 0, .int .i64 0, .int .i64 0, .int .i64 0, .bool false] (len * 5)).toList ∧ Below w.heap.size w (w.alloc (.cells (madeCells #[.int .i64 0, .int .i64 0, .int .i64 0, .int .i64 0, .bool false] (len * 5)) 163))) := ⟨owns_made w _ _ len 5 _ (Nat.le_refl _) (by unfold maxLen; omega), (Below.refl _ _).alloc (Nat.le_refl _) _⟩
  have hmk2 : (Instr.makeSlice 44 (.int .i64 (len : Int)) (.int .i64 (len : Int))).run Tryz.prog w = .ok (.slice (some ⟨w.heap.size, 0, none⟩) len len) (w.alloc (.cells (madeCells #[.int .i64 0, .int .i64 0, .int .i64 0, .int .i64 0, .bool false] (len * 5)) 163)) := hmk
  clear hmk hi hz0 hz1 hz2
  obtain ⟨W, hW⟩ : ∃ W, W = w.alloc (.cells (madeCells #[.int .i64 0, .int .i64 0, .int .i64 0, .int .i64 0, .bool false] (len * 5)) 163) := ⟨_, rfl⟩
  rw [← hW] at HM hmk2
  clear hW
  go_enter Tryz.func48, Tryz.ntmps48
  go_wp2
  go_loopw [4] (fun i wr => ∃ (k : Nat) (F : List Value), k ≤ len ∧ i = .int .i64 k ∧ Hid (wr.ownsRow w.heap.size 163 5 (.slice (some ⟨w.heap.size, 0, none⟩) len len) len F ∧ Cop ReR 5 wr F xs k ∧ Below w.heap.size w wr)) (fun i _ => len - (intOf i).toNat)
  case atStart => exact ⟨0, _, Nat.zero_le _, rfl, HM.out.1, Cop.zero, HM.out.2⟩
  case round =>
    obtain ⟨k, F, hk, rfl, X⟩ := hrel
    by_cases hlt : k < len
    · obtain ⟨x, hx⟩ := at_of hl hlt
      obtain ⟨b, off, vs, rfl, hb, hvl, hR, hc⟩ := RW.out.at ReR.kp X.out.2.2 hx
      obtain ⟨id, tm, ca, bt, st⟩ := x
      obtain ⟨rfl, hok⟩ := hR
      have HK : Hid (ReRok ⟨id, tm, ca, bt, st⟩) := hok
      clear hok
      have q0 : wr.cell? ⟨b, off + k * 5, none⟩ = some (.int .i64 id) := hc 0 _ rfl
      have q1 : wr.cell? ⟨b, off + k * 5 + 1, none⟩ = some (.int .i64 tm) := hc 1 _ rfl
      have q2 : wr.cell? ⟨b, off + k * 5 + 2, none⟩ = some (.int .i64 ca) := hc 2 _ rfl
      have q3 : wr.cell? ⟨b, off + k * 5 + 3, none⟩ = some (.int .i64 bt) := hc 3 _ rfl
      have q4 : wr.cell? ⟨b, off + k * 5 + 4, none⟩ = some (.bool st) := hc 4 _ rfl
      have HT : Hid (∀ w, Calls Tryz.prog 119 #[.agg #[.int .i64 id, .int .i64 tm, .int .i64 ca, .int .i64 bt, .bool st]] w fun e w' => e = .returned (.agg #[.int .i64 id, .int .i64 tm, .int .i64 ca, .int .i64 bt, .bool st]) ∧ Below w.heap.size w w') := fun w => toRecord_any id tm ca bt st w
      have hltz : (k : Int) < (len : Int) := by omega
      clear hc
      go_wp2_with fail
      refine (HT.out _).mono ?_
      rintro e w1 ⟨rfl, b1⟩
      have o1 := owns_now X.out.1 b1
      obtain ⟨⟨u0, c0⟩, z0⟩ := owns_cell o1 (j := 0) hlt (by omega)
      obtain ⟨⟨u1, c1⟩, z1⟩ := owns_cell o1 (j := 1) hlt (by omega)
      obtain ⟨⟨u2, c2⟩, z2⟩ := owns_cell o1 (j := 2) hlt (by omega)
      obtain ⟨⟨u3, c3⟩, z3⟩ := owns_cell o1 (j := 3) hlt (by omega)
      obtain ⟨⟨u4, c4⟩, z4⟩ := owns_cell o1 (j := 4) hlt (by omega)
      replace c0 : w1.cell? ⟨w.heap.size, k * 5, none⟩ = some u0 := c0
      replace z0 : w1.frozen? ⟨w.heap.size, k * 5, none⟩ = false := z0
      have Y0 : ∀ W1, W1 = ((((w1.setCell ⟨w.heap.size, k * 5, none⟩ (.int .i64 id)).setCell ⟨w.heap.size, k * 5 + 1, none⟩ (.int .i64 tm)).setCell ⟨w.heap.size, k * 5 + 2, none⟩ (.int .i64 ca)).setCell ⟨w.heap.size, k * 5 + 3, none⟩ (.int .i64 bt)).setCell ⟨w.heap.size, k * 5 + 4, none⟩ (.bool st) → W1.ownsRow w.heap.size 163 5 (.slice (some ⟨w.heap.size, 0, none⟩) len len) len (sets F (k * 5) [.int .i64 id, .int .i64 tm, .int .i64 ca, .int .i64 bt, .bool st]) ∧ Cop ReR 5 W1 (sets F (k * 5) [.int .i64 id, .int .i64 tm, .int .i64 ca, .int .i64 bt, .bool st]) xs (k + 1) ∧ Below w.heap.size w W1 := by
        intro W1 hW1
        have h2 := owns_sets [.int .i64 id, .int .i64 tm, .int .i64 ca, .int .i64 bt, .bool st] _ _ (k * 5) o1
        rw [wsets5, ← hW1] at h2
        have hF : k * 5 + 5 ≤ F.length := by
          rw [X.out.1.1]
          have : (k + 1) * 5 ≤ len * 5 := Nat.mul_le_mul_right _ hlt
          omega
        have c2 : Cop ReR 5 W1 F xs k := Cop.keep X.out.2.1 (fun x vs h => h)
        have c3 := Cop.step (vs := [.int .i64 id, .int .i64 tm, .int .i64 ca, .int .i64 bt, .bool st]) c2 hx ⟨rfl, HK.out⟩ rfl hF
        exact ⟨h2.1, c3, (X.out.2.2.trans (b1.mono X.out.2.2.size)).trans (below_row h2.2 (Nat.le_refl _) (Nat.le_trans X.out.2.2.size b1.size))⟩
      have Y : Hid ((((((w1.setCell ⟨w.heap.size, k * 5, none⟩ (.int .i64 id)).setCell ⟨w.heap.size, k * 5 + 1, none⟩ (.int .i64 tm)).setCell ⟨w.heap.size, k * 5 + 2, none⟩ (.int .i64 ca)).setCell ⟨w.heap.size, k * 5 + 3, none⟩ (.int .i64 bt)).setCell ⟨w.heap.size, k * 5 + 4, none⟩ (.bool st)).ownsRow w.heap.size 163 5 (.slice (some ⟨w.heap.size, 0, none⟩) len len) len (sets F (k * 5) [.int .i64 id, .int .i64 tm, .int .i64 ca, .int .i64 bt, .bool st]) ∧ Cop ReR 5 (((((w1.setCell ⟨w.heap.size, k * 5, none⟩ (.int .i64 id)).setCell ⟨w.heap.size, k * 5 + 1, none⟩ (.int .i64 tm)).setCell ⟨w.heap.size, k * 5 + 2, none⟩ (.int .i64 ca)).setCell ⟨w.heap.size, k * 5 + 3, none⟩ (.int .i64 bt)).setCell ⟨w.heap.size, k * 5 + 4, none⟩ (.bool st)) (sets F (k * 5) [.int .i64 id, .int .i64 tm, .int .i64 ca, .int .i64 bt, .bool st]) xs (k + 1) ∧ Below w.heap.size w (((((w1.setCell ⟨w.heap.size, k * 5, none⟩ (.int .i64 id)).setCell ⟨w.heap.size, k * 5 + 1, none⟩ (.int .i64 tm)).setCell ⟨w.heap.size, k * 5 + 2, none⟩ (.int .i64 ca)).setCell ⟨w.heap.size, k * 5 + 3, none⟩ (.int .i64 bt)).setCell ⟨w.heap.size, k * 5 + 4, none⟩ (.bool st))) := Y0 _ rfl
      clear Y0
      clear o1 b1 q0 q1 q2 q3 q4 HT X HM hmk2 hx HK
      go_wp2
      go_roundw
      case rel => exact ⟨k + 1, _, by omega, by go_num, Y⟩
      case measure => simp [intOf]; omega
    · obtain rfl : k = len := by omega
      go_wp2
      go_ret
      exact ⟨rfl, X.out.2.1.rw X.out.1 hl, (World.ownsRow.lt X.out.1 w.heap.size rfl).2, X.out.2.2⟩
set_option maxHeartbeats 2000000 in
theorem eqRecordS_yes (a a' : Option Addr) (len cap cap' : Nat) (xs : List RecV) (w : World) (h : Rw ReR 5 w a xs) (h' : Rw ReR 5 w a' xs) (hl : xs.length = len) (hlen : len ≤ 9223372036854775807) :
    Calls Tryz.prog 59 #[.slice a len cap, .slice a' len cap'] w fun e w' => e = .returned (.bool true) ∧ Grw w w' := by
  have hne : ((len : Int) != (len : Int)) = false := by simp
  have hmix : Tryz.prog.follows .mixedOrders = true := by kernel_rfl
  have RW : Hid (Rw ReR 5 w a xs) := h
  have RW' : Hid (Rw ReR 5 w a' xs) := h'
  clear h h'
  go_enter Tryz.func59, Tryz.ntmps59
  go_wp2
  go_loopw [5] (fun i wr => ∃ k : Nat, k ≤ len ∧ i = .int .i64 k ∧ Hid (Grw w wr)) (fun i _ => len - (intOf i).toNat)
  case atStart => exact ⟨0, Nat.zero_le _, rfl, Grw.refl w⟩
  case round =>
    obtain ⟨k, hk, rfl, HG⟩ := hrel
    by_cases hlt : k < len
    · obtain ⟨x, hx⟩ := at_of hl hlt
      obtain ⟨b, off, vs, rfl, hb, hvl, hR, hc⟩ := RW.out.at ReR.kp HG.out.below hx
      obtain ⟨b', off', vs', rfl, hb', hvl', hR', hc'⟩ := RW'.out.at ReR.kp HG.out.below hx
      obtain ⟨id, tm, ca, bt, st⟩ := x
      obtain ⟨rfl, -⟩ := hR
      obtain ⟨rfl, -⟩ := hR'
      have q0 : ∀ n os, (grow (wr.drewN n) os).cell? ⟨b, off + k * 5, none⟩ = some (.int .i64 id) := fun n os => grown_cell hb HG.out (hc 0 _ rfl) n os
      have q1 : ∀ n os, (grow (wr.drewN n) os).cell? ⟨b, off + k * 5 + 1, none⟩ = some (.int .i64 tm) := fun n os => grown_cell hb HG.out (hc 1 _ rfl) n os
      have q2 : ∀ n os, (grow (wr.drewN n) os).cell? ⟨b, off + k * 5 + 2, none⟩ = some (.int .i64 ca) := fun n os => grown_cell hb HG.out (hc 2 _ rfl) n os
      have q3 : ∀ n os, (grow (wr.drewN n) os).cell? ⟨b, off + k * 5 + 3, none⟩ = some (.int .i64 bt) := fun n os => grown_cell hb HG.out (hc 3 _ rfl) n os
      have q4 : ∀ n os, (grow (wr.drewN n) os).cell? ⟨b, off + k * 5 + 4, none⟩ = some (.bool st) := fun n os => grown_cell hb HG.out (hc 4 _ rfl) n os
      have r0 : ∀ n os, (grow (wr.drewN n) os).cell? ⟨b', off' + k * 5, none⟩ = some (.int .i64 id) := fun n os => grown_cell hb' HG.out (hc' 0 _ rfl) n os
      have r1 : ∀ n os, (grow (wr.drewN n) os).cell? ⟨b', off' + k * 5 + 1, none⟩ = some (.int .i64 tm) := fun n os => grown_cell hb' HG.out (hc' 1 _ rfl) n os
      have r2 : ∀ n os, (grow (wr.drewN n) os).cell? ⟨b', off' + k * 5 + 2, none⟩ = some (.int .i64 ca) := fun n os => grown_cell hb' HG.out (hc' 2 _ rfl) n os
      have r3 : ∀ n os, (grow (wr.drewN n) os).cell? ⟨b', off' + k * 5 + 3, none⟩ = some (.int .i64 bt) := fun n os => grown_cell hb' HG.out (hc' 3 _ rfl) n os
      have r4 : ∀ n os, (grow (wr.drewN n) os).cell? ⟨b', off' + k * 5 + 4, none⟩ = some (.bool st) := fun n os => grown_cell hb' HG.out (hc' 4 _ rfl) n os
      have HE : Hid (∀ w, Calls Tryz.prog 138 #[.agg #[.int .i64 id, .int .i64 tm, .int .i64 ca, .int .i64 bt, .bool st], .agg #[.int .i64 id, .int .i64 tm, .int .i64 ca, .int .i64 bt, .bool st]] w fun e w' => e = .returned (.bool true) ∧ Grw w w') := fun w => eqRecord_any id tm ca bt st w
      have hltz : (k : Int) < (len : Int) := by omega
      clear hc hc'
      go_wp2_with fail
      refine wp_region_quiet_grown (by assumption) (by kernel_rfl) ?_
      repeat (go_big_quiet_step (first | fail | (go_at_call 138; exact Calls.grown_of (HE.out _))))
      refine wpQuiet_nil ?_
      intro _ hw'
      obtain ⟨⟨nq, osq⟩, hw''⟩ := hw'
      subst hw''
      have HG2 : Hid (Grw w (grow (wr.drewN nq) osq)) := HG.out.trans ⟨nq, osq, rfl⟩
      clear q0 q1 q2 q3 q4 r0 r1 r2 r3 r4 HG HE
      go_wp2
      go_roundw
      case rel => exact ⟨k + 1, by omega, by go_num, HG2⟩
      case measure => simp [intOf]; omega
    · obtain rfl : k = len := by omega
      go_wp2
      go_ret
      exact ⟨rfl, HG.out⟩

theorem szRecordS_any (a : Option Addr) (len cap : Nat) (l : Int) (w : World) (hl : len ≤ 9223372036854775807) (h0 : 0 ≤ l) (h1 : l ≤ 1048576) :
    Calls Tryz.prog 39 #[.slice a len cap, .int .i64 l] w fun e w' => ∃ r : Int, e = .returned (.int .i64 r) ∧ (0 ≤ r → (len : Int) ≤ l) ∧ -1 ≤ r ∧ r ≤ 1048576 ∧ w' = w := by
  by_cases h : (len : Int) ≤ l
  · go_enter Tryz.func39, Tryz.ntmps39
    go_wp2
    go_ret
    exact ⟨_, rfl, fun _ => by omega, by omega, by omega, rfl⟩
  · go_enter Tryz.func39, Tryz.ntmps39
    go_wp2
    go_ret
    exact ⟨-1, rfl, fun h => absurd h (by omega), by omega, by omega, rfl⟩
end Go.Proofs.YtlebblmlbhnppaaGreat
