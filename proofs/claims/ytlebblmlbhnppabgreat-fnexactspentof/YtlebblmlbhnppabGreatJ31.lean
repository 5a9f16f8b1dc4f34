/- Users, sessions, fails, records, guests: what comes in as an argument, opened. Rows of one's own of flat structs, K cells an element. Nothing of the program is imported. Flows as values. Flows that come in as an argument, opened. Connections and segments as values. Connections that come in as an argument, opened. Gateways as values; one that comes in as an argument, opened. Rules and places copied and compared by the laws; the walk of laws.FnExactRuleOK. Lists of rules and roles in the laws: szRuleS, toRuleS, eqRuleS, szRole, toRole, eqRole; the walk of laws.FnExactRoleOK. -/
import Derived.Test.YtlebblmlbhnppabGreatGuV
import Derived.Test.YtlebblmlbhnppabGreatProg
import Derived.Test.YtlebblmlbhnppabGreatRws
import Derived.Laws.AppendOwnNone
import Derived.Test.YtlebblmlbhnppabGreatOpenR
import Derived.Test.YtlebblmlbhnppabGreatRuleW
import Derived.Test.YtlebblmlbhnppabGreatRoleW
import Derived.Deep.RegionHeld3
namespace Go.Proofs.YtlebblmlbhnppabGreat
open Go.RowKit Go.PlainAid
set_option linter.unusedVariables false

section OpnG
variable {H : Type} {enc : TypeId × Value → H} {w : World} {base : Nat} {spare : Nat → Bool} {held : Bool} {fuel : Nat} {cs : List Value} {x : DataW H × List MemPlace}

theorem gis3 {α : Type} {cs : List α} (h : cs.length = 3) : ∃ c0 c1 c2, cs = [c0, c1, c2] := by
  match cs, h with
  | [c0, c1, c2], _ => exact ⟨c0, c1, c2, rfl⟩

theorem gis5 {α : Type} {cs : List α} (h : cs.length = 5) : ∃ c0 c1 c2 c3 c4, cs = [c0, c1, c2, c3, c4] := by
  match cs, h with
  | [c0, c1, c2, c3, c4], _ => exact ⟨c0, c1, c2, c3, c4, rfl⟩

theorem gis6 {α : Type} {cs : List α} (h : cs.length = 6) : ∃ c0 c1 c2 c3 c4 c5, cs = [c0, c1, c2, c3, c4, c5] := by
  match cs, h with
  | [c0, c1, c2, c3, c4, c5], _ => exact ⟨c0, c1, c2, c3, c4, c5, rfl⟩

theorem gis10 {α : Type} {cs : List α} (h : cs.length = 10) : ∃ c0 c1 c2 c3 c4 c5 c6 c7 c8 c9, cs = [c0, c1, c2, c3, c4, c5, c6, c7, c8, c9] := by
  match cs, h with
  | [c0, c1, c2, c3, c4, c5, c6, c7, c8, c9], _ => exact ⟨c0, c1, c2, c3, c4, c5, c6, c7, c8, c9, rfl⟩

theorem gl_User : Tryz.prog.cellsOf 130 = 6 := by kernel_rfl
theorem gl_sUser : Tryz.prog.cellsOf 28 = 1 := by kernel_rfl
theorem gl_Session : Tryz.prog.cellsOf 132 = 10 := by kernel_rfl
theorem gl_sSession : Tryz.prog.cellsOf 29 = 1 := by kernel_rfl
theorem gl_Fail : Tryz.prog.cellsOf 135 = 3 := by kernel_rfl
theorem gl_sFail : Tryz.prog.cellsOf 30 = 1 := by kernel_rfl
theorem gl_Record : Tryz.prog.cellsOf 161 = 5 := by kernel_rfl
theorem gl_sRecord : Tryz.prog.cellsOf 31 = 1 := by kernel_rfl
theorem gl_Guests : Tryz.prog.cellsOf 33 = 5 := by kernel_rfl
theorem gl_int : Tryz.prog.cellsOf 3 = 1 := by kernel_rfl
theorem gl_string : Tryz.prog.cellsOf 9 = 1 := by kernel_rfl
theorem gl_bool : Tryz.prog.cellsOf 4 = 1 := by kernel_rfl
theorem open_user (h : DataW.trod enc Tryz.prog w base spare held fuel 130 cs = some x) : ∃ d, UsR w d cs := by
  obtain ⟨xs, m, _, _, hcl, hlen, hfld⟩ := DataW.trod_struct Tryz.underlying130 h
  rw [gl_User] at hcl
  obtain ⟨c0, c1, c2, c3, c4, c5, rfl⟩ := gis6 hcl
  replace hlen : xs.length = 6 := hlen
  have e0 := hfld 0 _ rfl
  rw [List.getElem?_eq_getElem (by omega)] at e0
  obtain ⟨a0, q0, _, w0⟩ := DataW.trod_string Tryz.underlying9 e0
  simp [gl_string] at q0
  subst q0
  have e1 := hfld 1 _ rfl
  rw [List.getElem?_eq_getElem (by omega)] at e1
  obtain ⟨a1, q1, _, w1⟩ := DataW.trod_string Tryz.underlying9 e1
  simp [gl_string] at q1
  subst q1
  have e2 := hfld 2 _ rfl
  rw [List.getElem?_eq_getElem (by omega)] at e2
  obtain ⟨a2, q2, _, w2⟩ := DataW.trod_string Tryz.underlying9 e2
  simp [gl_string] at q2
  subst q2
  have e3 := hfld 3 _ rfl
  rw [List.getElem?_eq_getElem (by omega)] at e3
  obtain ⟨a3, q3, _, w3⟩ := DataW.trod_string Tryz.underlying9 e3
  simp [gl_string] at q3
  subst q3
  have e4 := hfld 4 _ rfl
  rw [List.getElem?_eq_getElem (by omega)] at e4
  obtain ⟨a4, q4, _, w4⟩ := DataW.trod_int Tryz.underlying3 e4
  simp [gl_int] at q4
  subst q4
  have e5 := hfld 5 _ rfl
  rw [List.getElem?_eq_getElem (by omega)] at e5
  obtain ⟨a5, q5, _, w5⟩ := DataW.trod_int Tryz.underlying3 e5
  simp [gl_int] at q5
  subst q5
  exact ⟨⟨a0, a1, a2, a3, a4, a5⟩, rfl, w0, w1, w2, w3, w4, w5⟩

theorem open_users (h : DataW.trod enc Tryz.prog w base spare held fuel 28 cs = some x) : ∃ (a : Option Addr) (len cap : Nat) (xs : List UserV), cs = [.slice a len cap] ∧ xs.length = len ∧ len ≤ cap ∧ cap ≤ maxLen ∧ (a = none → cap = 0) ∧ Rw UsR 6 w a xs :=
  rows_of UsR 6 Tryz.underlying28 gl_User (by omega) (fun _ _ _ h => open_user h) h

theorem open_session (h : DataW.trod enc Tryz.prog w base spare held fuel 132 cs = some x) : ∃ d, SeR w d cs := by
  obtain ⟨xs, m, _, _, hcl, hlen, hfld⟩ := DataW.trod_struct Tryz.underlying132 h
  rw [gl_Session] at hcl
  obtain ⟨c0, c1, c2, c3, c4, c5, c6, c7, c8, c9, rfl⟩ := gis10 hcl
  replace hlen : xs.length = 10 := hlen
  have e0 := hfld 0 _ rfl
  rw [List.getElem?_eq_getElem (by omega)] at e0
  obtain ⟨a0, q0, _, w0⟩ := DataW.trod_int Tryz.underlying3 e0
  simp [gl_int] at q0
  subst q0
  have e1 := hfld 1 _ rfl
  rw [List.getElem?_eq_getElem (by omega)] at e1
  obtain ⟨a1, q1, _, w1⟩ := DataW.trod_int Tryz.underlying3 e1
  simp [gl_int] at q1
  subst q1
  have e2 := hfld 2 _ rfl
  rw [List.getElem?_eq_getElem (by omega)] at e2
  obtain ⟨a2, q2, _, w2⟩ := DataW.trod_string Tryz.underlying9 e2
  simp [gl_string] at q2
  subst q2
  have e3 := hfld 3 _ rfl
  rw [List.getElem?_eq_getElem (by omega)] at e3
  obtain ⟨a3, q3, _, w3⟩ := DataW.trod_int Tryz.underlying3 e3
  simp [gl_int] at q3
  subst q3
  have e4 := hfld 4 _ rfl
  rw [List.getElem?_eq_getElem (by omega)] at e4
  obtain ⟨a4, q4, _, w4⟩ := DataW.trod_int Tryz.underlying3 e4
  simp [gl_int] at q4
  subst q4
  have e5 := hfld 5 _ rfl
  rw [List.getElem?_eq_getElem (by omega)] at e5
  obtain ⟨a5, q5, _, w5⟩ := DataW.trod_int Tryz.underlying3 e5
  simp [gl_int] at q5
  subst q5
  have e6 := hfld 6 _ rfl
  rw [List.getElem?_eq_getElem (by omega)] at e6
  obtain ⟨a6, q6, _, w6⟩ := DataW.trod_int Tryz.underlying3 e6
  simp [gl_int] at q6
  subst q6
  have e7 := hfld 7 _ rfl
  rw [List.getElem?_eq_getElem (by omega)] at e7
  obtain ⟨a7, q7, _, w7⟩ := DataW.trod_int Tryz.underlying3 e7
  simp [gl_int] at q7
  subst q7
  have e8 := hfld 8 _ rfl
  rw [List.getElem?_eq_getElem (by omega)] at e8
  obtain ⟨a8, q8, _, w8⟩ := DataW.trod_int Tryz.underlying3 e8
  simp [gl_int] at q8
  subst q8
  have e9 := hfld 9 _ rfl
  rw [List.getElem?_eq_getElem (by omega)] at e9
  obtain ⟨a9, q9, _, w9⟩ := DataW.trod_int Tryz.underlying3 e9
  simp [gl_int] at q9
  subst q9
  exact ⟨⟨a0, a1, a2, a3, a4, a5, a6, a7, a8, a9⟩, rfl, w0, w1, w2, w3, w4, w5, w6, w7, w8, w9⟩

theorem open_sessions (h : DataW.trod enc Tryz.prog w base spare held fuel 29 cs = some x) : ∃ (a : Option Addr) (len cap : Nat) (xs : List SessV), cs = [.slice a len cap] ∧ xs.length = len ∧ len ≤ cap ∧ cap ≤ maxLen ∧ (a = none → cap = 0) ∧ Rw SeR 10 w a xs :=
  rows_of SeR 10 Tryz.underlying29 gl_Session (by omega) (fun _ _ _ h => open_session h) h

theorem open_fail (h : DataW.trod enc Tryz.prog w base spare held fuel 135 cs = some x) : ∃ d, FaR w d cs := by
  obtain ⟨xs, m, _, _, hcl, hlen, hfld⟩ := DataW.trod_struct Tryz.underlying135 h
  rw [gl_Fail] at hcl
  obtain ⟨c0, c1, c2, rfl⟩ := gis3 hcl
  replace hlen : xs.length = 3 := hlen
  have e0 := hfld 0 _ rfl
  rw [List.getElem?_eq_getElem (by omega)] at e0
  obtain ⟨a0, q0, _, w0⟩ := DataW.trod_string Tryz.underlying9 e0
  simp [gl_string] at q0
  subst q0
  have e1 := hfld 1 _ rfl
  rw [List.getElem?_eq_getElem (by omega)] at e1
  obtain ⟨a1, q1, _, w1⟩ := DataW.trod_int Tryz.underlying3 e1
  simp [gl_int] at q1
  subst q1
  have e2 := hfld 2 _ rfl
  rw [List.getElem?_eq_getElem (by omega)] at e2
  obtain ⟨a2, q2, _, w2⟩ := DataW.trod_int Tryz.underlying3 e2
  simp [gl_int] at q2
  subst q2
  exact ⟨⟨a0, a1, a2⟩, rfl, w0, w1, w2⟩

theorem open_fails (h : DataW.trod enc Tryz.prog w base spare held fuel 30 cs = some x) : ∃ (a : Option Addr) (len cap : Nat) (xs : List FailV), cs = [.slice a len cap] ∧ xs.length = len ∧ len ≤ cap ∧ cap ≤ maxLen ∧ (a = none → cap = 0) ∧ Rw FaR 3 w a xs :=
  rows_of FaR 3 Tryz.underlying30 gl_Fail (by omega) (fun _ _ _ h => open_fail h) h

theorem open_record (h : DataW.trod enc Tryz.prog w base spare held fuel 161 cs = some x) : ∃ d, ReR w d cs := by
  obtain ⟨xs, m, _, _, hcl, hlen, hfld⟩ := DataW.trod_struct Tryz.underlying161 h
  rw [gl_Record] at hcl
  obtain ⟨c0, c1, c2, c3, c4, rfl⟩ := gis5 hcl
  replace hlen : xs.length = 5 := hlen
  have e0 := hfld 0 _ rfl
  rw [List.getElem?_eq_getElem (by omega)] at e0
  obtain ⟨a0, q0, _, w0⟩ := DataW.trod_int Tryz.underlying3 e0
  simp [gl_int] at q0
  subst q0
  have e1 := hfld 1 _ rfl
  rw [List.getElem?_eq_getElem (by omega)] at e1
  obtain ⟨a1, q1, _, w1⟩ := DataW.trod_int Tryz.underlying3 e1
  simp [gl_int] at q1
  subst q1
  have e2 := hfld 2 _ rfl
  rw [List.getElem?_eq_getElem (by omega)] at e2
  obtain ⟨a2, q2, _, w2⟩ := DataW.trod_int Tryz.underlying3 e2
  simp [gl_int] at q2
  subst q2
  have e3 := hfld 3 _ rfl
  rw [List.getElem?_eq_getElem (by omega)] at e3
  obtain ⟨a3, q3, _, w3⟩ := DataW.trod_int Tryz.underlying3 e3
  simp [gl_int] at q3
  subst q3
  have e4 := hfld 4 _ rfl
  rw [List.getElem?_eq_getElem (by omega)] at e4
  obtain ⟨a4, q4, _⟩ := DataW.trod_bool Tryz.underlying4 e4
  simp [gl_bool] at q4
  subst q4
  exact ⟨⟨a0, a1, a2, a3, a4⟩, rfl, w0, w1, w2, w3⟩

theorem open_records (h : DataW.trod enc Tryz.prog w base spare held fuel 31 cs = some x) : ∃ (a : Option Addr) (len cap : Nat) (xs : List RecV), cs = [.slice a len cap] ∧ xs.length = len ∧ len ≤ cap ∧ cap ≤ maxLen ∧ (a = none → cap = 0) ∧ Rw ReR 5 w a xs :=
  rows_of ReR 5 Tryz.underlying31 gl_Record (by omega) (fun _ _ _ h => open_record h) h

theorem open_guests (h : DataW.trod enc Tryz.prog w base spare held fuel 33 cs = some x) : ∃ (ua sa fa ra : Option Addr) (ul uc sl sc fl fc rl rc : Nat) (us : List UserV) (ss : List SessV) (fs : List FailV) (rs : List RecV) (nx : Int), cs = [.slice ua ul uc, .slice sa sl sc, .slice fa fl fc, .slice ra rl rc, .int .i64 nx] ∧ (us.length = ul ∧ ul ≤ uc ∧ uc ≤ maxLen ∧ Rw UsR 6 w ua us) ∧ (ss.length = sl ∧ sl ≤ sc ∧ sc ≤ maxLen ∧ Rw SeR 10 w sa ss) ∧ (fs.length = fl ∧ fl ≤ fc ∧ fc ≤ maxLen ∧ Rw FaR 3 w fa fs) ∧ (rs.length = rl ∧ rl ≤ rc ∧ rc ≤ maxLen ∧ Rw ReR 5 w ra rs) ∧ (Lit.int .i64 nx).wf = true := by
  obtain ⟨xs, m, _, _, hcl, hlen, hfld⟩ := DataW.trod_struct Tryz.underlying33 h
  rw [gl_Guests] at hcl
  obtain ⟨c0, c1, c2, c3, c4, rfl⟩ := gis5 hcl
  replace hlen : xs.length = 5 := hlen
  have e0 := hfld 0 _ rfl
  rw [List.getElem?_eq_getElem (by omega)] at e0
  obtain ⟨a0, len0, cap0, xs0, q0, l0, lc0, cm0, _, r0⟩ := open_users e0
  simp [gl_sUser] at q0
  subst q0
  have e1 := hfld 1 _ rfl
  rw [List.getElem?_eq_getElem (by omega)] at e1
  obtain ⟨a1, len1, cap1, xs1, q1, l1, lc1, cm1, _, r1⟩ := open_sessions e1
  simp [gl_sSession] at q1
  subst q1
  have e2 := hfld 2 _ rfl
  rw [List.getElem?_eq_getElem (by omega)] at e2
  obtain ⟨a2, len2, cap2, xs2, q2, l2, lc2, cm2, _, r2⟩ := open_fails e2
  simp [gl_sFail] at q2
  subst q2
  have e3 := hfld 3 _ rfl
  rw [List.getElem?_eq_getElem (by omega)] at e3
  obtain ⟨a3, len3, cap3, xs3, q3, l3, lc3, cm3, _, r3⟩ := open_records e3
  simp [gl_sRecord] at q3
  subst q3
  have e4 := hfld 4 _ rfl
  rw [List.getElem?_eq_getElem (by omega)] at e4
  obtain ⟨a4, q4, _, w4⟩ := DataW.trod_int Tryz.underlying3 e4
  simp [gl_int] at q4
  subst q4
  exact ⟨_, _, _, _, _, _, _, _, _, _, _, _, _, _, _, _, _, rfl, ⟨l0, lc0, cm0, r0⟩, ⟨l1, lc1, cm1, r1⟩, ⟨l2, lc2, cm2, r2⟩, ⟨l3, lc3, cm3, r3⟩, w4⟩

end OpnG
end Go.Proofs.YtlebblmlbhnppabGreat

namespace Go.Proofs.YtlebblmlbhnppabGreat
open Go.RowKit Go.PlainAid
set_option linter.unusedVariables false

/-- The cells of the xs, one behind the other. -/
def flatS {α : Type} (c : α → List Value) (xs : List α) : List Value := xs.flatMap c
section Fl
variable {α : Type} {c : α → List Value} {K : Nat}
theorem flatS_append (xs ys : List α) : flatS c (xs ++ ys) = flatS c xs ++ flatS c ys := by simp [flatS]
theorem flatS_one (x : α) : flatS c [x] = c x := by simp [flatS]
theorem flatS_cons (x : α) (xs : List α) : flatS c (x :: xs) = c x ++ flatS c xs := rfl
theorem flatS_len (hK : ∀ x, (c x).length = K) : ∀ xs : List α, (flatS c xs).length = xs.length * K
  | [] => by simp [flatS]
  | x :: xs => by rw [flatS_cons, List.length_append, hK, flatS_len hK xs, List.length_cons, Nat.add_mul]; omega
theorem flatS_at (hK : ∀ x, (c x).length = K) : ∀ (xs : List α) (i : Nat) (x : α) (j : Nat), xs[i]? = some x → j < K → (flatS c xs)[i * K + j]? = (c x)[j]?
  | [], i, x, j, h, hj => by simp at h
  | y :: xs, 0, x, j, h, hj => by
    simp at h
    subst h
    rw [flatS_cons, List.getElem?_append_left (by rw [hK]; omega)]
    congr 1
    omega
  | y :: xs, i + 1, x, j, h, hj => by
    rw [flatS_cons, List.getElem?_append_right (by rw [hK, Nat.add_mul]; omega), hK, show (i + 1) * K + j - K = i * K + j by rw [Nat.add_mul]; omega]
    exact flatS_at hK xs i x j (by simpa using h) hj
theorem sets_mid : ∀ (vs B A C : List Value), B.length = vs.length → sets (A ++ (B ++ C)) A.length vs = A ++ (vs ++ C)
  | [], [], A, C, _ => rfl
  | v :: vs, b :: B, A, C, h => by
    have e : (A ++ ((b :: B) ++ C)).set A.length v = (A ++ [v]) ++ (B ++ C) := by simp
    have := sets_mid vs B (A ++ [v]) C (by simpa using h)
    unfold sets
    rw [e, show A.length + 1 = (A ++ [v]).length by simp, this]
    simp
theorem flatS_sets (hK : ∀ x, (c x).length = K) (xs : List α) (i : Nat) (y : α) (hi : i < xs.length) : flatS c (xs.set i y) = sets (flatS c xs) (i * K) (c y) := by
  obtain ⟨A, x, C, rfl, rfl⟩ : ∃ A x C, xs = A ++ x :: C ∧ A.length = i := ⟨xs.take i, xs[i], xs.drop (i + 1), by simp, by simp; omega⟩
  have e : (A ++ x :: C).set A.length y = A ++ y :: C := by simp
  rw [e, flatS_append, flatS_append, flatS_cons, flatS_cons, ← flatS_len hK, sets_mid _ _ _ _ (by rw [hK, hK])]
theorem flatS_set1 (hK : ∀ x, (c x).length = K) (xs : List α) (i : Nat) (x y : α) (j : Nat) (v : Value) (hx : xs[i]? = some x) (hj : j < K) (hy : c y = (c x).set j v) : flatS c (xs.set i y) = (flatS c xs).set (i * K + j) v := by
  have hi := (List.getElem?_eq_some_iff.1 hx).1
  obtain ⟨A, x', C, rfl, rfl⟩ : ∃ A x C, xs = A ++ x :: C ∧ A.length = i := ⟨xs.take i, xs[i], xs.drop (i + 1), by simp, by simp; omega⟩
  have ex : x' = x := by simpa using hx
  subst ex
  have e : (A ++ x' :: C).set A.length y = A ++ y :: C := by simp
  rw [e, flatS_append, flatS_append, flatS_cons, flatS_cons, ← flatS_len hK, hy, List.set_append_right _ _ (by omega), List.set_append_left _ _ (by rw [hK]; omega), show (flatS c A).length + j - (flatS c A).length = j by omega]
end Fl

/-- The slice value v owns the xs, in a block from B on. -/
def OwnS {α : Type} (c : α → List Value) (K : Nat) (e : TypeId) (w : World) (B : Nat) (v : Value) (xs : List α) : Prop := w.ownsRow B e K v xs.length (flatS c xs)
/-- A flat struct, its cells and what is known of it. -/
def FR {α : Type} (c : α → List Value) (ok : α → Prop) (w : World) (u : α) (vs : List Value) : Prop := vs = c u ∧ ok u
theorem FR.kp {α : Type} {c : α → List Value} {ok : α → Prop} : Kp (FR c ok) := fun _ _ _ _ h _ => h
section Ow
variable {α : Type} {c : α → List Value} {K : Nat} {e : TypeId} {w w' : World} {B : Nat} {v : Value} {xs : List α}
theorem OwnS.lt (h : OwnS c K e w B v xs) : ∀ k, v.ownBlock = some k → B ≤ k ∧ k < w.heap.size := World.ownsRow.lt h
theorem OwnS.keep {m : Nat} (h : OwnS c K e w B v xs) (hb : Below m w w') (hm : ∀ k, v.ownBlock = some k → k < m) : OwnS c K e w' B v xs := owns_keep h hb hm
theorem OwnS.now (h : OwnS c K e w B v xs) (hb : Below w.heap.size w w') : OwnS c K e w' B v xs := owns_now h hb
theorem OwnS.kept {r : Option Nat} (h : OwnS c K e w B v xs) (hg : w.grownBy w' r) (hne : v.ownBlock = none ∨ v.ownBlock ≠ r) : OwnS c K e w' B v xs := World.ownsRow.kept h hg hne
theorem OwnS.lower {B' : Nat} (h : OwnS c K e w B v xs) (hB : B' ≤ B) : OwnS c K e w B' v xs := by
  refine ⟨h.1, ?_⟩
  rcases h.2 with h' | ⟨g, cap, cur, h1, hb, h4⟩
  · exact .inl h'
  · exact .inr ⟨g, cap, cur, h1, Nat.le_trans hB hb, h4⟩
theorem OwnS.slice (h : OwnS c K e w B v xs) : ∃ a cap, v = .slice a xs.length cap ∧ xs.length ≤ cap ∧ cap ≤ maxLen ∧ (∀ b off, a = some ⟨b, off, none⟩ → B ≤ b ∧ b < w.heap.size) := by
  rcases h.2 with ⟨h1, h2⟩ | ⟨g, cap, cur, h1, hB, hg, h3, h4, _⟩
  · exact ⟨none, 0, by rw [h1, h2], by omega, Nat.zero_le _, fun b off e => by cases e⟩
  · exact ⟨_, cap, h1, h3, h4, fun b off e => by cases e; exact ⟨hB, (Array.getElem?_eq_some_iff.1 hg).1⟩⟩
theorem OwnS.form {a : Option Addr} {n cap : Nat} (h : OwnS c K e w B (.slice a n cap) xs) (h0 : 0 < xs.length) : ∃ g, a = some ⟨g, 0, none⟩ ∧ B ≤ g ∧ g < w.heap.size ∧ xs.length = n := by
  rcases h.2 with ⟨h1, h2⟩ | ⟨g, cap, cur, h1, hB, hg, _⟩
  · omega
  · cases h1
    exact ⟨g, rfl, hB, (Array.getElem?_eq_some_iff.1 hg).1, rfl⟩
theorem OwnS.len {a : Option Addr} {n cap : Nat} (h : OwnS c K e w B (.slice a n cap) xs) : xs.length = n := by
  rcases h.2 with ⟨h1, h2⟩ | ⟨g, cap, cur, h1, _⟩
  · cases h1
    exact h2
  · cases h1
    rfl
theorem OwnS.rw {a : Option Addr} {n cap : Nat} {ok : α → Prop} (h : OwnS c K e w B (.slice a n cap) xs) (hK : ∀ x, (c x).length = K) (hok : ∀ x, x ∈ xs → ok x) : Rw (FR c ok) K w a xs := by
  intro h0
  obtain ⟨g, rfl, hB, hg, rfl⟩ := h.form h0
  refine ⟨g, 0, rfl, hg, fun i x hx => ⟨c x, hK x, ⟨rfl, hok x (List.mem_of_getElem? hx)⟩, fun j u hu => ?_⟩⟩
  have hj := (List.getElem?_eq_some_iff.1 hu).1
  rw [hK] at hj
  have hi := (List.getElem?_eq_some_iff.1 hx).1
  have : (i + 1) * K ≤ xs.length * K := Nat.mul_le_mul_right _ hi
  rw [Nat.add_mul] at this
  rw [Nat.zero_add, World.ownsRow.cellAt h _ (by omega), flatS_at hK xs i x j hx hj]
  exact hu
/-- What a load from or a store into element i wants to know. -/
theorem OwnS.cell {g n cap : Nat} (h : OwnS c K e w B (.slice (some ⟨g, 0, none⟩) n cap) xs) (hK : ∀ x, (c x).length = K) {i j : Nat} {x : α} {u : Value} (hx : xs[i]? = some x) (hu : (c x)[j]? = some u) : w.cell? ⟨g, i * K + j, none⟩ = some u ∧ w.frozen? ⟨g, i * K + j, none⟩ = false := by
  obtain rfl := h.len
  have hj := (List.getElem?_eq_some_iff.1 hu).1
  rw [hK] at hj
  have hi := (List.getElem?_eq_some_iff.1 hx).1
  have : (i + 1) * K ≤ xs.length * K := Nat.mul_le_mul_right _ hi
  rw [Nat.add_mul] at this
  exact ⟨by rw [World.ownsRow.cellAt h _ (by omega), flatS_at hK xs i x j hx hj]; exact hu, World.ownsRow.frozenAt h _⟩
theorem OwnS.nil (w : World) (B : Nat) : OwnS c K e w B (.slice none 0 0) ([] : List α) := World.ownsRow_nil w _ _ _
theorem OwnS.lit (w : World) (B : Nat) (hB : B ≤ w.heap.size) : OwnS c K e (w.alloc (.cells #[] e)) B (.slice (some ⟨w.heap.size, 0, none⟩) 0 0) ([] : List α) := World.ownsRow_lit w #[] 0 hB (Nat.zero_le _) (by simp)
/-- An element stored whole. -/
theorem OwnS.store {g n cap : Nat} (h : OwnS c K e w B (.slice (some ⟨g, 0, none⟩) n cap) xs) (hK : ∀ x, (c x).length = K) {i : Nat} (hi : i < n) (y : α) :
    OwnS c K e (wsets w g (i * K) (c y)) B (.slice (some ⟨g, 0, none⟩) n cap) (xs.set i y) ∧ w.grownBy (wsets w g (i * K) (c y)) (some g) := by
  obtain rfl := h.len
  have := owns_sets (c y) w _ (i * K) h
  refine ⟨?_, this.2⟩
  unfold OwnS
  rw [flatS_sets hK xs i y hi, List.length_set]
  exact this.1
/-- A field stored. -/
theorem OwnS.set1 {g n cap : Nat} (h : OwnS c K e w B (.slice (some ⟨g, 0, none⟩) n cap) xs) (hK : ∀ x, (c x).length = K) {i j : Nat} {x y : α} {u : Value} (hx : xs[i]? = some x) (hj : j < K) (hy : c y = (c x).set j u) :
    OwnS c K e (w.setCell ⟨g, i * K + j, none⟩ u) B (.slice (some ⟨g, 0, none⟩) n cap) (xs.set i y) ∧ w.grownBy (w.setCell ⟨g, i * K + j, none⟩ u) (some g) := by
  obtain rfl := h.len
  have := World.ownsRow.stored h (i * K + j) u
  refine ⟨?_, this.2⟩
  unfold OwnS
  rw [flatS_set1 hK xs i x y j u hx hj hy, List.length_set]
  exact this.1
end Ow
theorem made_flatS {α : Type} (c : α → List Value) (z : α) (Z : Array Value) (hz : Z.toList = c z) (h0 : 0 < Z.size) (n : Nat) : (madeCells Z (n * Z.size)).toList = flatS c (List.replicate n z) := by
  have hK : ∀ x ∈ [z], (c x).length = Z.size := by intro x hx; simp at hx; subst hx; rw [← hz]; simp
  have flat_at : ∀ (n i j : Nat), i < n → j < Z.size → (flatS c (List.replicate n z))[i * Z.size + j]? = (c z)[j]? := by
    intro n
    induction n with
    | zero => intro i j hi; omega
    | succ n ih =>
      intro i j hi hj
      rw [List.replicate_succ, flatS_cons]
      cases i with
      | zero => rw [List.getElem?_append_left (by rw [hK z (by simp)]; omega)]; congr 1; omega
      | succ i =>
        rw [List.getElem?_append_right (by rw [hK z (by simp), Nat.add_mul]; omega), hK z (by simp), show (i + 1) * Z.size + j - Z.size = i * Z.size + j by rw [Nat.add_mul]; omega]
        exact ih i j (by omega) hj
  have hlen : ∀ n, (flatS c (List.replicate n z)).length = n * Z.size := by
    intro n
    induction n with
    | zero => simp [flatS]
    | succ n ih => rw [List.replicate_succ, flatS_cons, List.length_append, ih, hK z (by simp), Nat.add_mul]; omega
  apply List.ext_getElem?
  intro m
  by_cases hm : m < n * Z.size
  · have e1 : m = m / Z.size * Z.size + m % Z.size := by rw [Nat.mul_comm]; exact (Nat.div_add_mod m Z.size).symm
    have hq : m / Z.size < n := (Nat.div_lt_iff_lt_mul h0).2 hm
    have hr : m % Z.size < Z.size := Nat.mod_lt _ h0
    have e2 := flat_at n (m / Z.size) (m % Z.size) hq hr
    rw [← e1] at e2
    rw [e2, ← hz]
    simp [madeCells, hm, hr]
  · rw [List.getElem?_eq_none (by rw [Array.length_toList, size_madeCells]; omega), List.getElem?_eq_none (by rw [hlen]; omega)]
theorem OwnS.made {α : Type} {c : α → List Value} {K : Nat} (w : World) (e : TypeId) (B n : Nat) (z : α) (Z : Array Value) (hz : Z.toList = c z) (hZ : Z.size = K) (h0 : 0 < K) (hB : B ≤ w.heap.size) (hn : n ≤ maxLen) : OwnS c K e (w.alloc (.cells (madeCells Z (n * K)) e)) B (.slice (some ⟨w.heap.size, 0, none⟩) n n) (List.replicate n z) := by
  subst hZ
  have := owns_made w e B n Z.size Z hB hn
  unfold OwnS
  rw [made_flatS c z Z hz h0 n] at this
  rwa [List.length_replicate]
theorem takeS_set {α : Type} {L zs : List α} {k : Nat} {x : α} (hl : L.length = zs.length) (hx : zs[k]? = some x) (h : L.take k = zs.take k) : (L.set k x).take (k + 1) = zs.take (k + 1) := by
  have hk := (List.getElem?_eq_some_iff.1 hx).1
  have e1 : (L.set k x).take (k + 1) = (L.set k x).take k ++ [x] := by rw [List.take_add_one, List.getElem?_set_self (by omega)]; rfl
  have e2 : zs.take (k + 1) = zs.take k ++ [x] := by rw [List.take_add_one, hx]; rfl
  rw [e1, e2, List.take_set_of_le (Nat.le_refl _), h]
theorem takeS_next {α : Type} {zs : List α} {k : Nat} {x : α} (hx : zs[k]? = some x) : zs.take (k + 1) = zs.take k ++ [x] := by rw [List.take_add_one, hx]; rfl
/-- The cells of a row that is read, one behind the other. -/
theorem flat_rw {α : Type} {c : α → List Value} {ok : α → Prop} {K : Nat} {w : World} {b off : Nat} {xs : List α} (h : Rw (FR c ok) K w (some ⟨b, off, none⟩) xs) (hK : ∀ x, (c x).length = K) (h0 : 0 < K) : ∀ j u, (flatS c xs)[j]? = some u → w.cell? ⟨b, off + j, none⟩ = some u := by
  intro j u hu
  have hj := (List.getElem?_eq_some_iff.1 hu).1
  rw [flatS_len hK] at hj
  have e1 : j = j / K * K + j % K := by rw [Nat.mul_comm]; exact (Nat.div_add_mod j K).symm
  have hq : j / K < xs.length := (Nat.div_lt_iff_lt_mul h0).2 hj
  have hr : j % K < K := Nat.mod_lt _ h0
  obtain ⟨b', off', e, hlt, hc⟩ := h (Nat.lt_of_le_of_lt (Nat.zero_le _) hq)
  cases e
  have hx : xs[j / K]? = some (xs[j / K]) := List.getElem?_eq_getElem hq
  obtain ⟨vs, h1, ⟨rfl, _⟩, h3⟩ := hc _ _ hx
  rw [e1, flatS_at hK xs _ _ _ hx hr] at hu
  have := h3 _ _ hu
  rw [Nat.add_assoc, ← e1] at this
  exact this
end Go.Proofs.YtlebblmlbhnppabGreat

namespace Go.Proofs.YtlebblmlbhnppabGreat
open Go.RowKit Go.PlainAid
set_option linter.unusedVariables false

structure FlowV where
  pr : Int
  mc : ByteArray
  si : Int
  sp : Int
  di : Int
  dp : Int
  st : Int
  un : Int
  ow : Int

instance : Inhabited FlowV := ⟨⟨0, ⟨#[]⟩, 0, 0, 0, 0, 0, 0, 0⟩⟩
def wvG (u : FlowV) : List Value := [.int .i64 u.pr, .string u.mc, .int .i64 u.si, .int .i64 u.sp, .int .i64 u.di, .int .i64 u.dp, .int .i64 u.st, .int .i64 u.un, .int .i64 u.ow]
def FlRok (u : FlowV) : Prop := (Lit.int .i64 u.pr).wf = true ∧ u.mc.size ≤ maxLen ∧ (Lit.int .i64 u.si).wf = true ∧ (Lit.int .i64 u.sp).wf = true ∧ (Lit.int .i64 u.di).wf = true ∧ (Lit.int .i64 u.dp).wf = true ∧ (Lit.int .i64 u.st).wf = true ∧ (Lit.int .i64 u.un).wf = true ∧ (Lit.int .i64 u.ow).wf = true
abbrev FlR := FR wvG FlRok
theorem wvG_len (u : FlowV) : (wvG u).length = 9 := rfl
theorem wsets9 (w : World) (g i : Nat) (v0 v1 v2 v3 v4 v5 v6 v7 v8 : Value) : wsets w g i [v0, v1, v2, v3, v4, v5, v6, v7, v8] = ((((((((w.setCell ⟨g, i, Option.none⟩ v0).setCell ⟨g, i + 1, Option.none⟩ v1).setCell ⟨g, i + 2, Option.none⟩ v2).setCell ⟨g, i + 3, Option.none⟩ v3).setCell ⟨g, i + 4, Option.none⟩ v4).setCell ⟨g, i + 5, Option.none⟩ v5).setCell ⟨g, i + 6, Option.none⟩ v6).setCell ⟨g, i + 7, Option.none⟩ v7).setCell ⟨g, i + 8, Option.none⟩ v8 := rfl
end Go.Proofs.YtlebblmlbhnppabGreat

namespace Go.Proofs.YtlebblmlbhnppabGreat
open Go.RowKit Go.PlainAid
set_option linter.unusedVariables false

section OpnF
variable {H : Type} {enc : TypeId × Value → H} {w : World} {base : Nat} {spare : Nat → Bool} {held : Bool} {fuel : Nat} {cs : List Value} {x : DataW H × List MemPlace}

theorem gis9 {α : Type} {cs : List α} (h : cs.length = 9) : ∃ c0 c1 c2 c3 c4 c5 c6 c7 c8, cs = [c0, c1, c2, c3, c4, c5, c6, c7, c8] := by
  match cs, h with
  | [c0, c1, c2, c3, c4, c5, c6, c7, c8], _ => exact ⟨c0, c1, c2, c3, c4, c5, c6, c7, c8, rfl⟩

theorem f9_Flow : Tryz.prog.cellsOf 95 = 9 := by kernel_rfl
theorem f9_int : Tryz.prog.cellsOf 3 = 1 := by kernel_rfl
theorem f9_string : Tryz.prog.cellsOf 9 = 1 := by kernel_rfl
theorem open_flow (h : DataW.trod enc Tryz.prog w base spare held fuel 95 cs = some x) : ∃ d, FlR w d cs := by
  obtain ⟨xs, m, _, _, hcl, hlen, hfld⟩ := DataW.trod_struct Tryz.underlying95 h
  rw [f9_Flow] at hcl
  obtain ⟨c0, c1, c2, c3, c4, c5, c6, c7, c8, rfl⟩ := gis9 hcl
  replace hlen : xs.length = 9 := hlen
  have e0 := hfld 0 _ rfl
  rw [List.getElem?_eq_getElem (by omega)] at e0
  obtain ⟨a0, q0, _, w0⟩ := DataW.trod_int Tryz.underlying3 e0
  simp [f9_int] at q0
  subst q0
  have e1 := hfld 1 _ rfl
  rw [List.getElem?_eq_getElem (by omega)] at e1
  obtain ⟨a1, q1, _, w1⟩ := DataW.trod_string Tryz.underlying9 e1
  simp [f9_string] at q1
  subst q1
  have e2 := hfld 2 _ rfl
  rw [List.getElem?_eq_getElem (by omega)] at e2
  obtain ⟨a2, q2, _, w2⟩ := DataW.trod_int Tryz.underlying3 e2
  simp [f9_int] at q2
  subst q2
  have e3 := hfld 3 _ rfl
  rw [List.getElem?_eq_getElem (by omega)] at e3
  obtain ⟨a3, q3, _, w3⟩ := DataW.trod_int Tryz.underlying3 e3
  simp [f9_int] at q3
  subst q3
  have e4 := hfld 4 _ rfl
  rw [List.getElem?_eq_getElem (by omega)] at e4
  obtain ⟨a4, q4, _, w4⟩ := DataW.trod_int Tryz.underlying3 e4
  simp [f9_int] at q4
  subst q4
  have e5 := hfld 5 _ rfl
  rw [List.getElem?_eq_getElem (by omega)] at e5
  obtain ⟨a5, q5, _, w5⟩ := DataW.trod_int Tryz.underlying3 e5
  simp [f9_int] at q5
  subst q5
  have e6 := hfld 6 _ rfl
  rw [List.getElem?_eq_getElem (by omega)] at e6
  obtain ⟨a6, q6, _, w6⟩ := DataW.trod_int Tryz.underlying3 e6
  simp [f9_int] at q6
  subst q6
  have e7 := hfld 7 _ rfl
  rw [List.getElem?_eq_getElem (by omega)] at e7
  obtain ⟨a7, q7, _, w7⟩ := DataW.trod_int Tryz.underlying3 e7
  simp [f9_int] at q7
  subst q7
  have e8 := hfld 8 _ rfl
  rw [List.getElem?_eq_getElem (by omega)] at e8
  obtain ⟨a8, q8, _, w8⟩ := DataW.trod_int Tryz.underlying3 e8
  simp [f9_int] at q8
  subst q8
  exact ⟨⟨a0, a1, a2, a3, a4, a5, a6, a7, a8⟩, rfl, w0, w1, w2, w3, w4, w5, w6, w7, w8⟩

theorem open_flows (h : DataW.trod enc Tryz.prog w base spare held fuel 34 cs = some x) : ∃ (a : Option Addr) (len cap : Nat) (xs : List FlowV), cs = [.slice a len cap] ∧ xs.length = len ∧ len ≤ cap ∧ cap ≤ maxLen ∧ (a = none → cap = 0) ∧ Rw FlR 9 w a xs :=
  rows_of FlR 9 Tryz.underlying34 f9_Flow (by omega) (fun _ _ _ h => open_flow h) h

end OpnF
end Go.Proofs.YtlebblmlbhnppabGreat

namespace Go.Proofs.YtlebblmlbhnppabGreat
open Go.RowKit Go.PlainAid
set_option linter.unusedVariables false

structure ConnV where
  mc : ByteArray
  ip : Int
  po : Int
  di : Int
  st : Int
  un : Int
  nx : Int
  wa : Int
  inn : ByteArray
  out : ByteArray
  fin : Bool

instance : Inhabited ConnV := ⟨⟨⟨#[]⟩, 0, 0, 0, 0, 0, 0, 0, ⟨#[]⟩, ⟨#[]⟩, false⟩⟩
def cnG (u : ConnV) : List Value := [.string u.mc, .int .i64 u.ip, .int .i64 u.po, .int .i64 u.di, .int .i64 u.st, .int .i64 u.un, .int .i64 u.nx, .int .i64 u.wa, .string u.inn, .string u.out, .bool u.fin]
def CnRok (u : ConnV) : Prop := u.mc.size ≤ maxLen ∧ (Lit.int .i64 u.ip).wf = true ∧ (Lit.int .i64 u.po).wf = true ∧ (Lit.int .i64 u.di).wf = true ∧ (Lit.int .i64 u.st).wf = true ∧ (Lit.int .i64 u.un).wf = true ∧ (Lit.int .i64 u.nx).wf = true ∧ (Lit.int .i64 u.wa).wf = true ∧ u.inn.size ≤ maxLen ∧ u.out.size ≤ maxLen
abbrev CnR := FR cnG CnRok
theorem cnG_len (u : ConnV) : (cnG u).length = 11 := rfl
structure SegV where
  sp : Int
  dp : Int
  sq : Int
  ac : Int
  fl : Int
  wi : Int
  da : ByteArray

instance : Inhabited SegV := ⟨⟨0, 0, 0, 0, 0, 0, ⟨#[]⟩⟩⟩
def sgG (u : SegV) : List Value := [.int .i64 u.sp, .int .i64 u.dp, .int .i64 u.sq, .int .i64 u.ac, .int .i64 u.fl, .int .i64 u.wi, .string u.da]
def SgRok (u : SegV) : Prop := (Lit.int .i64 u.sp).wf = true ∧ (Lit.int .i64 u.dp).wf = true ∧ (Lit.int .i64 u.sq).wf = true ∧ (Lit.int .i64 u.ac).wf = true ∧ (Lit.int .i64 u.fl).wf = true ∧ (Lit.int .i64 u.wi).wf = true ∧ u.da.size ≤ maxLen
abbrev SgR := FR sgG SgRok
theorem sgG_len (u : SegV) : (sgG u).length = 7 := rfl
end Go.Proofs.YtlebblmlbhnppabGreat

namespace Go.Proofs.YtlebblmlbhnppabGreat
open Go.RowKit Go.PlainAid
set_option linter.unusedVariables false

theorem wsets11 (w : World) (g i : Nat) (v0 v1 v2 v3 v4 v5 v6 v7 v8 v9 v10 : Value) : wsets w g i [v0, v1, v2, v3, v4, v5, v6, v7, v8, v9, v10] = ((((((((((w.setCell ⟨g, i, Option.none⟩ v0).setCell ⟨g, i + 1, Option.none⟩ v1).setCell ⟨g, i + 2, Option.none⟩ v2).setCell ⟨g, i + 3, Option.none⟩ v3).setCell ⟨g, i + 4, Option.none⟩ v4).setCell ⟨g, i + 5, Option.none⟩ v5).setCell ⟨g, i + 6, Option.none⟩ v6).setCell ⟨g, i + 7, Option.none⟩ v7).setCell ⟨g, i + 8, Option.none⟩ v8).setCell ⟨g, i + 9, Option.none⟩ v9).setCell ⟨g, i + 10, Option.none⟩ v10 := rfl
section OpnC
variable {H : Type} {enc : TypeId × Value → H} {w : World} {base : Nat} {spare : Nat → Bool} {held : Bool} {fuel : Nat} {cs : List Value} {x : DataW H × List MemPlace}

theorem gis11 {α : Type} {cs : List α} (h : cs.length = 11) : ∃ c0 c1 c2 c3 c4 c5 c6 c7 c8 c9 c10, cs = [c0, c1, c2, c3, c4, c5, c6, c7, c8, c9, c10] := by
  match cs, h with
  | [c0, c1, c2, c3, c4, c5, c6, c7, c8, c9, c10], _ => exact ⟨c0, c1, c2, c3, c4, c5, c6, c7, c8, c9, c10, rfl⟩

theorem c11_Conn : Tryz.prog.cellsOf 98 = 11 := by kernel_rfl
theorem c11_int : Tryz.prog.cellsOf 3 = 1 := by kernel_rfl
theorem c11_string : Tryz.prog.cellsOf 9 = 1 := by kernel_rfl
theorem c11_bool : Tryz.prog.cellsOf 4 = 1 := by kernel_rfl
theorem open_conn (h : DataW.trod enc Tryz.prog w base spare held fuel 98 cs = some x) : ∃ d, CnR w d cs := by
  obtain ⟨xs, m, _, _, hcl, hlen, hfld⟩ := DataW.trod_struct Tryz.underlying98 h
  rw [c11_Conn] at hcl
  obtain ⟨c0, c1, c2, c3, c4, c5, c6, c7, c8, c9, c10, rfl⟩ := gis11 hcl
  replace hlen : xs.length = 11 := hlen
  have e0 := hfld 0 _ rfl
  rw [List.getElem?_eq_getElem (by omega)] at e0
  obtain ⟨a0, q0, _, w0⟩ := DataW.trod_string Tryz.underlying9 e0
  simp [c11_string] at q0
  subst q0
  have e1 := hfld 1 _ rfl
  rw [List.getElem?_eq_getElem (by omega)] at e1
  obtain ⟨a1, q1, _, w1⟩ := DataW.trod_int Tryz.underlying3 e1
  simp [c11_int] at q1
  subst q1
  have e2 := hfld 2 _ rfl
  rw [List.getElem?_eq_getElem (by omega)] at e2
  obtain ⟨a2, q2, _, w2⟩ := DataW.trod_int Tryz.underlying3 e2
  simp [c11_int] at q2
  subst q2
  have e3 := hfld 3 _ rfl
  rw [List.getElem?_eq_getElem (by omega)] at e3
  obtain ⟨a3, q3, _, w3⟩ := DataW.trod_int Tryz.underlying3 e3
  simp [c11_int] at q3
  subst q3
  have e4 := hfld 4 _ rfl
  rw [List.getElem?_eq_getElem (by omega)] at e4
  obtain ⟨a4, q4, _, w4⟩ := DataW.trod_int Tryz.underlying3 e4
  simp [c11_int] at q4
  subst q4
  have e5 := hfld 5 _ rfl
  rw [List.getElem?_eq_getElem (by omega)] at e5
  obtain ⟨a5, q5, _, w5⟩ := DataW.trod_int Tryz.underlying3 e5
  simp [c11_int] at q5
  subst q5
  have e6 := hfld 6 _ rfl
  rw [List.getElem?_eq_getElem (by omega)] at e6
  obtain ⟨a6, q6, _, w6⟩ := DataW.trod_int Tryz.underlying3 e6
  simp [c11_int] at q6
  subst q6
  have e7 := hfld 7 _ rfl
  rw [List.getElem?_eq_getElem (by omega)] at e7
  obtain ⟨a7, q7, _, w7⟩ := DataW.trod_int Tryz.underlying3 e7
  simp [c11_int] at q7
  subst q7
  have e8 := hfld 8 _ rfl
  rw [List.getElem?_eq_getElem (by omega)] at e8
  obtain ⟨a8, q8, _, w8⟩ := DataW.trod_string Tryz.underlying9 e8
  simp [c11_string] at q8
  subst q8
  have e9 := hfld 9 _ rfl
  rw [List.getElem?_eq_getElem (by omega)] at e9
  obtain ⟨a9, q9, _, w9⟩ := DataW.trod_string Tryz.underlying9 e9
  simp [c11_string] at q9
  subst q9
  have e10 := hfld 10 _ rfl
  rw [List.getElem?_eq_getElem (by omega)] at e10
  obtain ⟨a10, q10, _⟩ := DataW.trod_bool Tryz.underlying4 e10
  simp [c11_bool] at q10
  subst q10
  exact ⟨⟨a0, a1, a2, a3, a4, a5, a6, a7, a8, a9, a10⟩, rfl, w0, w1, w2, w3, w4, w5, w6, w7, w8, w9⟩

theorem open_conns (h : DataW.trod enc Tryz.prog w base spare held fuel 35 cs = some x) : ∃ (a : Option Addr) (len cap : Nat) (xs : List ConnV), cs = [.slice a len cap] ∧ xs.length = len ∧ len ≤ cap ∧ cap ≤ maxLen ∧ (a = none → cap = 0) ∧ Rw CnR 11 w a xs :=
  rows_of CnR 11 Tryz.underlying35 c11_Conn (by omega) (fun _ _ _ h => open_conn h) h

end OpnC
end Go.Proofs.YtlebblmlbhnppabGreat

namespace Go.Proofs.YtlebblmlbhnppabGreat
open Go.RowKit Go.PlainAid
set_option linter.unusedVariables false

structure GtV where
  ip : Int
  b : Int
  gt : Int
  gm : ByteArray
  wm : ByteArray
  rs : Int
  ps : List PlaceV
  ros : List RoleV
  us : List UserV
  ss : List SessV
  fs : List FailV
  es : List RecV
  nx : Int
  fl : List FlowV
  co : List ConnV
  nw : Int
  dr : Int
  sn : Int
/-- Where the lists of a gateway lie. -/
structure GtA where
  (x y ua sa fa ra la ca : Option Addr)
  (xc yc uc sc fc rc lc cc : Nat)
def gtC (A : GtA) (g : GtV) : List Value := [.int .i64 g.ip, .int .i64 g.b, .int .i64 g.gt, .string g.gm, .string g.wm, .int .i64 g.rs, .slice A.x g.ps.length A.xc, .slice A.y g.ros.length A.yc, .slice A.ua g.us.length A.uc, .slice A.sa g.ss.length A.sc, .slice A.fa g.fs.length A.fc, .slice A.ra g.es.length A.rc, .int .i64 g.nx, .slice A.la g.fl.length A.lc, .slice A.ca g.co.length A.cc, .int .i64 g.nw, .int .i64 g.dr, .int .i64 g.sn]
structure GtR (w : World) (A : GtA) (g : GtV) : Prop where
  ps : Rw PlR 4 w A.x g.ps
  ros : Rw (RoR 0) 5 w A.y g.ros
  us : Rw UsR 6 w A.ua g.us
  ss : Rw SeR 10 w A.sa g.ss
  fs : Rw FaR 3 w A.fa g.fs
  es : Rw ReR 5 w A.ra g.es
  fl : Rw FlR 9 w A.la g.fl
  co : Rw CnR 11 w A.ca g.co
  kl : g.fl.length ≤ A.lc
  kc : g.co.length ≤ A.cc
theorem GtR.below {w w' : World} {A : GtA} {g : GtV} (h : GtR w A g) (hb : Below w.heap.size w w') : GtR w' A g := ⟨h.ps.keep PlR.kp hb, h.ros.keep (RoR.kp 0) hb, h.us.keep UsR.kp hb, h.ss.keep SeR.kp hb, h.fs.keep FaR.kp hb, h.es.keep ReR.kp hb, h.fl.keep FR.kp hb, h.co.keep FR.kp hb, h.kl, h.kc⟩
structure GtB (A : GtA) (g : GtV) : Prop where
  gm : g.gm.size ≤ maxLen
  wm : g.wm.size ≤ maxLen
  ps : g.ps.length ≤ A.xc ∧ A.xc ≤ maxLen
  ros : g.ros.length ≤ A.yc ∧ A.yc ≤ maxLen
  us : g.us.length ≤ A.uc ∧ A.uc ≤ maxLen
  ss : g.ss.length ≤ A.sc ∧ A.sc ≤ maxLen
  fs : g.fs.length ≤ A.fc ∧ A.fc ≤ maxLen
  es : g.es.length ≤ A.rc ∧ A.rc ≤ maxLen
  fl : g.fl.length ≤ A.lc ∧ A.lc ≤ maxLen
  co : g.co.length ≤ A.cc ∧ A.cc ≤ maxLen
  nx : (Lit.int .i64 g.nx).wf = true
  nw : (Lit.int .i64 g.nw).wf = true
  dr : (Lit.int .i64 g.dr).wf = true
  sn : (Lit.int .i64 g.sn).wf = true
section OpnT
variable {H : Type} {enc : TypeId × Value → H} {w : World} {base : Nat} {spare : Nat → Bool} {held : Bool} {fuel : Nat} {cs : List Value} {x : DataW H × List MemPlace}

theorem gis18 {α : Type} {cs : List α} (h : cs.length = 18) : ∃ c0 c1 c2 c3 c4 c5 c6 c7 c8 c9 c10 c11 c12 c13 c14 c15 c16 c17, cs = [c0, c1, c2, c3, c4, c5, c6, c7, c8, c9, c10, c11, c12, c13, c14, c15, c16, c17] := by
  match cs, h with
  | [c0, c1, c2, c3, c4, c5, c6, c7, c8, c9, c10, c11, c12, c13, c14, c15, c16, c17], _ => exact ⟨c0, c1, c2, c3, c4, c5, c6, c7, c8, c9, c10, c11, c12, c13, c14, c15, c16, c17, rfl⟩

theorem t18_Gateway : Tryz.prog.cellsOf 37 = 18 := by kernel_rfl
theorem t18_Config : Tryz.prog.cellsOf 27 = 8 := by kernel_rfl
theorem t18_Guests : Tryz.prog.cellsOf 33 = 5 := by kernel_rfl
theorem t18_Flows : Tryz.prog.cellsOf 34 = 1 := by kernel_rfl
theorem t18_Conns : Tryz.prog.cellsOf 35 = 1 := by kernel_rfl
theorem t18_int : Tryz.prog.cellsOf 3 = 1 := by kernel_rfl
theorem open_gateway (h : DataW.trod enc Tryz.prog w base spare held fuel 37 cs = some x) : ∃ (A : GtA) (g : GtV), cs = gtC A g ∧ GtR w A g ∧ GtB A g := by
  obtain ⟨xs, m, _, _, hcl, hlen, hfld⟩ := DataW.trod_struct Tryz.underlying37 h
  rw [t18_Gateway] at hcl
  obtain ⟨c0, c1, c2, c3, c4, c5, c6, c7, c8, c9, c10, c11, c12, c13, c14, c15, c16, c17, rfl⟩ := gis18 hcl
  replace hlen : xs.length = 7 := hlen
  have e0 := hfld 0 _ rfl
  rw [List.getElem?_eq_getElem (by omega)] at e0
  obtain ⟨ip, b, gt, gm, wm, rs, x, y, lx, xc, ly, yc, ps, ros, q0, wg, ww, ⟨l1, lc1, cm1, r1⟩, l2, lc2, cm2, r2⟩ := open_config e0
  simp [t18_Config] at q0
  obtain ⟨rfl, rfl, rfl, rfl, rfl, rfl, rfl, rfl⟩ := q0
  have e1 := hfld 1 _ rfl
  rw [List.getElem?_eq_getElem (by omega)] at e1
  obtain ⟨ua, sa, fa, ra, ul, uc, sl, sc, fl, fc, rl, rc, us, ss, fs, es, nx, q1, ⟨l3, lc3, cm3, r3⟩, ⟨l4, lc4, cm4, r4⟩, ⟨l5, lc5, cm5, r5⟩, ⟨l6, lc6, cm6, r6⟩, wnx⟩ := open_guests e1
  simp [t18_Guests] at q1
  obtain ⟨rfl, rfl, rfl, rfl, rfl⟩ := q1
  have e2 := hfld 2 _ rfl
  rw [List.getElem?_eq_getElem (by omega)] at e2
  obtain ⟨la, ll, lc, fl2, q2, l7, lc7, cm7, _, r7⟩ := open_flows e2
  simp [t18_Flows] at q2
  subst q2
  have e3 := hfld 3 _ rfl
  rw [List.getElem?_eq_getElem (by omega)] at e3
  obtain ⟨ca, cl, cc, co, q3, l8, lc8, cm8, _, r8⟩ := open_conns e3
  simp [t18_Conns] at q3
  subst q3
  have e4 := hfld 4 _ rfl
  rw [List.getElem?_eq_getElem (by omega)] at e4
  obtain ⟨nw, q4, _, wnw⟩ := DataW.trod_int Tryz.underlying3 e4
  simp [t18_int] at q4
  subst q4
  have e5 := hfld 5 _ rfl
  rw [List.getElem?_eq_getElem (by omega)] at e5
  obtain ⟨dr, q5, _, wdr⟩ := DataW.trod_int Tryz.underlying3 e5
  simp [t18_int] at q5
  subst q5
  have e6 := hfld 6 _ rfl
  rw [List.getElem?_eq_getElem (by omega)] at e6
  obtain ⟨sn, q6, _, wsn⟩ := DataW.trod_int Tryz.underlying3 e6
  simp [t18_int] at q6
  subst q6
  subst l1 l2 l3 l4 l5 l6 l7 l8
  exact ⟨⟨x, y, ua, sa, fa, ra, la, ca, xc, yc, uc, sc, fc, rc, lc, cc⟩, ⟨ip, b, gt, gm, wm, rs, ps, ros, us, ss, fs, es, nx, fl2, co, nw, dr, sn⟩, rfl, ⟨r1, r2, r3, r4, r5, r6, r7, r8, lc7, lc8⟩, ⟨wg, ww, ⟨lc1, cm1⟩, ⟨lc2, cm2⟩, ⟨lc3, cm3⟩, ⟨lc4, cm4⟩, ⟨lc5, cm5⟩, ⟨lc6, cm6⟩, ⟨lc7, cm7⟩, ⟨lc8, cm8⟩, wnx, wnw, wdr, wsn⟩⟩

end OpnT
end Go.Proofs.YtlebblmlbhnppabGreat

namespace Go.Proofs.YtlebblmlbhnppabGreat
open Go.RowKit Go.PlainAid Go.Proofs.YtlebblmlbhnppabGreat.Bt Go.Sort
set_option linter.unusedVariables false
set_option maxRecDepth 20000
theorem toNet2 (f0 f1 : Int) (w : World) :
    Calls Tryz.prog 46 #[.agg #[.int .i64 f0, .int .i64 f1]] w fun e w' => e = .returned (.agg #[.int .i64 f0, .int .i64 f1]) ∧ Below w.heap.size w w' := by
  go_enter Tryz.func46, Tryz.ntmps46
  go_wp2
  (try simp only [Exit.inBlock, Exit.then])
  refine bodyPost_ret (v := .agg #[.int .i64 f0, .int .i64 f1]) (by simp [results, Tryz.results46, go_sem]; try rfl) rfl ?_
  exact ⟨rfl, ((((Grw.refl _).alloc _).alloc _).alloc _).below⟩
theorem eqNet2 (x0 x1 : Int) (w : World) :
    Calls Tryz.prog 63 #[.agg #[.int .i64 x0, .int .i64 x1], .agg #[.int .i64 x0, .int .i64 x1]] w fun e w' => e = .returned (.bool true) ∧ Grw w w' := by
  have h0 : (x0 != x0) = false := by simp
  have h1 : (x1 != x1) = false := by simp
  go_enter Tryz.func63, Tryz.ntmps63
  go_wp2
  go_ret
  exact ⟨rfl, ((Grw.refl _).alloc _).alloc _⟩

theorem toRange2 (f0 f1 : Int) (w : World) :
    Calls Tryz.prog 119 #[.agg #[.int .i64 f0, .int .i64 f1]] w fun e w' => e = .returned (.agg #[.int .i64 f0, .int .i64 f1]) ∧ Below w.heap.size w w' := by
  go_enter Tryz.func119, Tryz.ntmps119
  go_wp2
  (try simp only [Exit.inBlock, Exit.then])
  refine bodyPost_ret (v := .agg #[.int .i64 f0, .int .i64 f1]) (by simp [results, Tryz.results119, go_sem]; try rfl) rfl ?_
  exact ⟨rfl, ((((Grw.refl _).alloc _).alloc _).alloc _).below⟩
theorem eqRange2 (x0 x1 : Int) (w : World) :
    Calls Tryz.prog 142 #[.agg #[.int .i64 x0, .int .i64 x1], .agg #[.int .i64 x0, .int .i64 x1]] w fun e w' => e = .returned (.bool true) ∧ Grw w w' := by
  have h0 : (x0 != x0) = false := by simp
  have h1 : (x1 != x1) = false := by simp
  go_enter Tryz.func142, Tryz.ntmps142
  go_wp2
  go_ret
  exact ⟨rfl, ((Grw.refl _).alloc _).alloc _⟩

set_option maxHeartbeats 1000000 in
theorem toRule_any (p ip b lo hi : Int) (al : Bool) (w : World) :
    Calls Tryz.prog 147 #[.agg #[.int .i64 p, .int .i64 ip, .int .i64 b, .int .i64 lo, .int .i64 hi, .bool al]] w fun e w' => e = .returned (.agg #[.int .i64 p, .int .i64 ip, .int .i64 b, .int .i64 lo, .int .i64 hi, .bool al]) ∧ Below w.heap.size w w' := by
  have HA : Hid (∀ w, Calls Tryz.prog 46 #[.agg #[.int .i64 ip, .int .i64 b]] w fun e w' => e = .returned (.agg #[.int .i64 ip, .int .i64 b]) ∧ Below w.heap.size w w') := fun w => toNet2 ip b w
  have HB : Hid (∀ w, Calls Tryz.prog 119 #[.agg #[.int .i64 lo, .int .i64 hi]] w fun e w' => e = .returned (.agg #[.int .i64 lo, .int .i64 hi]) ∧ Below w.heap.size w w') := fun w => toRange2 lo hi w
  go_enter Tryz.func147, Tryz.ntmps147
  go_wp2_with fail
  refine (HA.out _).mono ?_
  rintro e wx1 ⟨rfl, bx⟩
  have c1_0_0 : wx1.cell? ⟨w.heap.size, 0, none⟩ = some (.int .i64 p) := bkeep bx (by simp [go_sem])
  have c1_0_1 : wx1.cell? ⟨w.heap.size, 1, none⟩ = some (.int .i64 ip) := bkeep bx (by simp [go_sem])
  have c1_0_2 : wx1.cell? ⟨w.heap.size, 2, none⟩ = some (.int .i64 b) := bkeep bx (by simp [go_sem])
  have c1_0_3 : wx1.cell? ⟨w.heap.size, 3, none⟩ = some (.int .i64 lo) := bkeep bx (by simp [go_sem])
  have c1_0_4 : wx1.cell? ⟨w.heap.size, 4, none⟩ = some (.int .i64 hi) := bkeep bx (by simp [go_sem])
  have c1_0_5 : wx1.cell? ⟨w.heap.size, 5, none⟩ = some (.bool al) := bkeep bx (by simp [go_sem])
  have c1_1_0 : wx1.cell? ⟨w.heap.size + 1, 0, none⟩ = some (.int .i64 0) := bkeep bx (by simp [go_sem])
  have f1_1_0 : wx1.frozen? ⟨w.heap.size + 1, 0, none⟩ = false := bthaw bx (v := .int .i64 0) (by simp [go_sem]) (by simp [go_sem])
  have c1_1_1 : wx1.cell? ⟨w.heap.size + 1, 1, none⟩ = some (.int .i64 0) := bkeep bx (by simp [go_sem])
  have f1_1_1 : wx1.frozen? ⟨w.heap.size + 1, 1, none⟩ = false := bthaw bx (v := .int .i64 0) (by simp [go_sem]) (by simp [go_sem])
  have c1_1_2 : wx1.cell? ⟨w.heap.size + 1, 2, none⟩ = some (.int .i64 0) := bkeep bx (by simp [go_sem])
  have f1_1_2 : wx1.frozen? ⟨w.heap.size + 1, 2, none⟩ = false := bthaw bx (v := .int .i64 0) (by simp [go_sem]) (by simp [go_sem])
  have c1_1_3 : wx1.cell? ⟨w.heap.size + 1, 3, none⟩ = some (.int .i64 0) := bkeep bx (by simp [go_sem])
  have f1_1_3 : wx1.frozen? ⟨w.heap.size + 1, 3, none⟩ = false := bthaw bx (v := .int .i64 0) (by simp [go_sem]) (by simp [go_sem])
  have c1_1_4 : wx1.cell? ⟨w.heap.size + 1, 4, none⟩ = some (.int .i64 0) := bkeep bx (by simp [go_sem])
  have f1_1_4 : wx1.frozen? ⟨w.heap.size + 1, 4, none⟩ = false := bthaw bx (v := .int .i64 0) (by simp [go_sem]) (by simp [go_sem])
  have c1_1_5 : wx1.cell? ⟨w.heap.size + 1, 5, none⟩ = some (.bool false) := bkeep bx (by simp [go_sem])
  have f1_1_5 : wx1.frozen? ⟨w.heap.size + 1, 5, none⟩ = false := bthaw bx (v := .bool false) (by simp [go_sem]) (by simp [go_sem])
  have c1_2_0 : wx1.cell? ⟨w.heap.size + 1 + 1, 0, none⟩ = some (.int .i64 p) := bkeep bx (by simp [go_sem])
  have f1_2_0 : wx1.frozen? ⟨w.heap.size + 1 + 1, 0, none⟩ = false := bthaw bx (v := .int .i64 p) (by simp [go_sem]) (by simp [go_sem])
  have c1_2_1 : wx1.cell? ⟨w.heap.size + 1 + 1, 1, none⟩ = some (.int .i64 0) := bkeep bx (by simp [go_sem])
  have f1_2_1 : wx1.frozen? ⟨w.heap.size + 1 + 1, 1, none⟩ = false := bthaw bx (v := .int .i64 0) (by simp [go_sem]) (by simp [go_sem])
  have c1_2_2 : wx1.cell? ⟨w.heap.size + 1 + 1, 2, none⟩ = some (.int .i64 0) := bkeep bx (by simp [go_sem])
  have f1_2_2 : wx1.frozen? ⟨w.heap.size + 1 + 1, 2, none⟩ = false := bthaw bx (v := .int .i64 0) (by simp [go_sem]) (by simp [go_sem])
  have c1_2_3 : wx1.cell? ⟨w.heap.size + 1 + 1, 3, none⟩ = some (.int .i64 0) := bkeep bx (by simp [go_sem])
  have f1_2_3 : wx1.frozen? ⟨w.heap.size + 1 + 1, 3, none⟩ = false := bthaw bx (v := .int .i64 0) (by simp [go_sem]) (by simp [go_sem])
  have c1_2_4 : wx1.cell? ⟨w.heap.size + 1 + 1, 4, none⟩ = some (.int .i64 0) := bkeep bx (by simp [go_sem])
  have f1_2_4 : wx1.frozen? ⟨w.heap.size + 1 + 1, 4, none⟩ = false := bthaw bx (v := .int .i64 0) (by simp [go_sem]) (by simp [go_sem])
  have c1_2_5 : wx1.cell? ⟨w.heap.size + 1 + 1, 5, none⟩ = some (.bool false) := bkeep bx (by simp [go_sem])
  have f1_2_5 : wx1.frozen? ⟨w.heap.size + 1 + 1, 5, none⟩ = false := bthaw bx (v := .bool false) (by simp [go_sem]) (by simp [go_sem])
  have BX1 : Hid (Below w.heap.size w wx1) := ((((Below.refl w.heap.size w).alloc (by simp <;> omega) _).alloc (by simp <;> omega) _).alloc (by simp <;> omega) _).trans (bx.mono (by simp <;> omega))
  clear bx
  go_wp2_with fail
  refine (HB.out _).mono ?_
  rintro e wx2 ⟨rfl, bx⟩
  have c2_0_0 : wx2.cell? ⟨w.heap.size, 0, none⟩ = some (.int .i64 p) := bkeep bx (by first | (simp [go_sem]; done) | simp [go_sem, c1_0_0])
  have c2_0_1 : wx2.cell? ⟨w.heap.size, 1, none⟩ = some (.int .i64 ip) := bkeep bx (by first | (simp [go_sem]; done) | simp [go_sem, c1_0_1])
  have c2_0_2 : wx2.cell? ⟨w.heap.size, 2, none⟩ = some (.int .i64 b) := bkeep bx (by first | (simp [go_sem]; done) | simp [go_sem, c1_0_2])
  have c2_0_3 : wx2.cell? ⟨w.heap.size, 3, none⟩ = some (.int .i64 lo) := bkeep bx (by first | (simp [go_sem]; done) | simp [go_sem, c1_0_3])
  have c2_0_4 : wx2.cell? ⟨w.heap.size, 4, none⟩ = some (.int .i64 hi) := bkeep bx (by first | (simp [go_sem]; done) | simp [go_sem, c1_0_4])
  have c2_0_5 : wx2.cell? ⟨w.heap.size, 5, none⟩ = some (.bool al) := bkeep bx (by first | (simp [go_sem]; done) | simp [go_sem, c1_0_5])
  have c2_1_0 : wx2.cell? ⟨w.heap.size + 1, 0, none⟩ = some (.int .i64 0) := bkeep bx (by first | (simp [go_sem]; done) | simp [go_sem, c1_1_0])
  have f2_1_0 : wx2.frozen? ⟨w.heap.size + 1, 0, none⟩ = false := bthaw bx (v := .int .i64 0) (by first | (simp [go_sem]; done) | simp [go_sem, c1_1_0]) (by first | (simp [go_sem]; done) | simp [go_sem, f1_1_0])
  have c2_1_1 : wx2.cell? ⟨w.heap.size + 1, 1, none⟩ = some (.int .i64 0) := bkeep bx (by first | (simp [go_sem]; done) | simp [go_sem, c1_1_1])
  have f2_1_1 : wx2.frozen? ⟨w.heap.size + 1, 1, none⟩ = false := bthaw bx (v := .int .i64 0) (by first | (simp [go_sem]; done) | simp [go_sem, c1_1_1]) (by first | (simp [go_sem]; done) | simp [go_sem, f1_1_1])
  have c2_1_2 : wx2.cell? ⟨w.heap.size + 1, 2, none⟩ = some (.int .i64 0) := bkeep bx (by first | (simp [go_sem]; done) | simp [go_sem, c1_1_2])
  have f2_1_2 : wx2.frozen? ⟨w.heap.size + 1, 2, none⟩ = false := bthaw bx (v := .int .i64 0) (by first | (simp [go_sem]; done) | simp [go_sem, c1_1_2]) (by first | (simp [go_sem]; done) | simp [go_sem, f1_1_2])
  have c2_1_3 : wx2.cell? ⟨w.heap.size + 1, 3, none⟩ = some (.int .i64 0) := bkeep bx (by first | (simp [go_sem]; done) | simp [go_sem, c1_1_3])
  have f2_1_3 : wx2.frozen? ⟨w.heap.size + 1, 3, none⟩ = false := bthaw bx (v := .int .i64 0) (by first | (simp [go_sem]; done) | simp [go_sem, c1_1_3]) (by first | (simp [go_sem]; done) | simp [go_sem, f1_1_3])
  have c2_1_4 : wx2.cell? ⟨w.heap.size + 1, 4, none⟩ = some (.int .i64 0) := bkeep bx (by first | (simp [go_sem]; done) | simp [go_sem, c1_1_4])
  have f2_1_4 : wx2.frozen? ⟨w.heap.size + 1, 4, none⟩ = false := bthaw bx (v := .int .i64 0) (by first | (simp [go_sem]; done) | simp [go_sem, c1_1_4]) (by first | (simp [go_sem]; done) | simp [go_sem, f1_1_4])
  have c2_1_5 : wx2.cell? ⟨w.heap.size + 1, 5, none⟩ = some (.bool false) := bkeep bx (by first | (simp [go_sem]; done) | simp [go_sem, c1_1_5])
  have f2_1_5 : wx2.frozen? ⟨w.heap.size + 1, 5, none⟩ = false := bthaw bx (v := .bool false) (by first | (simp [go_sem]; done) | simp [go_sem, c1_1_5]) (by first | (simp [go_sem]; done) | simp [go_sem, f1_1_5])
  have c2_2_0 : wx2.cell? ⟨w.heap.size + 1 + 1, 0, none⟩ = some (.int .i64 p) := bkeep bx (by first | (simp [go_sem]; done) | simp [go_sem, c1_2_0])
  have f2_2_0 : wx2.frozen? ⟨w.heap.size + 1 + 1, 0, none⟩ = false := bthaw bx (v := .int .i64 p) (by first | (simp [go_sem]; done) | simp [go_sem, c1_2_0]) (by first | (simp [go_sem]; done) | simp [go_sem, f1_2_0])
  have c2_2_1 : wx2.cell? ⟨w.heap.size + 1 + 1, 1, none⟩ = some (.int .i64 ip) := bkeep bx (by first | (simp [go_sem]; done) | simp [go_sem, c1_2_1])
  have f2_2_1 : wx2.frozen? ⟨w.heap.size + 1 + 1, 1, none⟩ = false := bthaw bx (v := .int .i64 ip) (by first | (simp [go_sem]; done) | simp [go_sem, c1_2_1]) (by first | (simp [go_sem]; done) | simp [go_sem, f1_2_1])
  have c2_2_2 : wx2.cell? ⟨w.heap.size + 1 + 1, 2, none⟩ = some (.int .i64 b) := bkeep bx (by first | (simp [go_sem]; done) | simp [go_sem, c1_2_2])
  have f2_2_2 : wx2.frozen? ⟨w.heap.size + 1 + 1, 2, none⟩ = false := bthaw bx (v := .int .i64 b) (by first | (simp [go_sem]; done) | simp [go_sem, c1_2_2]) (by first | (simp [go_sem]; done) | simp [go_sem, f1_2_2])
  have c2_2_3 : wx2.cell? ⟨w.heap.size + 1 + 1, 3, none⟩ = some (.int .i64 0) := bkeep bx (by first | (simp [go_sem]; done) | simp [go_sem, c1_2_3])
  have f2_2_3 : wx2.frozen? ⟨w.heap.size + 1 + 1, 3, none⟩ = false := bthaw bx (v := .int .i64 0) (by first | (simp [go_sem]; done) | simp [go_sem, c1_2_3]) (by first | (simp [go_sem]; done) | simp [go_sem, f1_2_3])
  have c2_2_4 : wx2.cell? ⟨w.heap.size + 1 + 1, 4, none⟩ = some (.int .i64 0) := bkeep bx (by first | (simp [go_sem]; done) | simp [go_sem, c1_2_4])
  have f2_2_4 : wx2.frozen? ⟨w.heap.size + 1 + 1, 4, none⟩ = false := bthaw bx (v := .int .i64 0) (by first | (simp [go_sem]; done) | simp [go_sem, c1_2_4]) (by first | (simp [go_sem]; done) | simp [go_sem, f1_2_4])
  have c2_2_5 : wx2.cell? ⟨w.heap.size + 1 + 1, 5, none⟩ = some (.bool false) := bkeep bx (by first | (simp [go_sem]; done) | simp [go_sem, c1_2_5])
  have f2_2_5 : wx2.frozen? ⟨w.heap.size + 1 + 1, 5, none⟩ = false := bthaw bx (v := .bool false) (by first | (simp [go_sem]; done) | simp [go_sem, c1_2_5]) (by first | (simp [go_sem]; done) | simp [go_sem, f1_2_5])
  have BX2 : Hid (Below w.heap.size w wx2) := ((BX1.out.setCell (p := ⟨w.heap.size + 1 + 1, _, _⟩) (by show w.heap.size ≤ w.heap.size + 1 + 1; omega) _).setCell (p := ⟨w.heap.size + 1 + 1, _, _⟩) (by show w.heap.size ≤ w.heap.size + 1 + 1; omega) _).trans (bx.mono (by have := BX1.out.size; simp <;> omega))
  clear bx c1_0_0 c1_0_1 c1_0_2 c1_0_3 c1_0_4 c1_0_5 c1_1_0 c1_1_1 c1_1_2 c1_1_3 c1_1_4 c1_1_5 c1_2_0 c1_2_1 c1_2_2 c1_2_3 c1_2_4 c1_2_5 f1_1_0 f1_1_1 f1_1_2 f1_1_3 f1_1_4 f1_1_5 f1_2_0 f1_2_1 f1_2_2 f1_2_3 f1_2_4 f1_2_5 BX1
  go_wp2
  (try simp only [Exit.inBlock, Exit.then])
  refine bodyPost_ret (v := .agg #[.int .i64 p, .int .i64 ip, .int .i64 b, .int .i64 lo, .int .i64 hi, .bool al]) (by simp [results, Tryz.results147, go_sem, c2_1_0, c2_1_1, c2_1_2, c2_1_3, c2_1_4, c2_1_5]; try rfl) rfl ?_
  exact ⟨rfl, (((((((((BX2.out.setCell (p := ⟨w.heap.size + 1 + 1, _, _⟩) (by show w.heap.size ≤ w.heap.size + 1 + 1; omega) _).setCell (p := ⟨w.heap.size + 1 + 1, _, _⟩) (by show w.heap.size ≤ w.heap.size + 1 + 1; omega) _).setCell (p := ⟨w.heap.size + 1 + 1, _, _⟩) (by show w.heap.size ≤ w.heap.size + 1 + 1; omega) _).setCell (p := ⟨w.heap.size + 1, _, _⟩) (by show w.heap.size ≤ w.heap.size + 1; omega) _).setCell (p := ⟨w.heap.size + 1, _, _⟩) (by show w.heap.size ≤ w.heap.size + 1; omega) _).setCell (p := ⟨w.heap.size + 1, _, _⟩) (by show w.heap.size ≤ w.heap.size + 1; omega) _).setCell (p := ⟨w.heap.size + 1, _, _⟩) (by show w.heap.size ≤ w.heap.size + 1; omega) _).setCell (p := ⟨w.heap.size + 1, _, _⟩) (by show w.heap.size ≤ w.heap.size + 1; omega) _).setCell (p := ⟨w.heap.size + 1, _, _⟩) (by show w.heap.size ≤ w.heap.size + 1; omega) _)⟩

set_option maxHeartbeats 1000000 in
theorem eqRule_any (p ip b lo hi : Int) (al : Bool) (w : World) :
    Calls Tryz.prog 170 #[.agg #[.int .i64 p, .int .i64 ip, .int .i64 b, .int .i64 lo, .int .i64 hi, .bool al], .agg #[.int .i64 p, .int .i64 ip, .int .i64 b, .int .i64 lo, .int .i64 hi, .bool al]] w fun e w' => e = .returned (.bool true) ∧ Grw w w' := by
  have HA : Hid (∀ w, Calls Tryz.prog 63 #[.agg #[.int .i64 ip, .int .i64 b], .agg #[.int .i64 ip, .int .i64 b]] w fun e w' => e = .returned (.bool true) ∧ Grw w w') := fun w => eqNet2 ip b w
  have HB : Hid (∀ w, Calls Tryz.prog 142 #[.agg #[.int .i64 lo, .int .i64 hi], .agg #[.int .i64 lo, .int .i64 hi]] w fun e w' => e = .returned (.bool true) ∧ Grw w w') := fun w => eqRange2 lo hi w
  have hp : (p != p) = false := by simp
  have ha : (al != al) = false := by simp
  go_enter Tryz.func170, Tryz.ntmps170
  go_wp2_with fail
  refine (HA.out _).mono ?_
  rintro e wx1 ⟨rfl, bx⟩
  have k0_0 : World.cell? _ ⟨w.heap.size, 0, none⟩ = some (.int .i64 p) := bx.keep (a := ⟨w.heap.size, 0, none⟩) (v := .int .i64 p) (by simp [go_sem])
  have k0_1 : World.cell? _ ⟨w.heap.size, 1, none⟩ = some (.int .i64 ip) := bx.keep (a := ⟨w.heap.size, 1, none⟩) (v := .int .i64 ip) (by simp [go_sem])
  have k0_2 : World.cell? _ ⟨w.heap.size, 2, none⟩ = some (.int .i64 b) := bx.keep (a := ⟨w.heap.size, 2, none⟩) (v := .int .i64 b) (by simp [go_sem])
  have k0_3 : World.cell? _ ⟨w.heap.size, 3, none⟩ = some (.int .i64 lo) := bx.keep (a := ⟨w.heap.size, 3, none⟩) (v := .int .i64 lo) (by simp [go_sem])
  have k0_4 : World.cell? _ ⟨w.heap.size, 4, none⟩ = some (.int .i64 hi) := bx.keep (a := ⟨w.heap.size, 4, none⟩) (v := .int .i64 hi) (by simp [go_sem])
  have k0_5 : World.cell? _ ⟨w.heap.size, 5, none⟩ = some (.bool al) := bx.keep (a := ⟨w.heap.size, 5, none⟩) (v := .bool al) (by simp [go_sem])
  have k1_0 : World.cell? _ ⟨w.heap.size + 1, 0, none⟩ = some (.int .i64 p) := bx.keep (a := ⟨w.heap.size + 1, 0, none⟩) (v := .int .i64 p) (by simp [go_sem])
  have k1_1 : World.cell? _ ⟨w.heap.size + 1, 1, none⟩ = some (.int .i64 ip) := bx.keep (a := ⟨w.heap.size + 1, 1, none⟩) (v := .int .i64 ip) (by simp [go_sem])
  have k1_2 : World.cell? _ ⟨w.heap.size + 1, 2, none⟩ = some (.int .i64 b) := bx.keep (a := ⟨w.heap.size + 1, 2, none⟩) (v := .int .i64 b) (by simp [go_sem])
  have k1_3 : World.cell? _ ⟨w.heap.size + 1, 3, none⟩ = some (.int .i64 lo) := bx.keep (a := ⟨w.heap.size + 1, 3, none⟩) (v := .int .i64 lo) (by simp [go_sem])
  have k1_4 : World.cell? _ ⟨w.heap.size + 1, 4, none⟩ = some (.int .i64 hi) := bx.keep (a := ⟨w.heap.size + 1, 4, none⟩) (v := .int .i64 hi) (by simp [go_sem])
  have k1_5 : World.cell? _ ⟨w.heap.size + 1, 5, none⟩ = some (.bool al) := bx.keep (a := ⟨w.heap.size + 1, 5, none⟩) (v := .bool al) (by simp [go_sem])
  have BX : Hid (Grw w _) := (((Grw.refl _).alloc _).alloc _).trans bx
  clear bx
  go_wp2_with fail
  refine (HB.out _).mono ?_
  rintro e wx2 ⟨rfl, bx⟩
  replace k0_0 := bx.keep k0_0
  replace k0_1 := bx.keep k0_1
  replace k0_2 := bx.keep k0_2
  replace k0_3 := bx.keep k0_3
  replace k0_4 := bx.keep k0_4
  replace k0_5 := bx.keep k0_5
  replace k1_0 := bx.keep k1_0
  replace k1_1 := bx.keep k1_1
  replace k1_2 := bx.keep k1_2
  replace k1_3 := bx.keep k1_3
  replace k1_4 := bx.keep k1_4
  replace k1_5 := bx.keep k1_5
  replace BX : Hid (Grw w _) := BX.out.trans bx
  clear bx
  go_wp2
  go_ret
  exact ⟨rfl, BX.out⟩

end Go.Proofs.YtlebblmlbhnppabGreat

namespace Go.Proofs.YtlebblmlbhnppabGreat
open Go.RowKit Go.PlainAid Go.Proofs.YtlebblmlbhnppabGreat.Bt Go.Sort
set_option linter.unusedVariables false
set_option maxRecDepth 20000

theorem szRuleS_any (a : Option Addr) (len cap : Nat) (l : Int) (w : World) (hl : len ≤ 9223372036854775807) (h0 : 0 ≤ l) (h1 : l ≤ 1048576) :
    Calls Tryz.prog 109 #[.slice a len cap, .int .i64 l] w fun e w' => ∃ r : Int, e = .returned (.int .i64 r) ∧ (0 ≤ r → r = l - len) ∧ -1 ≤ r ∧ r ≤ 1048576 ∧ w' = w := by
  by_cases h : (len : Int) ≤ l
  · go_enter Tryz.func109, Tryz.ntmps109
    go_wp2
    go_ret
    exact ⟨_, rfl, fun _ => by omega, by omega, by omega, rfl⟩
  · go_enter Tryz.func109, Tryz.ntmps109
    go_wp2
    go_ret
    exact ⟨-1, rfl, fun h => absurd h (by omega), by omega, by omega, rfl⟩
theorem infoRule : (Tryz.prog.info? 208).map (fun i => (i.zero, i.size, i.bytes)) = some (some (.agg #[.int .i64 0, .int .i64 0, .int .i64 0, .int .i64 0, .int .i64 0, .bool false]), 6, 48) := by kernel_rfl
set_option maxHeartbeats 2000000 in
theorem toRuleS_any (a : Option Addr) (len cap : Nat) (xs : List RuleV) (w : World) (h : Rw RuR 6 w a xs) (hl : xs.length = len) (hc : len ≤ 1048576) :
    Calls Tryz.prog 120 #[.slice a len cap] w fun e w' => e = .returned (.slice (some ⟨w.heap.size, 0, none⟩) len len) ∧ Rw RuR 6 w' (some ⟨w.heap.size, 0, none⟩) xs ∧ Below w.heap.size w w' := by
  have RW : Hid (Rw RuR 6 w a xs) := h
  clear h
  obtain ⟨i0, hi, hz0, hz1, hz2⟩ := info_parts infoRule
  have hmk := run_make (P := Tryz.prog) w 153 208 i0 (.agg #[.int .i64 0, .int .i64 0, .int .i64 0, .int .i64 0, .int .i64 0, .bool false]) Tryz.underlying153 hi hz0 .i64 .i64 len len (by omega) (Int.le_refl _) (by rw [hz2]; omega) (by omega)
  rw [hz1, Int.toNat_natCast] at hmk
  have HM : Hid ((w.alloc (.cells (madeCells #[.int .i64 0, .int .i64 0, .int .i64 0, .int .i64 0, .int .i64 0, .bool false] (len * 6)) 208)).ownsRow w.heap.size 208 6 (.slice (some ⟨w.heap.size, 0, none⟩) len len) len (madeCells #[.int .i64 0, .int .i64 0, .int .i64 0, .int .i64 0, .int .i64 0, .bool false] (len * 6)).toList ∧ Below w.heap.size w (w.alloc (.cells (madeCells #[.int .i64 0, .int .i64 0, .int .i64 0, .int .i64 0, .int .i64 0, .bool false] (len * 6)) 208))) := ⟨owns_made w _ _ len 6 _ (Nat.le_refl _) (by unfold maxLen; omega), (Below.refl _ _).alloc (Nat.le_refl _) _⟩
  have hmk2 : (Instr.makeSlice 153 (.int .i64 (len : Int)) (.int .i64 (len : Int))).run Tryz.prog w = .ok (.slice (some ⟨w.heap.size, 0, none⟩) len len) (w.alloc (.cells (madeCells #[.int .i64 0, .int .i64 0, .int .i64 0, .int .i64 0, .int .i64 0, .bool false] (len * 6)) 208)) := hmk
  clear hmk hi hz0 hz1 hz2
  obtain ⟨W, hW⟩ : ∃ W, W = w.alloc (.cells (madeCells #[.int .i64 0, .int .i64 0, .int .i64 0, .int .i64 0, .int .i64 0, .bool false] (len * 6)) 208) := ⟨_, rfl⟩
  rw [← hW] at HM hmk2
  clear hW
  go_enter Tryz.func120, Tryz.ntmps120
  go_wp2
  go_loopw [4] (fun i wr => ∃ (k : Nat) (F : List Value), k ≤ len ∧ i = .int .i64 k ∧ Hid (wr.ownsRow w.heap.size 208 6 (.slice (some ⟨w.heap.size, 0, none⟩) len len) len F ∧ Cop RuR 6 wr F xs k ∧ Below w.heap.size w wr)) (fun i _ => len - (intOf i).toNat)
  case atStart => exact ⟨0, _, Nat.zero_le _, rfl, HM.out.1, Cop.zero, HM.out.2⟩
  case round =>
    obtain ⟨k, F, hk, rfl, X⟩ := hrel
    by_cases hlt : k < len
    · obtain ⟨x, hx⟩ := at_of hl hlt
      obtain ⟨b, off, vs, rfl, hb, hvl, hR, hc⟩ := RW.out.at RuR.kp X.out.2.2 hx
      obtain ⟨p, ip, bb, lo, hi, al⟩ := x
      obtain ⟨rfl, hlo, hhi⟩ := hR
      have q0 : wr.cell? ⟨b, off + k * 6, none⟩ = some (.int .i64 p) := hc 0 _ rfl
      have q1 : wr.cell? ⟨b, off + k * 6 + 1, none⟩ = some (.int .i64 ip) := hc 1 _ rfl
      have q2 : wr.cell? ⟨b, off + k * 6 + 2, none⟩ = some (.int .i64 bb) := hc 2 _ rfl
      have q3 : wr.cell? ⟨b, off + k * 6 + 3, none⟩ = some (.int .i64 lo) := hc 3 _ rfl
      have q4 : wr.cell? ⟨b, off + k * 6 + 4, none⟩ = some (.int .i64 hi) := hc 4 _ rfl
      have q5 : wr.cell? ⟨b, off + k * 6 + 5, none⟩ = some (.bool al) := hc 5 _ rfl
      have HT : Hid (∀ w, Calls Tryz.prog 147 #[.agg #[.int .i64 p, .int .i64 ip, .int .i64 bb, .int .i64 lo, .int .i64 hi, .bool al]] w fun e w' => e = .returned (.agg #[.int .i64 p, .int .i64 ip, .int .i64 bb, .int .i64 lo, .int .i64 hi, .bool al]) ∧ Below w.heap.size w w') := fun w => toRule_any _ _ _ _ _ _ w
      have hltz : (k : Int) < (len : Int) := by omega
      clear hc
      go_wp2_with fail
      refine (HT.out _).mono ?_
      rintro e w1 ⟨rfl, b1⟩
      have o1 := owns_now X.out.1 b1
      obtain ⟨⟨u0, c0⟩, z0⟩ := owns_cell o1 (j := 0) hlt (by omega)
      obtain ⟨⟨u1, c1⟩, z1⟩ := owns_cell o1 (j := 1) hlt (by omega)
      obtain ⟨⟨u2, c2⟩, z2⟩ := owns_cell o1 (j := 2) hlt (by omega)
      obtain ⟨⟨u3, c3⟩, z3⟩ := owns_cell o1 (j := 3) hlt (by omega)
      obtain ⟨⟨u4, c4⟩, z4⟩ := owns_cell o1 (j := 4) hlt (by omega)
      obtain ⟨⟨u5, c5⟩, z5⟩ := owns_cell o1 (j := 5) hlt (by omega)
      replace c0 : w1.cell? ⟨w.heap.size, k * 6, none⟩ = some u0 := c0
      replace z0 : w1.frozen? ⟨w.heap.size, k * 6, none⟩ = false := z0
      have Y0 : ∀ W1, W1 = (((((w1.setCell ⟨w.heap.size, k * 6, none⟩ (.int .i64 p)).setCell ⟨w.heap.size, k * 6 + 1, none⟩ (.int .i64 ip)).setCell ⟨w.heap.size, k * 6 + 2, none⟩ (.int .i64 bb)).setCell ⟨w.heap.size, k * 6 + 3, none⟩ (.int .i64 lo)).setCell ⟨w.heap.size, k * 6 + 4, none⟩ (.int .i64 hi)).setCell ⟨w.heap.size, k * 6 + 5, none⟩ (.bool al) → W1.ownsRow w.heap.size 208 6 (.slice (some ⟨w.heap.size, 0, none⟩) len len) len (sets F (k * 6) [.int .i64 p, .int .i64 ip, .int .i64 bb, .int .i64 lo, .int .i64 hi, .bool al]) ∧ Cop RuR 6 W1 (sets F (k * 6) [.int .i64 p, .int .i64 ip, .int .i64 bb, .int .i64 lo, .int .i64 hi, .bool al]) xs (k + 1) ∧ Below w.heap.size w W1 := by
        intro W1 hW1
        have h2 := owns_sets [.int .i64 p, .int .i64 ip, .int .i64 bb, .int .i64 lo, .int .i64 hi, .bool al] _ _ (k * 6) o1
        rw [wsets6, ← hW1] at h2
        have hF : k * 6 + 6 ≤ F.length := by
          rw [X.out.1.1]
          have : (k + 1) * 6 ≤ len * 6 := Nat.mul_le_mul_right _ hlt
          omega
        have c2 : Cop RuR 6 W1 F xs k := Cop.keep X.out.2.1 (fun x vs h => h)
        have c3 := Cop.step (vs := [.int .i64 p, .int .i64 ip, .int .i64 bb, .int .i64 lo, .int .i64 hi, .bool al]) c2 hx ⟨rfl, hlo, hhi⟩ rfl hF
        exact ⟨h2.1, c3, (X.out.2.2.trans (b1.mono X.out.2.2.size)).trans (below_row h2.2 (Nat.le_refl _) (Nat.le_trans X.out.2.2.size b1.size))⟩
      have Y : Hid (((((((w1.setCell ⟨w.heap.size, k * 6, none⟩ (.int .i64 p)).setCell ⟨w.heap.size, k * 6 + 1, none⟩ (.int .i64 ip)).setCell ⟨w.heap.size, k * 6 + 2, none⟩ (.int .i64 bb)).setCell ⟨w.heap.size, k * 6 + 3, none⟩ (.int .i64 lo)).setCell ⟨w.heap.size, k * 6 + 4, none⟩ (.int .i64 hi)).setCell ⟨w.heap.size, k * 6 + 5, none⟩ (.bool al)).ownsRow w.heap.size 208 6 (.slice (some ⟨w.heap.size, 0, none⟩) len len) len (sets F (k * 6) [.int .i64 p, .int .i64 ip, .int .i64 bb, .int .i64 lo, .int .i64 hi, .bool al]) ∧ Cop RuR 6 ((((((w1.setCell ⟨w.heap.size, k * 6, none⟩ (.int .i64 p)).setCell ⟨w.heap.size, k * 6 + 1, none⟩ (.int .i64 ip)).setCell ⟨w.heap.size, k * 6 + 2, none⟩ (.int .i64 bb)).setCell ⟨w.heap.size, k * 6 + 3, none⟩ (.int .i64 lo)).setCell ⟨w.heap.size, k * 6 + 4, none⟩ (.int .i64 hi)).setCell ⟨w.heap.size, k * 6 + 5, none⟩ (.bool al)) (sets F (k * 6) [.int .i64 p, .int .i64 ip, .int .i64 bb, .int .i64 lo, .int .i64 hi, .bool al]) xs (k + 1) ∧ Below w.heap.size w ((((((w1.setCell ⟨w.heap.size, k * 6, none⟩ (.int .i64 p)).setCell ⟨w.heap.size, k * 6 + 1, none⟩ (.int .i64 ip)).setCell ⟨w.heap.size, k * 6 + 2, none⟩ (.int .i64 bb)).setCell ⟨w.heap.size, k * 6 + 3, none⟩ (.int .i64 lo)).setCell ⟨w.heap.size, k * 6 + 4, none⟩ (.int .i64 hi)).setCell ⟨w.heap.size, k * 6 + 5, none⟩ (.bool al))) := Y0 _ rfl
      clear Y0
      clear o1 b1 q0 q1 q2 q3 q4 q5 HT X HM hmk2 hx
      go_wp2
      go_roundw
      case rel => exact ⟨k + 1, _, by omega, by go_num, Y⟩
      case measure => simp [intOf]; omega
    · obtain rfl : k = len := by omega
      go_wp2
      go_ret
      exact ⟨rfl, X.out.2.1.rw X.out.1 hl, X.out.2.2⟩
set_option maxHeartbeats 2000000 in
theorem eqRuleS_yes (a a' : Option Addr) (len cap cap' : Nat) (xs : List RuleV) (w : World) (h : Rw RuR 6 w a xs) (h' : Rw RuR 6 w a' xs) (hl : xs.length = len) (hlen : len ≤ 1048576) :
    Calls Tryz.prog 143 #[.slice a len cap, .slice a' len cap'] w fun e w' => e = .returned (.bool true) ∧ Grw w w' := by
  have hne : ((len : Int) != (len : Int)) = false := by simp
  have hmix : Tryz.prog.follows .mixedOrders = true := by kernel_rfl
  have RW : Hid (Rw RuR 6 w a xs) := h
  have RW' : Hid (Rw RuR 6 w a' xs) := h'
  clear h h'
  go_enter Tryz.func143, Tryz.ntmps143
  go_wp2
  go_loopw [5] (fun i wr => ∃ k : Nat, k ≤ len ∧ i = .int .i64 k ∧ Hid (Grw w wr)) (fun i _ => len - (intOf i).toNat)
  case atStart => exact ⟨0, Nat.zero_le _, rfl, Grw.refl w⟩
  case round =>
    obtain ⟨k, hk, rfl, HG⟩ := hrel
    by_cases hlt : k < len
    · obtain ⟨x, hx⟩ := at_of hl hlt
      obtain ⟨b, off, vs, rfl, hb, hvl, hR, hc⟩ := RW.out.at RuR.kp HG.out.below hx
      obtain ⟨b', off', vs', rfl, hb', hvl', hR', hc'⟩ := RW'.out.at RuR.kp HG.out.below hx
      obtain ⟨p, ip, bb, lo, hi, al⟩ := x
      obtain ⟨rfl, hlo, hhi⟩ := hR
      obtain ⟨rfl, -, -⟩ := hR'
      have q0 : ∀ n os, (grow (wr.drewN n) os).cell? ⟨b, off + k * 6, none⟩ = some (.int .i64 p) := fun n os => grown_cell hb HG.out (hc 0 _ rfl) n os
      have q1 : ∀ n os, (grow (wr.drewN n) os).cell? ⟨b, off + k * 6 + 1, none⟩ = some (.int .i64 ip) := fun n os => grown_cell hb HG.out (hc 1 _ rfl) n os
      have q2 : ∀ n os, (grow (wr.drewN n) os).cell? ⟨b, off + k * 6 + 2, none⟩ = some (.int .i64 bb) := fun n os => grown_cell hb HG.out (hc 2 _ rfl) n os
      have q3 : ∀ n os, (grow (wr.drewN n) os).cell? ⟨b, off + k * 6 + 3, none⟩ = some (.int .i64 lo) := fun n os => grown_cell hb HG.out (hc 3 _ rfl) n os
      have q4 : ∀ n os, (grow (wr.drewN n) os).cell? ⟨b, off + k * 6 + 4, none⟩ = some (.int .i64 hi) := fun n os => grown_cell hb HG.out (hc 4 _ rfl) n os
      have q5 : ∀ n os, (grow (wr.drewN n) os).cell? ⟨b, off + k * 6 + 5, none⟩ = some (.bool al) := fun n os => grown_cell hb HG.out (hc 5 _ rfl) n os
      have r0 : ∀ n os, (grow (wr.drewN n) os).cell? ⟨b', off' + k * 6, none⟩ = some (.int .i64 p) := fun n os => grown_cell hb' HG.out (hc' 0 _ rfl) n os
      have r1 : ∀ n os, (grow (wr.drewN n) os).cell? ⟨b', off' + k * 6 + 1, none⟩ = some (.int .i64 ip) := fun n os => grown_cell hb' HG.out (hc' 1 _ rfl) n os
      have r2 : ∀ n os, (grow (wr.drewN n) os).cell? ⟨b', off' + k * 6 + 2, none⟩ = some (.int .i64 bb) := fun n os => grown_cell hb' HG.out (hc' 2 _ rfl) n os
      have r3 : ∀ n os, (grow (wr.drewN n) os).cell? ⟨b', off' + k * 6 + 3, none⟩ = some (.int .i64 lo) := fun n os => grown_cell hb' HG.out (hc' 3 _ rfl) n os
      have r4 : ∀ n os, (grow (wr.drewN n) os).cell? ⟨b', off' + k * 6 + 4, none⟩ = some (.int .i64 hi) := fun n os => grown_cell hb' HG.out (hc' 4 _ rfl) n os
      have r5 : ∀ n os, (grow (wr.drewN n) os).cell? ⟨b', off' + k * 6 + 5, none⟩ = some (.bool al) := fun n os => grown_cell hb' HG.out (hc' 5 _ rfl) n os
      have HE : Hid (∀ w, Calls Tryz.prog 170 #[.agg #[.int .i64 p, .int .i64 ip, .int .i64 bb, .int .i64 lo, .int .i64 hi, .bool al], .agg #[.int .i64 p, .int .i64 ip, .int .i64 bb, .int .i64 lo, .int .i64 hi, .bool al]] w fun e w' => e = .returned (.bool true) ∧ Grw w w') := fun w => eqRule_any _ _ _ _ _ _ w
      have hltz : (k : Int) < (len : Int) := by omega
      clear hc hc'
      go_wp2_with fail
      refine wp_region_quiet_grown (by assumption) (by kernel_rfl) ?_
      repeat (go_big_quiet_step (first | fail | (go_at_call 170; exact Calls.grown_of (HE.out _))))
      refine wpQuiet_nil ?_
      intro _ hw'
      obtain ⟨⟨nq, osq⟩, hw''⟩ := hw'
      subst hw''
      have HG2 : Hid (Grw w (grow (wr.drewN nq) osq)) := HG.out.trans ⟨nq, osq, rfl⟩
      clear q0 q1 q2 q3 q4 q5 r0 r1 r2 r3 r4 r5 HG HE
      go_wp2
      go_roundw
      case rel => exact ⟨k + 1, by omega, by go_num, HG2⟩
      case measure => simp [intOf]; omega
    · obtain rfl : k = len := by omega
      go_wp2
      go_ret
      exact ⟨rfl, HG.out⟩

theorem rw_away {w : World} {a : Option Addr} {xs : List RuleV} (h : Rw RuR 6 w a xs) {p : Addr} (hp : ∀ b off, a = some ⟨b, off, none⟩ → b ≠ p.block) (v : Value) : Rw RuR 6 (w.setCell p v) a xs := by
  intro h0
  obtain ⟨b, off, rfl, hlt, hc⟩ := h h0
  refine ⟨b, off, rfl, by simpa using hlt, fun i x hx => ?_⟩
  obtain ⟨vs, h1, h2, h3⟩ := hc i x hx
  refine ⟨vs, h1, h2, fun j u hu => ?_⟩
  rw [World.cell?_of_block (w := w) (Below.heap_setCell w p v b (hp b off rfl))]
  exact h3 j u hu
set_option maxHeartbeats 1000000 in
theorem szRole_any (nm : ByteArray) (q m i : Int) (a : Option Addr) (len cap : Nat) (l : Int) (w : World) (hs : nm.size ≤ 9223372036854775807) (hl : len ≤ 9223372036854775807) (h0 : 0 ≤ l) (h1 : l ≤ 1048576) :
    Calls Tryz.prog 74 #[.agg #[.string nm, .slice a len cap, .int .i64 q, .int .i64 m, .int .i64 i], .int .i64 l] w fun e w' => ∃ r : Int, e = .returned (.int .i64 r) ∧ (0 ≤ r → r = l - nm.size - len) ∧ -1 ≤ r ∧ r ≤ 1048576 ∧ Grw w w' := by
  by_cases h : (nm.size : Int) ≤ l
  · have HC : Hid (∀ w, Calls Tryz.prog 109 #[.slice a len cap, .int .i64 (l - nm.size)] w fun e w' => ∃ r : Int, e = .returned (.int .i64 r) ∧ (0 ≤ r → r = l - nm.size - len) ∧ -1 ≤ r ∧ r ≤ 1048576 ∧ w' = w) := fun w => szRuleS_any a len cap _ w hl (by omega) (by omega)
    go_enter Tryz.func74, Tryz.ntmps74
    go_wp2_with fail
    refine (HC.out _).mono ?_
    rintro e w1 ⟨r, rfl, hr, hr1, hr2, rfl⟩
    by_cases hr0 : r < 0
    · go_wp2
      go_ret
      exact ⟨-1, rfl, fun h => absurd h (by omega), by omega, by omega, (Grw.refl _).alloc _⟩
    · go_wp2
      go_ret
      exact ⟨r, rfl, hr, by omega, by omega, (Grw.refl _).alloc _⟩
  · go_enter Tryz.func74, Tryz.ntmps74
    go_wp2
    go_ret
    exact ⟨-1, rfl, fun h => absurd h (by omega), by omega, by omega, (Grw.refl _).alloc _⟩

set_option maxHeartbeats 2000000 in
theorem toRole_any (nm : ByteArray) (rs : List RuleV) (q m i : Int) (a : Option Addr) (len cap : Nat) (w : World) (h : Rw RuR 6 w a rs) (hl : rs.length = len) (hc : len ≤ 1048576) :
    Calls Tryz.prog 86 #[.agg #[.string nm, .slice a len cap, .int .i64 q, .int .i64 m, .int .i64 i]] w fun e w' => ∃ a', e = .returned (.agg #[.string nm, .slice a' len len, .int .i64 q, .int .i64 m, .int .i64 i]) ∧ (∀ b off, a' = some ⟨b, off, none⟩ → w.heap.size ≤ b) ∧ Rw RuR 6 w' a' rs ∧ Below w.heap.size w w' := by
  have RW : Hid (Rw RuR 6 w a rs) := h
  have HA : Hid (∀ w, Rw RuR 6 w a rs → Calls Tryz.prog 120 #[.slice a len cap] w fun e w' => e = .returned (.slice (some ⟨w.heap.size, 0, none⟩) len len) ∧ Rw RuR 6 w' (some ⟨w.heap.size, 0, none⟩) rs ∧ Below w.heap.size w w') := fun w h => toRuleS_any a len cap rs w h hl hc
  clear h
  go_enter Tryz.func86, Tryz.ntmps86
  go_wp2_with fail
  refine (HA.out _ (RW.out.keep RuR.kp ((((Below.refl w.heap.size w).alloc (by simp <;> omega) _).alloc (by simp <;> omega) _).alloc (by simp <;> omega) _))).mono ?_
  rintro e wx1 ⟨rfl, hr, bx⟩
  have c1_0_0 : wx1.cell? ⟨w.heap.size, 0, none⟩ = some (.string nm) := bkeep bx (by simp [go_sem])
  have c1_0_1 : wx1.cell? ⟨w.heap.size, 1, none⟩ = some (.slice a len cap) := bkeep bx (by simp [go_sem])
  have c1_0_2 : wx1.cell? ⟨w.heap.size, 2, none⟩ = some (.int .i64 q) := bkeep bx (by simp [go_sem])
  have c1_0_3 : wx1.cell? ⟨w.heap.size, 3, none⟩ = some (.int .i64 m) := bkeep bx (by simp [go_sem])
  have c1_0_4 : wx1.cell? ⟨w.heap.size, 4, none⟩ = some (.int .i64 i) := bkeep bx (by simp [go_sem])
  have c1_1_0 : wx1.cell? ⟨w.heap.size + 1, 0, none⟩ = some (.string ⟨#[]⟩) := bkeep bx (by simp [go_sem])
  have f1_1_0 : wx1.frozen? ⟨w.heap.size + 1, 0, none⟩ = false := bthaw bx (v := .string ⟨#[]⟩) (by simp [go_sem]) (by simp [go_sem])
  have c1_1_1 : wx1.cell? ⟨w.heap.size + 1, 1, none⟩ = some (.slice none 0 0) := bkeep bx (by simp [go_sem])
  have f1_1_1 : wx1.frozen? ⟨w.heap.size + 1, 1, none⟩ = false := bthaw bx (v := .slice none 0 0) (by simp [go_sem]) (by simp [go_sem])
  have c1_1_2 : wx1.cell? ⟨w.heap.size + 1, 2, none⟩ = some (.int .i64 0) := bkeep bx (by simp [go_sem])
  have f1_1_2 : wx1.frozen? ⟨w.heap.size + 1, 2, none⟩ = false := bthaw bx (v := .int .i64 0) (by simp [go_sem]) (by simp [go_sem])
  have c1_1_3 : wx1.cell? ⟨w.heap.size + 1, 3, none⟩ = some (.int .i64 0) := bkeep bx (by simp [go_sem])
  have f1_1_3 : wx1.frozen? ⟨w.heap.size + 1, 3, none⟩ = false := bthaw bx (v := .int .i64 0) (by simp [go_sem]) (by simp [go_sem])
  have c1_1_4 : wx1.cell? ⟨w.heap.size + 1, 4, none⟩ = some (.int .i64 0) := bkeep bx (by simp [go_sem])
  have f1_1_4 : wx1.frozen? ⟨w.heap.size + 1, 4, none⟩ = false := bthaw bx (v := .int .i64 0) (by simp [go_sem]) (by simp [go_sem])
  have c1_2_0 : wx1.cell? ⟨w.heap.size + 1 + 1, 0, none⟩ = some (.string nm) := bkeep bx (by simp [go_sem])
  have f1_2_0 : wx1.frozen? ⟨w.heap.size + 1 + 1, 0, none⟩ = false := bthaw bx (v := .string nm) (by simp [go_sem]) (by simp [go_sem])
  have c1_2_1 : wx1.cell? ⟨w.heap.size + 1 + 1, 1, none⟩ = some (.slice none 0 0) := bkeep bx (by simp [go_sem])
  have f1_2_1 : wx1.frozen? ⟨w.heap.size + 1 + 1, 1, none⟩ = false := bthaw bx (v := .slice none 0 0) (by simp [go_sem]) (by simp [go_sem])
  have c1_2_2 : wx1.cell? ⟨w.heap.size + 1 + 1, 2, none⟩ = some (.int .i64 0) := bkeep bx (by simp [go_sem])
  have f1_2_2 : wx1.frozen? ⟨w.heap.size + 1 + 1, 2, none⟩ = false := bthaw bx (v := .int .i64 0) (by simp [go_sem]) (by simp [go_sem])
  have c1_2_3 : wx1.cell? ⟨w.heap.size + 1 + 1, 3, none⟩ = some (.int .i64 0) := bkeep bx (by simp [go_sem])
  have f1_2_3 : wx1.frozen? ⟨w.heap.size + 1 + 1, 3, none⟩ = false := bthaw bx (v := .int .i64 0) (by simp [go_sem]) (by simp [go_sem])
  have c1_2_4 : wx1.cell? ⟨w.heap.size + 1 + 1, 4, none⟩ = some (.int .i64 0) := bkeep bx (by simp [go_sem])
  have f1_2_4 : wx1.frozen? ⟨w.heap.size + 1 + 1, 4, none⟩ = false := bthaw bx (v := .int .i64 0) (by simp [go_sem]) (by simp [go_sem])
  have BX1 : Hid (Below w.heap.size w wx1) := ((((Below.refl w.heap.size w).alloc (by simp <;> omega) _).alloc (by simp <;> omega) _).alloc (by simp <;> omega) _).trans (bx.mono (by simp <;> omega))
  clear bx
  simp [go_sem] at hr
  have HR : Hid (Rw RuR 6 wx1 (some ⟨w.heap.size + 1 + 1 + 1, 0, none⟩) rs) := hr
  clear hr
  go_wp2
  (try simp only [Exit.inBlock, Exit.then])
  refine bodyPost_ret (v := .agg #[.string nm, .slice (some ⟨w.heap.size + 1 + 1 + 1, 0, none⟩) len len, .int .i64 q, .int .i64 m, .int .i64 i]) (by simp [results, Tryz.results86, go_sem, c1_1_0, c1_1_1, c1_1_2, c1_1_3, c1_1_4]; try rfl) rfl ?_
  refine ⟨_, rfl, (fun b off e => by cases e; omega), ?_, (((((((((BX1.out.setCell (p := ⟨w.heap.size + 1 + 1, _, _⟩) (by show w.heap.size ≤ w.heap.size + 1 + 1; omega) _).setCell (p := ⟨w.heap.size + 1 + 1, _, _⟩) (by show w.heap.size ≤ w.heap.size + 1 + 1; omega) _).setCell (p := ⟨w.heap.size + 1 + 1, _, _⟩) (by show w.heap.size ≤ w.heap.size + 1 + 1; omega) _).setCell (p := ⟨w.heap.size + 1 + 1, _, _⟩) (by show w.heap.size ≤ w.heap.size + 1 + 1; omega) _).setCell (p := ⟨w.heap.size + 1, _, _⟩) (by show w.heap.size ≤ w.heap.size + 1; omega) _).setCell (p := ⟨w.heap.size + 1, _, _⟩) (by show w.heap.size ≤ w.heap.size + 1; omega) _).setCell (p := ⟨w.heap.size + 1, _, _⟩) (by show w.heap.size ≤ w.heap.size + 1; omega) _).setCell (p := ⟨w.heap.size + 1, _, _⟩) (by show w.heap.size ≤ w.heap.size + 1; omega) _).setCell (p := ⟨w.heap.size + 1, _, _⟩) (by show w.heap.size ≤ w.heap.size + 1; omega) _)⟩
  
  repeat (refine rw_away ?_ (fun b off e => by cases e; simp <;> omega) _)
  exact HR.out

set_option maxHeartbeats 1000000 in
theorem eqRole_yes (nm : ByteArray) (rs : List RuleV) (q m i : Int) (a a' : Option Addr) (len cap cap' : Nat) (w : World) (h : Rw RuR 6 w a rs) (h' : Rw RuR 6 w a' rs) (hl : rs.length = len) (hc : len ≤ 1048576) :
    Calls Tryz.prog 104 #[.agg #[.string nm, .slice a len cap, .int .i64 q, .int .i64 m, .int .i64 i], .agg #[.string nm, .slice a' len cap', .int .i64 q, .int .i64 m, .int .i64 i]] w fun e w' => e = .returned (.bool true) ∧ Grw w w' := by
  have RW : Hid (Rw RuR 6 w a rs) := h
  have RW' : Hid (Rw RuR 6 w a' rs) := h'
  have HA : Hid (∀ w, Rw RuR 6 w a rs → Rw RuR 6 w a' rs → Calls Tryz.prog 143 #[.slice a len cap, .slice a' len cap'] w fun e w' => e = .returned (.bool true) ∧ Grw w w') := fun w h h' => eqRuleS_yes a a' len cap cap' rs w h h' hl hc
  clear h h'
  have h0 : (nm.toList == nm.toList) = true := by simp
  have h1 : (q != q) = false := by simp
  have h2 : (m != m) = false := by simp
  have h3 : (i != i) = false := by simp
  go_enter Tryz.func104, Tryz.ntmps104
  go_wp2_with fail
  refine (HA.out _ (RW.out.keep RuR.kp (((Grw.refl w).alloc _).alloc _).below) (RW'.out.keep RuR.kp (((Grw.refl w).alloc _).alloc _).below)).mono ?_
  rintro e wx1 ⟨rfl, bx⟩
  have k0_0 : World.cell? _ ⟨w.heap.size, 0, none⟩ = some (.string nm) := bx.keep (a := ⟨w.heap.size, 0, none⟩) (v := .string nm) (by simp [go_sem])
  have k0_1 : World.cell? _ ⟨w.heap.size, 1, none⟩ = some (.slice a len cap) := bx.keep (a := ⟨w.heap.size, 1, none⟩) (v := .slice a len cap) (by simp [go_sem])
  have k0_2 : World.cell? _ ⟨w.heap.size, 2, none⟩ = some (.int .i64 q) := bx.keep (a := ⟨w.heap.size, 2, none⟩) (v := .int .i64 q) (by simp [go_sem])
  have k0_3 : World.cell? _ ⟨w.heap.size, 3, none⟩ = some (.int .i64 m) := bx.keep (a := ⟨w.heap.size, 3, none⟩) (v := .int .i64 m) (by simp [go_sem])
  have k0_4 : World.cell? _ ⟨w.heap.size, 4, none⟩ = some (.int .i64 i) := bx.keep (a := ⟨w.heap.size, 4, none⟩) (v := .int .i64 i) (by simp [go_sem])
  have k1_0 : World.cell? _ ⟨w.heap.size + 1, 0, none⟩ = some (.string nm) := bx.keep (a := ⟨w.heap.size + 1, 0, none⟩) (v := .string nm) (by simp [go_sem])
  have k1_1 : World.cell? _ ⟨w.heap.size + 1, 1, none⟩ = some (.slice a' len cap') := bx.keep (a := ⟨w.heap.size + 1, 1, none⟩) (v := .slice a' len cap') (by simp [go_sem])
  have k1_2 : World.cell? _ ⟨w.heap.size + 1, 2, none⟩ = some (.int .i64 q) := bx.keep (a := ⟨w.heap.size + 1, 2, none⟩) (v := .int .i64 q) (by simp [go_sem])
  have k1_3 : World.cell? _ ⟨w.heap.size + 1, 3, none⟩ = some (.int .i64 m) := bx.keep (a := ⟨w.heap.size + 1, 3, none⟩) (v := .int .i64 m) (by simp [go_sem])
  have k1_4 : World.cell? _ ⟨w.heap.size + 1, 4, none⟩ = some (.int .i64 i) := bx.keep (a := ⟨w.heap.size + 1, 4, none⟩) (v := .int .i64 i) (by simp [go_sem])
  have BX : Hid (Grw w _) := (((Grw.refl _).alloc _).alloc _).trans bx
  clear bx
  go_wp2
  go_ret
  exact ⟨rfl, BX.out⟩

end Go.Proofs.YtlebblmlbhnppabGreat
