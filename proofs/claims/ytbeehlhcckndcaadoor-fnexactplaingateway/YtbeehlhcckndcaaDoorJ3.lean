/- MakeUser, the program's and the model's. Rows of one's own of flat structs, K cells an element. Nothing of the program is imported. Flows as values. Flows that come in as an argument, opened. Connections and segments as values. Connections that come in as an argument, opened. Gateways as values; one that comes in as an argument, opened. Rows of one's own of flat structs: the last fields of an element stored; a row joined. Nothing of the program is imported. A number's digits: the model's l00Digits at every number from 0 on. markText of the laws. Lists of places and rules marked and held. Boxes of any struct: a struct in a block, read and written whole. Nothing of the program is used. Rows of roles of one's own, each with rules of its own. Regions that draw their order, whatever they do, walked once: each operation has a fact of its own (a resource: a fact of values and of the blocks that it owns), is shown from the facts of those that it waits for, and may take a fact's blocks over. Nothing of the program is imported. Roles marked. Configurations marked. -/
import Derived.Test.YtbeehlhcckndcaaDoorJ1
import Derived.Test.YtbeehlhcckndcaaDoorJ2
import Derived.Laws.AppendOwnNone
import Derived.Test.YtbeehlhcckndcaaDoorProg
import Derived.Test.YtbeehlhcckndcaaDoorJ0
import Derived.Lib.ItoaNum
import Derived.Deep.RegionHeld3
import Derived.Deep.MidRow
import Derived.WalkKit
import Derived.Below
import Derived.Still
namespace Go.Proofs.YtbeehlhcckndcaaDoor
open Go.RowKit Go.PlainAid Go.Proofs.YtbeehlhcckndcaaDoor.Bt Go.Sort
set_option linter.unusedVariables false
set_option maxRecDepth 20000

set_option maxHeartbeats 1000000 in
theorem l08Make_any (nm wd ro : ByteArray) (bl lg : Int) (w : World) (h1 : nm.size ≤ 8) (h2 : wd.size ≤ 40) :
    Calls Tryd.prog 28 #[.string nm, .string wd, .string ro, .int .i64 bl, .int .i64 lg] w fun e w' => e = .returned (.agg #[.string nm, .string (⟨#[115, 97, 108, 116, 32]⟩ ++ nm), .string (passS (⟨#[115, 97, 108, 116, 32]⟩ ++ nm) wd 3), .string ro, .int .i64 bl, .int .i64 lg]) ∧ Below w.heap.size w w' := by
  obtain ⟨S, hS⟩ : ∃ S, S = ByteArray.mk #[115, 97, 108, 116, 32] ++ nm := ⟨_, rfl⟩
  have hs : S.size ≤ 13 := by rw [hS, ByteArray.size_append]; show 5 + nm.size ≤ 13; omega
  have HP : Hid (∀ w, Calls Tryd.prog 54 #[.string (⟨#[115, 97, 108, 116, 32]⟩ ++ nm), .string wd, .int .i64 3] w fun e w' => e = .returned (.string (passS (⟨#[115, 97, 108, 116, 32]⟩ ++ nm) wd 3)) ∧ Below w.heap.size w w') := fun w => by
    have := l04Pass_any S wd 3 w (by omega) h2 (by omega)
    rw [hS] at this
    exact this
  clear hS hs
  generalize passS (⟨#[115, 97, 108, 116, 32]⟩ ++ nm) wd 3 = P at HP ⊢
  go_enter Tryd.func28, Tryd.ntmps28
  go_wp2_with fail
  refine (HP.out _).mono ?_
  rintro e wx1 ⟨rfl, bx⟩
  have c1_0_0 : wx1.cell? ⟨w.heap.size, 0, none⟩ = some (.string ⟨#[]⟩) := bkeep bx (by simp [go_sem])
  have f1_0_0 : wx1.frozen? ⟨w.heap.size, 0, none⟩ = false := bthaw bx (v := .string ⟨#[]⟩) (by simp [go_sem]) (by simp [go_sem])
  have c1_0_1 : wx1.cell? ⟨w.heap.size, 1, none⟩ = some (.string ⟨#[]⟩) := bkeep bx (by simp [go_sem])
  have f1_0_1 : wx1.frozen? ⟨w.heap.size, 1, none⟩ = false := bthaw bx (v := .string ⟨#[]⟩) (by simp [go_sem]) (by simp [go_sem])
  have c1_0_2 : wx1.cell? ⟨w.heap.size, 2, none⟩ = some (.string ⟨#[]⟩) := bkeep bx (by simp [go_sem])
  have f1_0_2 : wx1.frozen? ⟨w.heap.size, 2, none⟩ = false := bthaw bx (v := .string ⟨#[]⟩) (by simp [go_sem]) (by simp [go_sem])
  have c1_0_3 : wx1.cell? ⟨w.heap.size, 3, none⟩ = some (.string ⟨#[]⟩) := bkeep bx (by simp [go_sem])
  have f1_0_3 : wx1.frozen? ⟨w.heap.size, 3, none⟩ = false := bthaw bx (v := .string ⟨#[]⟩) (by simp [go_sem]) (by simp [go_sem])
  have c1_0_4 : wx1.cell? ⟨w.heap.size, 4, none⟩ = some (.int .i64 0) := bkeep bx (by simp [go_sem])
  have f1_0_4 : wx1.frozen? ⟨w.heap.size, 4, none⟩ = false := bthaw bx (v := .int .i64 0) (by simp [go_sem]) (by simp [go_sem])
  have c1_0_5 : wx1.cell? ⟨w.heap.size, 5, none⟩ = some (.int .i64 0) := bkeep bx (by simp [go_sem])
  have f1_0_5 : wx1.frozen? ⟨w.heap.size, 5, none⟩ = false := bthaw bx (v := .int .i64 0) (by simp [go_sem]) (by simp [go_sem])
  have BX1 : Hid (Below w.heap.size w wx1) := ((Below.refl w.heap.size w).alloc (by simp <;> omega) _).trans (bx.mono (by simp <;> omega))
  clear bx
  go_wp2
  (try simp only [Exit.inBlock, Exit.then])
  refine bodyPost_ret (v := .agg #[.string nm, .string (⟨#[115, 97, 108, 116, 32]⟩ ++ nm), .string P, .string ro, .int .i64 bl, .int .i64 lg]) (by simp [results, Tryd.results28, go_sem, c1_0_0, c1_0_1, c1_0_2, c1_0_3, c1_0_4, c1_0_5]; try rfl) rfl ?_
  exact ⟨rfl, ((((((BX1.out.setCell (p := ⟨w.heap.size, _, _⟩) (by show w.heap.size ≤ w.heap.size; omega) _).setCell (p := ⟨w.heap.size, _, _⟩) (by show w.heap.size ≤ w.heap.size; omega) _).setCell (p := ⟨w.heap.size, _, _⟩) (by show w.heap.size ≤ w.heap.size; omega) _).setCell (p := ⟨w.heap.size, _, _⟩) (by show w.heap.size ≤ w.heap.size; omega) _).setCell (p := ⟨w.heap.size, _, _⟩) (by show w.heap.size ≤ w.heap.size; omega) _).setCell (p := ⟨w.heap.size, _, _⟩) (by show w.heap.size ≤ w.heap.size; omega) _)⟩

set_option maxHeartbeats 1000000 in
theorem implMake_yes (nm wd ro : ByteArray) (bl lg : Int) (w : World) (hK : KTab w) (hH : HTab w) (h1 : nm.size ≤ 65536) (h2 : wd.size ≤ 65536) (h3 : ro.size ≤ 65536) (h : (snB nm && (dec (wd.size ≤ 40) && (snB ro && (dec (0 ≤ bl ∧ bl ≤ 1000000) && dec (0 ≤ lg ∧ lg ≤ 1000))))) = true) :
    Calls Tryd.prog 12 #[.string nm, .string wd, .string ro, .int .i64 bl, .int .i64 lg] w fun e w' => e = .returned (.tuple #[.agg #[.string nm, .string (⟨#[115, 97, 108, 116, 32]⟩ ++ nm), .string (passS (⟨#[115, 97, 108, 116, 32]⟩ ++ nm) wd 3), .string ro, .int .i64 bl, .int .i64 lg], .int .i64 0]) ∧ Below w.heap.size w w' := by
  have HT : Hid (KTab w ∧ HTab w) := ⟨hK, hH⟩
  have hn8 : nm.size ≤ 8 := by
    simp only [Bool.and_eq_true] at h
    exact snB_le h.1
  have hw : wd.size ≤ 40 := by
    simp only [Bool.and_eq_true] at h
    have := h.2.1
    unfold dec at this
    simpa using this
  have z1 : (nm.size : Int) ≤ 65536 := by omega
  have z2 : (wd.size : Int) ≤ 65536 := by omega
  have z3 : (ro.size : Int) ≤ 65536 := by omega
  have HA : Hid (∀ w, Calls Tryd.prog 29 #[.string nm] w fun e w' => e = .returned (.bool (snB nm)) ∧ w' = w) := fun w => shortNameOK_any nm w (by omega)
  have HB : Hid (∀ w, Calls Tryd.prog 29 #[.string ro] w fun e w' => e = .returned (.bool (snB ro)) ∧ w' = w) := fun w => shortNameOK_any ro w (by omega)
  have HC : Hid (∀ w, Calls Tryd.prog 30 #[.int .i64 bl, .int .i64 lg] w fun e w' => e = .returned (.bool (dec (0 ≤ bl ∧ bl ≤ 1000000) && dec (0 ≤ lg ∧ lg ≤ 1000))) ∧ w' = w) := fun w => creditOK_any bl lg w
  obtain ⟨S, hS⟩ : ∃ S, S = ByteArray.mk #[115, 97, 108, 116, 32] ++ nm := ⟨_, rfl⟩
  have hs5 : S.size = 5 + nm.size := by rw [hS, ByteArray.size_append]; rfl
  have HP : Hid (∀ wx, Below w.heap.size w wx → Calls Tryd.prog 31 #[.string (⟨#[115, 97, 108, 116, 32]⟩ ++ nm), .string wd, .int .i64 3] wx fun e w' => e = .returned (.tuple #[.string (passS (⟨#[115, 97, 108, 116, 32]⟩ ++ nm) wd 3), .int .i64 0]) ∧ Below wx.heap.size wx w') := fun wx hb => by
    have := passHash_yes S wd 3 wx (HT.out.1.below hb) (HT.out.2.below hb) (by omega) hw (by omega)
    rw [hS] at this
    exact this
  obtain ⟨e1, e2, e3⟩ : snB nm = true ∧ snB ro = true ∧ (dec (0 ≤ bl ∧ bl ≤ 1000000) && dec (0 ≤ lg ∧ lg ≤ 1000)) = true := by
    simp only [Bool.and_eq_true] at h ⊢
    exact ⟨h.1, h.2.2.1, h.2.2.2.1, h.2.2.2.2⟩
  rw [e1] at HA
  rw [e2] at HB
  rw [e3] at HC
  clear e1 e2 e3 h hS hs5 hK hH HT
  generalize passS (⟨#[115, 97, 108, 116, 32]⟩ ++ nm) wd 3 = P at HP ⊢
  go_enter Tryd.func12, Tryd.ntmps12
  go_wp2_with fail
  refine (HA.out _).mono ?_
  rintro e w1 ⟨rfl, hw⟩
  subst hw
  go_wp2_with fail
  refine (HB.out _).mono ?_
  rintro e w1 ⟨rfl, hw⟩
  subst hw
  go_wp2_with fail
  refine (HC.out _).mono ?_
  rintro e w1 ⟨rfl, hw⟩
  subst hw
  go_wp2_with fail
  refine (HP.out _ ((Below.refl w.heap.size w).alloc (by simp <;> omega) _)).mono ?_
  rintro e wx1 ⟨rfl, bx⟩
  have c1_0_0 : wx1.cell? ⟨w.heap.size, 0, none⟩ = some (.string ⟨#[]⟩) := bkeep bx (by simp [go_sem])
  have f1_0_0 : wx1.frozen? ⟨w.heap.size, 0, none⟩ = false := bthaw bx (v := .string ⟨#[]⟩) (by simp [go_sem]) (by simp [go_sem])
  have c1_0_1 : wx1.cell? ⟨w.heap.size, 1, none⟩ = some (.string ⟨#[]⟩) := bkeep bx (by simp [go_sem])
  have f1_0_1 : wx1.frozen? ⟨w.heap.size, 1, none⟩ = false := bthaw bx (v := .string ⟨#[]⟩) (by simp [go_sem]) (by simp [go_sem])
  have c1_0_2 : wx1.cell? ⟨w.heap.size, 2, none⟩ = some (.string ⟨#[]⟩) := bkeep bx (by simp [go_sem])
  have f1_0_2 : wx1.frozen? ⟨w.heap.size, 2, none⟩ = false := bthaw bx (v := .string ⟨#[]⟩) (by simp [go_sem]) (by simp [go_sem])
  have c1_0_3 : wx1.cell? ⟨w.heap.size, 3, none⟩ = some (.string ⟨#[]⟩) := bkeep bx (by simp [go_sem])
  have f1_0_3 : wx1.frozen? ⟨w.heap.size, 3, none⟩ = false := bthaw bx (v := .string ⟨#[]⟩) (by simp [go_sem]) (by simp [go_sem])
  have c1_0_4 : wx1.cell? ⟨w.heap.size, 4, none⟩ = some (.int .i64 0) := bkeep bx (by simp [go_sem])
  have f1_0_4 : wx1.frozen? ⟨w.heap.size, 4, none⟩ = false := bthaw bx (v := .int .i64 0) (by simp [go_sem]) (by simp [go_sem])
  have c1_0_5 : wx1.cell? ⟨w.heap.size, 5, none⟩ = some (.int .i64 0) := bkeep bx (by simp [go_sem])
  have f1_0_5 : wx1.frozen? ⟨w.heap.size, 5, none⟩ = false := bthaw bx (v := .int .i64 0) (by simp [go_sem]) (by simp [go_sem])
  have BX1 : Hid (Below w.heap.size w wx1) := ((Below.refl w.heap.size w).alloc (by simp <;> omega) _).trans (bx.mono (by simp <;> omega))
  clear bx
  go_wp2
  (try simp only [Exit.inBlock, Exit.then])
  refine bodyPost_ret (v := .tuple #[.agg #[.string nm, .string (⟨#[115, 97, 108, 116, 32]⟩ ++ nm), .string P, .string ro, .int .i64 bl, .int .i64 lg], .int .i64 0]) (by simp [results, Tryd.results12, go_sem, c1_0_0, c1_0_1, c1_0_2, c1_0_3, c1_0_4, c1_0_5]; try rfl) rfl ?_
  exact ⟨rfl, ((((((BX1.out.setCell (p := ⟨w.heap.size, _, _⟩) (by show w.heap.size ≤ w.heap.size; omega) _).setCell (p := ⟨w.heap.size, _, _⟩) (by show w.heap.size ≤ w.heap.size; omega) _).setCell (p := ⟨w.heap.size, _, _⟩) (by show w.heap.size ≤ w.heap.size; omega) _).setCell (p := ⟨w.heap.size, _, _⟩) (by show w.heap.size ≤ w.heap.size; omega) _).setCell (p := ⟨w.heap.size, _, _⟩) (by show w.heap.size ≤ w.heap.size; omega) _).setCell (p := ⟨w.heap.size, _, _⟩) (by show w.heap.size ≤ w.heap.size; omega) _)⟩

end Go.Proofs.YtbeehlhcckndcaaDoor

namespace Go.Proofs.YtbeehlhcckndcaaDoor
open Go.RowKit Go.PlainAid
set_option linter.unusedVariables false

/-- The cells of the xs, one behind the other. -/
def flatS {α : Type} (c : α → List Value) (xs : List α) : List Value := xs.flatMap c
section Fl
variable {α : Type} {c : α → List Value} {K : Nat}
theorem flatS_append (xs ys : List α) : flatS c (xs ++ ys) = flatS c xs ++ flatS c ys := by simp [flatS]
theorem flatS_cons (x : α) (xs : List α) : flatS c (x :: xs) = c x ++ flatS c xs := rfl
theorem flatS_len (hK : ∀ x, (c x).length = K) : ∀ xs : List α, (flatS c xs).length = xs.length * K
  | [] => by simp [flatS]
  | x :: xs => by rw [flatS_cons, List.length_append, hK, flatS_len hK xs, List.length_cons, Nat.add_mul]; omega
theorem flatS_at (hK : ∀ x, (c x).length = K) : ∀ (xs : List α) (i : Nat) (x : α) (j : Nat), xs[i]? = some x → j < K → (flatS c xs)[i * K + j]? = (c x)[j]?
  | [], i, x, j, h, hj => by simp at h
  | y :: xs, 0, x, j, h, hj => by
    simp at h
    subst h
    rw [flatS_cons, List.getElem?_append_left (by rw [hK]; omega)]
    congr 1
    omega
  | y :: xs, i + 1, x, j, h, hj => by
    rw [flatS_cons, List.getElem?_append_right (by rw [hK, Nat.add_mul]; omega), hK, show (i + 1) * K + j - K = i * K + j by rw [Nat.add_mul]; omega]
    exact flatS_at hK xs i x j (by simpa using h) hj
theorem sets_mid : ∀ (vs B A C : List Value), B.length = vs.length → sets (A ++ (B ++ C)) A.length vs = A ++ (vs ++ C)
  | [], [], A, C, _ => rfl
  | v :: vs, b :: B, A, C, h => by
    have e : (A ++ ((b :: B) ++ C)).set A.length v = (A ++ [v]) ++ (B ++ C) := by simp
    have := sets_mid vs B (A ++ [v]) C (by simpa using h)
    unfold sets
    rw [e, show A.length + 1 = (A ++ [v]).length by simp, this]
    simp
theorem flatS_sets (hK : ∀ x, (c x).length = K) (xs : List α) (i : Nat) (y : α) (hi : i < xs.length) : flatS c (xs.set i y) = sets (flatS c xs) (i * K) (c y) := by
  obtain ⟨A, x, C, rfl, rfl⟩ : ∃ A x C, xs = A ++ x :: C ∧ A.length = i := ⟨xs.take i, xs[i], xs.drop (i + 1), by simp, by simp; omega⟩
  have e : (A ++ x :: C).set A.length y = A ++ y :: C := by simp
  rw [e, flatS_append, flatS_append, flatS_cons, flatS_cons, ← flatS_len hK, sets_mid _ _ _ _ (by rw [hK, hK])]
theorem flatS_set1 (hK : ∀ x, (c x).length = K) (xs : List α) (i : Nat) (x y : α) (j : Nat) (v : Value) (hx : xs[i]? = some x) (hj : j < K) (hy : c y = (c x).set j v) : flatS c (xs.set i y) = (flatS c xs).set (i * K + j) v := by
  have hi := (List.getElem?_eq_some_iff.1 hx).1
  obtain ⟨A, x', C, rfl, rfl⟩ : ∃ A x C, xs = A ++ x :: C ∧ A.length = i := ⟨xs.take i, xs[i], xs.drop (i + 1), by simp, by simp; omega⟩
  have ex : x' = x := by simpa using hx
  subst ex
  have e : (A ++ x' :: C).set A.length y = A ++ y :: C := by simp
  rw [e, flatS_append, flatS_append, flatS_cons, flatS_cons, ← flatS_len hK, hy, List.set_append_right _ _ (by omega), List.set_append_left _ _ (by rw [hK]; omega), show (flatS c A).length + j - (flatS c A).length = j by omega]
end Fl

/-- The slice value v owns the xs, in a block from B on. -/
def OwnS {α : Type} (c : α → List Value) (K : Nat) (e : TypeId) (w : World) (B : Nat) (v : Value) (xs : List α) : Prop := w.ownsRow B e K v xs.length (flatS c xs)
/-- A flat struct, its cells and what is known of it. -/
def FR {α : Type} (c : α → List Value) (ok : α → Prop) (w : World) (u : α) (vs : List Value) : Prop := vs = c u ∧ ok u
theorem FR.kp {α : Type} {c : α → List Value} {ok : α → Prop} : Kp (FR c ok) := fun _ _ _ _ h _ => h
section Ow
variable {α : Type} {c : α → List Value} {K : Nat} {e : TypeId} {w w' : World} {B : Nat} {v : Value} {xs : List α}
theorem OwnS.lt (h : OwnS c K e w B v xs) : ∀ k, v.ownBlock = some k → B ≤ k ∧ k < w.heap.size := World.ownsRow.lt h
theorem OwnS.keep {m : Nat} (h : OwnS c K e w B v xs) (hb : Below m w w') (hm : ∀ k, v.ownBlock = some k → k < m) : OwnS c K e w' B v xs := owns_keep h hb hm
theorem OwnS.now (h : OwnS c K e w B v xs) (hb : Below w.heap.size w w') : OwnS c K e w' B v xs := owns_now h hb
theorem OwnS.kept {r : Option Nat} (h : OwnS c K e w B v xs) (hg : w.grownBy w' r) (hne : v.ownBlock = none ∨ v.ownBlock ≠ r) : OwnS c K e w' B v xs := World.ownsRow.kept h hg hne
theorem OwnS.lower {B' : Nat} (h : OwnS c K e w B v xs) (hB : B' ≤ B) : OwnS c K e w B' v xs := by
  refine ⟨h.1, ?_⟩
  rcases h.2 with h' | ⟨g, cap, cur, h1, hb, h4⟩
  · exact .inl h'
  · exact .inr ⟨g, cap, cur, h1, Nat.le_trans hB hb, h4⟩
theorem OwnS.slice (h : OwnS c K e w B v xs) : ∃ a cap, v = .slice a xs.length cap ∧ xs.length ≤ cap ∧ cap ≤ maxLen ∧ (∀ b off, a = some ⟨b, off, none⟩ → B ≤ b ∧ b < w.heap.size) := by
  rcases h.2 with ⟨h1, h2⟩ | ⟨g, cap, cur, h1, hB, hg, h3, h4, _⟩
  · exact ⟨none, 0, by rw [h1, h2], by omega, Nat.zero_le _, fun b off e => by cases e⟩
  · exact ⟨_, cap, h1, h3, h4, fun b off e => by cases e; exact ⟨hB, (Array.getElem?_eq_some_iff.1 hg).1⟩⟩
theorem OwnS.form {a : Option Addr} {n cap : Nat} (h : OwnS c K e w B (.slice a n cap) xs) (h0 : 0 < xs.length) : ∃ g, a = some ⟨g, 0, none⟩ ∧ B ≤ g ∧ g < w.heap.size ∧ xs.length = n := by
  rcases h.2 with ⟨h1, h2⟩ | ⟨g, cap, cur, h1, hB, hg, _⟩
  · omega
  · cases h1
    exact ⟨g, rfl, hB, (Array.getElem?_eq_some_iff.1 hg).1, rfl⟩
theorem OwnS.len {a : Option Addr} {n cap : Nat} (h : OwnS c K e w B (.slice a n cap) xs) : xs.length = n := by
  rcases h.2 with ⟨h1, h2⟩ | ⟨g, cap, cur, h1, _⟩
  · cases h1
    exact h2
  · cases h1
    rfl
theorem OwnS.rw {a : Option Addr} {n cap : Nat} {ok : α → Prop} (h : OwnS c K e w B (.slice a n cap) xs) (hK : ∀ x, (c x).length = K) (hok : ∀ x, x ∈ xs → ok x) : Rw (FR c ok) K w a xs := by
  intro h0
  obtain ⟨g, rfl, hB, hg, rfl⟩ := h.form h0
  refine ⟨g, 0, rfl, hg, fun i x hx => ⟨c x, hK x, ⟨rfl, hok x (List.mem_of_getElem? hx)⟩, fun j u hu => ?_⟩⟩
  have hj := (List.getElem?_eq_some_iff.1 hu).1
  rw [hK] at hj
  have hi := (List.getElem?_eq_some_iff.1 hx).1
  have : (i + 1) * K ≤ xs.length * K := Nat.mul_le_mul_right _ hi
  rw [Nat.add_mul] at this
  rw [Nat.zero_add, World.ownsRow.cellAt h _ (by omega), flatS_at hK xs i x j hx hj]
  exact hu
/-- What a load from or a store into element i wants to know. -/
theorem OwnS.cell {g n cap : Nat} (h : OwnS c K e w B (.slice (some ⟨g, 0, none⟩) n cap) xs) (hK : ∀ x, (c x).length = K) {i j : Nat} {x : α} {u : Value} (hx : xs[i]? = some x) (hu : (c x)[j]? = some u) : w.cell? ⟨g, i * K + j, none⟩ = some u ∧ w.frozen? ⟨g, i * K + j, none⟩ = false := by
  obtain rfl := h.len
  have hj := (List.getElem?_eq_some_iff.1 hu).1
  rw [hK] at hj
  have hi := (List.getElem?_eq_some_iff.1 hx).1
  have : (i + 1) * K ≤ xs.length * K := Nat.mul_le_mul_right _ hi
  rw [Nat.add_mul] at this
  exact ⟨by rw [World.ownsRow.cellAt h _ (by omega), flatS_at hK xs i x j hx hj]; exact hu, World.ownsRow.frozenAt h _⟩
theorem OwnS.nil (w : World) (B : Nat) : OwnS c K e w B (.slice none 0 0) ([] : List α) := World.ownsRow_nil w _ _ _
theorem OwnS.lit (w : World) (B : Nat) (hB : B ≤ w.heap.size) : OwnS c K e (w.alloc (.cells #[] e)) B (.slice (some ⟨w.heap.size, 0, none⟩) 0 0) ([] : List α) := World.ownsRow_lit w #[] 0 hB (Nat.zero_le _) (by simp)
/-- An element stored whole. -/
theorem OwnS.store {g n cap : Nat} (h : OwnS c K e w B (.slice (some ⟨g, 0, none⟩) n cap) xs) (hK : ∀ x, (c x).length = K) {i : Nat} (hi : i < n) (y : α) :
    OwnS c K e (wsets w g (i * K) (c y)) B (.slice (some ⟨g, 0, none⟩) n cap) (xs.set i y) ∧ w.grownBy (wsets w g (i * K) (c y)) (some g) := by
  obtain rfl := h.len
  have := owns_sets (c y) w _ (i * K) h
  refine ⟨?_, this.2⟩
  unfold OwnS
  rw [flatS_sets hK xs i y hi, List.length_set]
  exact this.1
/-- A field stored. -/
theorem OwnS.set1 {g n cap : Nat} (h : OwnS c K e w B (.slice (some ⟨g, 0, none⟩) n cap) xs) (hK : ∀ x, (c x).length = K) {i j : Nat} {x y : α} {u : Value} (hx : xs[i]? = some x) (hj : j < K) (hy : c y = (c x).set j u) :
    OwnS c K e (w.setCell ⟨g, i * K + j, none⟩ u) B (.slice (some ⟨g, 0, none⟩) n cap) (xs.set i y) ∧ w.grownBy (w.setCell ⟨g, i * K + j, none⟩ u) (some g) := by
  obtain rfl := h.len
  have := World.ownsRow.stored h (i * K + j) u
  refine ⟨?_, this.2⟩
  unfold OwnS
  rw [flatS_set1 hK xs i x y j u hx hj hy, List.length_set]
  exact this.1
end Ow
theorem made_flatS {α : Type} (c : α → List Value) (z : α) (Z : Array Value) (hz : Z.toList = c z) (h0 : 0 < Z.size) (n : Nat) : (madeCells Z (n * Z.size)).toList = flatS c (List.replicate n z) := by
  have hK : ∀ x ∈ [z], (c x).length = Z.size := by intro x hx; simp at hx; subst hx; rw [← hz]; simp
  have flat_at : ∀ (n i j : Nat), i < n → j < Z.size → (flatS c (List.replicate n z))[i * Z.size + j]? = (c z)[j]? := by
    intro n
    induction n with
    | zero => intro i j hi; omega
    | succ n ih =>
      intro i j hi hj
      rw [List.replicate_succ, flatS_cons]
      cases i with
      | zero => rw [List.getElem?_append_left (by rw [hK z (by simp)]; omega)]; congr 1; omega
      | succ i =>
        rw [List.getElem?_append_right (by rw [hK z (by simp), Nat.add_mul]; omega), hK z (by simp), show (i + 1) * Z.size + j - Z.size = i * Z.size + j by rw [Nat.add_mul]; omega]
        exact ih i j (by omega) hj
  have hlen : ∀ n, (flatS c (List.replicate n z)).length = n * Z.size := by
    intro n
    induction n with
    | zero => simp [flatS]
    | succ n ih => rw [List.replicate_succ, flatS_cons, List.length_append, ih, hK z (by simp), Nat.add_mul]; omega
  apply List.ext_getElem?
  intro m
  by_cases hm : m < n * Z.size
  · have e1 : m = m / Z.size * Z.size + m % Z.size := by rw [Nat.mul_comm]; exact (Nat.div_add_mod m Z.size).symm
    have hq : m / Z.size < n := (Nat.div_lt_iff_lt_mul h0).2 hm
    have hr : m % Z.size < Z.size := Nat.mod_lt _ h0
    have e2 := flat_at n (m / Z.size) (m % Z.size) hq hr
    rw [← e1] at e2
    rw [e2, ← hz]
    simp [madeCells, hm, hr]
  · rw [List.getElem?_eq_none (by rw [Array.length_toList, size_madeCells]; omega), List.getElem?_eq_none (by rw [hlen]; omega)]
theorem OwnS.made {α : Type} {c : α → List Value} {K : Nat} (w : World) (e : TypeId) (B n : Nat) (z : α) (Z : Array Value) (hz : Z.toList = c z) (hZ : Z.size = K) (h0 : 0 < K) (hB : B ≤ w.heap.size) (hn : n ≤ maxLen) : OwnS c K e (w.alloc (.cells (madeCells Z (n * K)) e)) B (.slice (some ⟨w.heap.size, 0, none⟩) n n) (List.replicate n z) := by
  subst hZ
  have := owns_made w e B n Z.size Z hB hn
  unfold OwnS
  rw [made_flatS c z Z hz h0 n] at this
  rwa [List.length_replicate]
theorem takeS_set {α : Type} {L zs : List α} {k : Nat} {x : α} (hl : L.length = zs.length) (hx : zs[k]? = some x) (h : L.take k = zs.take k) : (L.set k x).take (k + 1) = zs.take (k + 1) := by
  have hk := (List.getElem?_eq_some_iff.1 hx).1
  have e1 : (L.set k x).take (k + 1) = (L.set k x).take k ++ [x] := by rw [List.take_add_one, List.getElem?_set_self (by omega)]; rfl
  have e2 : zs.take (k + 1) = zs.take k ++ [x] := by rw [List.take_add_one, hx]; rfl
  rw [e1, e2, List.take_set_of_le (Nat.le_refl _), h]
/-- The cells of a row that is read, one behind the other. -/
theorem flat_rw {α : Type} {c : α → List Value} {ok : α → Prop} {K : Nat} {w : World} {b off : Nat} {xs : List α} (h : Rw (FR c ok) K w (some ⟨b, off, none⟩) xs) (hK : ∀ x, (c x).length = K) (h0 : 0 < K) : ∀ j u, (flatS c xs)[j]? = some u → w.cell? ⟨b, off + j, none⟩ = some u := by
  intro j u hu
  have hj := (List.getElem?_eq_some_iff.1 hu).1
  rw [flatS_len hK] at hj
  have e1 : j = j / K * K + j % K := by rw [Nat.mul_comm]; exact (Nat.div_add_mod j K).symm
  have hq : j / K < xs.length := (Nat.div_lt_iff_lt_mul h0).2 hj
  have hr : j % K < K := Nat.mod_lt _ h0
  obtain ⟨b', off', e, hlt, hc⟩ := h (Nat.lt_of_le_of_lt (Nat.zero_le _) hq)
  cases e
  have hx : xs[j / K]? = some (xs[j / K]) := List.getElem?_eq_getElem hq
  obtain ⟨vs, h1, ⟨rfl, _⟩, h3⟩ := hc _ _ hx
  rw [e1, flatS_at hK xs _ _ _ hx hr] at hu
  have := h3 _ _ hu
  rw [Nat.add_assoc, ← e1] at this
  exact this
end Go.Proofs.YtbeehlhcckndcaaDoor

namespace Go.Proofs.YtbeehlhcckndcaaDoor
open Go.RowKit Go.PlainAid
set_option linter.unusedVariables false

structure FlowV where
  pr : Int
  mc : ByteArray
  si : Int
  sp : Int
  di : Int
  dp : Int
  st : Int
  un : Int
  ow : Int

instance : Inhabited FlowV := ⟨⟨0, ⟨#[]⟩, 0, 0, 0, 0, 0, 0, 0⟩⟩
def wvG (u : FlowV) : List Value := [.int .i64 u.pr, .string u.mc, .int .i64 u.si, .int .i64 u.sp, .int .i64 u.di, .int .i64 u.dp, .int .i64 u.st, .int .i64 u.un, .int .i64 u.ow]
def FlRok (u : FlowV) : Prop := (Lit.int .i64 u.pr).wf = true ∧ u.mc.size ≤ maxLen ∧ (Lit.int .i64 u.si).wf = true ∧ (Lit.int .i64 u.sp).wf = true ∧ (Lit.int .i64 u.di).wf = true ∧ (Lit.int .i64 u.dp).wf = true ∧ (Lit.int .i64 u.st).wf = true ∧ (Lit.int .i64 u.un).wf = true ∧ (Lit.int .i64 u.ow).wf = true
abbrev FlR := FR wvG FlRok
theorem wvG_len (u : FlowV) : (wvG u).length = 9 := rfl
end Go.Proofs.YtbeehlhcckndcaaDoor

namespace Go.Proofs.YtbeehlhcckndcaaDoor
open Go.RowKit Go.PlainAid
set_option linter.unusedVariables false

section OpnF
variable {H : Type} {enc : TypeId × Value → H} {w : World} {base : Nat} {spare : Nat → Bool} {held : Bool} {fuel : Nat} {cs : List Value} {x : DataW H × List MemPlace}

end OpnF
end Go.Proofs.YtbeehlhcckndcaaDoor

namespace Go.Proofs.YtbeehlhcckndcaaDoor
open Go.RowKit Go.PlainAid
set_option linter.unusedVariables false

structure ConnV where
  mc : ByteArray
  ip : Int
  po : Int
  di : Int
  st : Int
  un : Int
  nx : Int
  wa : Int
  inn : ByteArray
  out : ByteArray
  fin : Bool

instance : Inhabited ConnV := ⟨⟨⟨#[]⟩, 0, 0, 0, 0, 0, 0, 0, ⟨#[]⟩, ⟨#[]⟩, false⟩⟩
def cnG (u : ConnV) : List Value := [.string u.mc, .int .i64 u.ip, .int .i64 u.po, .int .i64 u.di, .int .i64 u.st, .int .i64 u.un, .int .i64 u.nx, .int .i64 u.wa, .string u.inn, .string u.out, .bool u.fin]
def CnRok (u : ConnV) : Prop := u.mc.size ≤ maxLen ∧ (Lit.int .i64 u.ip).wf = true ∧ (Lit.int .i64 u.po).wf = true ∧ (Lit.int .i64 u.di).wf = true ∧ (Lit.int .i64 u.st).wf = true ∧ (Lit.int .i64 u.un).wf = true ∧ (Lit.int .i64 u.nx).wf = true ∧ (Lit.int .i64 u.wa).wf = true ∧ u.inn.size ≤ maxLen ∧ u.out.size ≤ maxLen
abbrev CnR := FR cnG CnRok
theorem cnG_len (u : ConnV) : (cnG u).length = 11 := rfl
structure SegV where
  sp : Int
  dp : Int
  sq : Int
  ac : Int
  fl : Int
  wi : Int
  da : ByteArray

instance : Inhabited SegV := ⟨⟨0, 0, 0, 0, 0, 0, ⟨#[]⟩⟩⟩
end Go.Proofs.YtbeehlhcckndcaaDoor

namespace Go.Proofs.YtbeehlhcckndcaaDoor
open Go.RowKit Go.PlainAid
set_option linter.unusedVariables false

section OpnC
variable {H : Type} {enc : TypeId × Value → H} {w : World} {base : Nat} {spare : Nat → Bool} {held : Bool} {fuel : Nat} {cs : List Value} {x : DataW H × List MemPlace}

end OpnC
end Go.Proofs.YtbeehlhcckndcaaDoor

namespace Go.Proofs.YtbeehlhcckndcaaDoor
open Go.RowKit Go.PlainAid
set_option linter.unusedVariables false

structure GtV where
  ip : Int
  b : Int
  gt : Int
  gm : ByteArray
  wm : ByteArray
  rs : Int
  ps : List PlaceV
  ros : List RoleV
  us : List UserV
  ss : List SessV
  fs : List FailV
  es : List RecV
  nx : Int
  fl : List FlowV
  co : List ConnV
  nw : Int
  dr : Int
  sn : Int
/-- Where the lists of a gateway lie. -/
structure GtA where
  (x y ua sa fa ra la ca : Option Addr)
  (xc yc uc sc fc rc lc cc : Nat)
def gtC (A : GtA) (g : GtV) : List Value := [.int .i64 g.ip, .int .i64 g.b, .int .i64 g.gt, .string g.gm, .string g.wm, .int .i64 g.rs, .slice A.x g.ps.length A.xc, .slice A.y g.ros.length A.yc, .slice A.ua g.us.length A.uc, .slice A.sa g.ss.length A.sc, .slice A.fa g.fs.length A.fc, .slice A.ra g.es.length A.rc, .int .i64 g.nx, .slice A.la g.fl.length A.lc, .slice A.ca g.co.length A.cc, .int .i64 g.nw, .int .i64 g.dr, .int .i64 g.sn]
structure GtR (w : World) (A : GtA) (g : GtV) : Prop where
  ps : Rw PlR 4 w A.x g.ps
  ros : Rw (RoR 0) 5 w A.y g.ros
  us : Rw UsR 6 w A.ua g.us
  ss : Rw SeR 10 w A.sa g.ss
  fs : Rw FaR 3 w A.fa g.fs
  es : Rw ReR 5 w A.ra g.es
  fl : Rw FlR 9 w A.la g.fl
  co : Rw CnR 11 w A.ca g.co
  kl : g.fl.length ≤ A.lc
  kc : g.co.length ≤ A.cc
theorem GtR.below {w w' : World} {A : GtA} {g : GtV} (h : GtR w A g) (hb : Below w.heap.size w w') : GtR w' A g := ⟨h.ps.keep PlR.kp hb, h.ros.keep (RoR.kp 0) hb, h.us.keep UsR.kp hb, h.ss.keep SeR.kp hb, h.fs.keep FaR.kp hb, h.es.keep ReR.kp hb, h.fl.keep FR.kp hb, h.co.keep FR.kp hb, h.kl, h.kc⟩
section OpnT
variable {H : Type} {enc : TypeId × Value → H} {w : World} {base : Nat} {spare : Nat → Bool} {held : Bool} {fuel : Nat} {cs : List Value} {x : DataW H × List MemPlace}

end OpnT
end Go.Proofs.YtbeehlhcckndcaaDoor

namespace Go.Proofs.YtbeehlhcckndcaaDoor
open Go.RowKit Go.PlainAid
set_option linter.unusedVariables false

theorem Grw.grown {w w' : World} (h : Grw w w') (r : Option Nat) : w.grownBy w' r := by
  have b := h.below
  obtain ⟨q, os, rfl⟩ := h
  exact ⟨rfl, rfl, rfl, b.size, fun k hk _ => b.block k hk⟩
/-- What is appended. -/
theorem OwnS.join {α : Type} {c : α → List Value} {K : Nat} {e : TypeId} {w w' : World} {B : Nat} {v v' : Value} {xs ys : List α} (h : OwnS c K e w B v xs) (hB : B ≤ w.heap.size) (h1 : w'.ownsRow B e K v' (xs.length + ys.length) (flatS c xs ++ flatS c ys)) (h2 : w.grownBy w' v.ownBlock) :
    OwnS c K e w' B v' (xs ++ ys) ∧ Below B w w' := by
  refine ⟨?_, (Below.refl B w).grown h2 hB (fun k hk => (h.lt k hk).1)⟩
  unfold OwnS
  rw [flatS_append, List.length_append]
  exact h1
end Go.Proofs.YtbeehlhcckndcaaDoor

namespace Go.Proofs.YtbeehlhcckndcaaDoor
open Go.RowKit Go.PlainAid
set_option linter.unusedVariables false
set_option maxRecDepth 20000

theorem strOfNums_append (L M : List Int) : strOfNums L ++ strOfNums M = strOfNums (L ++ M) := by
  apply ByteArray.ext
  simp [strOfNums, ByteArray.data_append]

/-- 'string([]byte{x})'. -/
theorem conv_one (wx : World) (b : Nat) (x : Int) (h0 : 0 ≤ x) (h1 : x ≤ 255) (hb : wx.cell? ⟨b, 0, none⟩ = some (.int .u8 x)) : (convert 97 9 (.slice (some ⟨b, 0, none⟩) 1 1)).run Tryd.prog wx = .ok (.string (strOfNums [x])) wx := by
  have hB : Bytes wx (some ⟨b, 0, none⟩) [x].length (fun j => [x].getD j 0) := by
    refine ⟨fun k => ?_, fun _ => ⟨b, 0, rfl, fun i hi => ?_⟩⟩
    · rcases k with _ | k <;> simp <;> omega
    · obtain rfl : i = 0 := by simpa using hi
      simpa using hb
  exact conv_own (P := Tryd.prog) wx 97 9 5 Tryd.underlying97 Tryd.underlying5 Tryd.underlying9 (some ⟨b, 0, none⟩) 1 [x] hB

end Go.Proofs.YtbeehlhcckndcaaDoor

namespace Go.Proofs.YtbeehlhcckndcaaDoor
open Go.RowKit Go.PlainAid Go.Proofs.YtbeehlhcckndcaaDoor.Bt Go.Sort
set_option linter.unusedVariables false
set_option maxRecDepth 20000
/-- The digits of a number, laid ahead of others. -/
def mtF (k : Nat) (L : List Int) : List Int := if h : k = 0 then L else mtF (k / 10) ((48 + ((k % 10 : Nat) : Int)) :: L)
termination_by k
decreasing_by omega
theorem mtF_zero (L : List Int) : mtF 0 L = L := by rw [mtF, dif_pos rfl]
theorem mtF_step {k : Nat} (h : 0 < k) (L : List Int) : mtF k L = mtF (k / 10) ((48 + ((k % 10 : Nat) : Int)) :: L) := by rw [mtF, dif_neg (by omega)]
/-- What markText answers. -/
def mtS (k : Nat) : ByteArray := strOfNums [109] ++ strOfNums (mtF k [])
theorem m_lit : (⟨#[109]⟩ : ByteArray) = strOfNums [109] := by
  apply ByteArray.ext
  simp [strOfNums]
set_option maxHeartbeats 1000000 in
theorem markText_any (n : Nat) (w : World) (h0 : 0 < n) (hn : n ≤ 1000000000000) :
    Calls Tryd.prog 47 #[.int .i64 n] w fun e w' => e = .returned (.string (mtS n)) ∧ Grw w w' := by
  have hpos : decide ((n : Int) ≤ 0) = false := by simp; omega
  go_enter Tryd.func47, Tryd.ntmps47
  go_wp2
  go_loopw [0, 3] (fun p q wr => ∃ (k : Nat) (L : List Int), k ≤ n ∧ p = .int .i64 k ∧ q = .string (strOfNums L) ∧ Hid (mtF k L = mtF n [] ∧ k < 10 ^ (20 - L.length) ∧ L.length ≤ 20) ∧ Hid (Grw w wr)) (fun p _ _ => (intOf p).toNat)
  case atStart => exact ⟨n, [], Nat.le_refl _, rfl, rfl, ⟨rfl, by simp; omega, by simp⟩, Grw.refl _⟩
  case round =>
    obtain ⟨k, L, hk, rfl, rfl, HM, HG⟩ := hrel
    by_cases hlt : 0 < k
    · have hltz : (0 : Int) < (k : Int) := by omega
      have hL : L.length + 1 ≤ 20 := by
        have h1 := HM.out.2.1
        have h2 := HM.out.2.2
        by_cases h3 : L.length = 20
        · rw [h3] at h1
          simp at h1
          omega
        · omega
      have HM2 : Hid (mtF (k / 10) ((48 + (k : Int) % 10) :: L) = mtF n [] ∧ k / 10 < 10 ^ (20 - (((48 + (k : Int) % 10) :: L)).length) ∧ (((48 + (k : Int) % 10) :: L)).length ≤ 20) := by
        have e : ((k % 10 : Nat) : Int) = (k : Int) % 10 := by omega
        refine ⟨by rw [← e, ← mtF_step hlt]; exact HM.out.1, ?_, by simpa using hL⟩
        rw [Nat.div_lt_iff_lt_mul (by omega), List.length_cons]
        have := HM.out.2.1
        rw [show 20 - L.length = (20 - (L.length + 1)) + 1 by omega, Nat.pow_succ] at this
        exact this
      have hcv : ∀ (wx : World) (b : Nat), wx.cell? ⟨b, 0, none⟩ = some (.int .u8 (48 + (k : Int) % 10)) → (convert 97 9 (.slice (some ⟨b, 0, none⟩) 1 1)).run Tryd.prog wx = .ok (.string (strOfNums [48 + (k : Int) % 10])) wx := fun wx b hb => conv_one wx b _ (by omega) (by omega) hb
      have hcv1 := hcv (wr.alloc (.cells #[.int .u8 (48 + (k : Int) % 10)] 5)) wr.heap.size (by simp)
      have hadd : ∀ wx : World, (Op.stringOp .add (strOfNums [48 + (k : Int) % 10]) (strOfNums L)).run Tryd.prog wx = .ok (.string (strOfNums [48 + (k : Int) % 10] ++ strOfNums L)) wx := fun wx => run_string_add_sum (P := Tryd.prog) (w := wx) _ _ (by
        rw [strOfNums_size, strOfNums_size]
        simp; omega)
      rw [strOfNums_append] at hadd
      have hadd' : ∀ wx : World, (Op.stringOp .add (strOfNums [48 + (k : Int) % 10]) (strOfNums L)).run Tryd.prog wx = .ok (.string (strOfNums ((48 + (k : Int) % 10) :: L))) wx := hadd
      have hw1 : IntKind.i64.wrap ((k : Int) / 10) = (k : Int) / 10 := by rw [IntKind.wrap_i64]; omega
      have htm : (k : Int).tmod 10 = (k : Int) % 10 := Int.tmod_eq_emod_of_nonneg (by omega)
      have htd : (k : Int).tdiv 10 = (k : Int) / 10 := Int.tdiv_eq_ediv_of_nonneg (by omega)
      have hw2 : IntKind.i64.wrap ((k : Int) % 10) = (k : Int) % 10 := by rw [IntKind.wrap_i64]; omega
      have hw3 : IntKind.i64.wrap (48 + (k : Int) % 10) = 48 + (k : Int) % 10 := by rw [IntKind.wrap_i64]; omega
      have hw4 : IntKind.u8.wrap (48 + (k : Int) % 10) = 48 + (k : Int) % 10 := by rw [IntKind.wrap_u8]; omega
      have HG2 : Hid (Grw w (wr.alloc (.cells #[.int .u8 (48 + (k : Int) % 10)] 5))) := HG.out.alloc _
      have hdv : Hid ((k : Int) / 10 = ((k / 10 : Nat) : Int)) := by show _ = _; omega
      have hk2 : Hid (k / 10 < k) := Nat.div_lt_self hlt (by omega)
      generalize ((48 + (k : Int) % 10) :: L) = L2 at HM2 hadd'
      clear hadd HM HG
      go_wp2
      go_roundw
      case rel => exact ⟨k / 10, L2, by omega, by rw [hdv.out], rfl, HM2, HG2⟩
      case measure => simp [intOf]; omega
    · obtain rfl : k = 0 := by omega
      have e0 := HM.out.1
      rw [mtF_zero] at e0
      have E : Hid (mtS n = strOfNums [109] ++ strOfNums L) := by
        show mtS n = _
        unfold mtS
        rw [e0]
      have hadd : ∀ wx : World, (Op.stringOp .add (⟨#[109]⟩ : ByteArray) (strOfNums L)).run Tryd.prog wx = .ok (.string (strOfNums [109] ++ strOfNums L)) wx := fun wx => by
        rw [m_lit]
        exact run_string_add_sum (P := Tryd.prog) (w := wx) _ _ (by
          have := HM.out.2.2
          rw [strOfNums_size, strOfNums_size]
          simp; omega)
      generalize strOfNums [109] ++ strOfNums L = R at E hadd
      clear e0 HM
      go_wp2
      go_ret
      exact ⟨by rw [E.out]; rfl, HG.out⟩
theorem mtS_len (k : Nat) (h : k ≤ 1000000000000) : (mtS k).size ≤ 1000 := by
  have : ∀ (m k : Nat) (L : List Int), k < 10 ^ m → (mtF k L).length ≤ L.length + m := by
    intro m
    induction m with
    | zero => intro k L h; simp at h; subst h; rw [mtF_zero]; omega
    | succ m ih =>
      intro k L h
      by_cases h0 : k = 0
      · subst h0; rw [mtF_zero]; omega
      · rw [mtF_step (by omega)]
        have := ih (k / 10) ((48 + ((k % 10 : Nat) : Int)) :: L) (by rw [Nat.div_lt_iff_lt_mul (by omega)]; rw [Nat.pow_succ] at h; exact h)
        rw [List.length_cons] at this
        omega
  have h1 := this 13 k [] (by omega)
  unfold mtS
  simp [ByteArray.size_append, strOfNums_size] at h1 ⊢
  omega
theorem int_wf9 {n : Int} (h0 : 0 ≤ n) (h1 : n ≤ 1000000000000) : (Lit.int .i64 n).wf = true := by
  have : IntKind.i64.min = -9223372036854775808 := by decide
  have : IntKind.i64.max = 9223372036854775807 := by decide
  simp [Lit.wf]
  omega
end Go.Proofs.YtbeehlhcckndcaaDoor

namespace Go.Proofs.YtbeehlhcckndcaaDoor
open Go.RowKit Go.PlainAid Go.Proofs.YtbeehlhcckndcaaDoor.Bt Go.Sort
set_option linter.unusedVariables false
set_option maxRecDepth 20000
def PlRok (r : PlaceV) : Prop := r.lo ≤ 9223372036854775807 ∧ r.hi ≤ 9223372036854775807
def RuRok (r : RuleV) : Prop := r.lo ≤ 9223372036854775807 ∧ r.hi ≤ 9223372036854775807
theorem pv_len (u : PlaceV) : (pv u).length = 4 := rfl
theorem rv_len (u : RuleV) : (rv u).length = 6 := rfl
/-- What is marked. -/
def mkPlace (M : Nat) : PlaceV := ⟨(M : Int), (M : Int) + 1, (M : Int) + 1 + 1, (M : Int) + 1 + 1 + 1⟩
def mkPlaceL (m0 n : Nat) : List PlaceV := (List.range n).map (fun k => mkPlace (m0 + 4 * k))
theorem mkPlaceL_len (m0 n : Nat) : (mkPlaceL m0 n).length = n := by simp [mkPlaceL]
theorem mkPlaceL_at (m0 n i : Nat) (h : i < n) : (mkPlaceL m0 n)[i]? = some (mkPlace (m0 + 4 * i)) := by rw [mkPlaceL, List.getElem?_map, List.getElem?_range h]; rfl
theorem mkPlace_ok (M : Nat) (h : M + 4 ≤ 1000000000000) : PlRok (mkPlace M) := by
  unfold PlRok mkPlace
  dsimp only
  exact ⟨by omega, by omega⟩
theorem mkPlaceL_ok (m0 n : Nat) (h : m0 + 4 * n ≤ 1000000000000) : ∀ x, x ∈ mkPlaceL m0 n → PlRok x := by
  intro x hx
  unfold mkPlaceL at hx
  simp at hx
  obtain ⟨i, hi, rfl⟩ := hx
  exact mkPlace_ok _ (by omega)
def mkPlace_0 (x : PlaceV) (M : Nat) : PlaceV := { x with ip := (M : Int) }
def mkPlace_1 (x : PlaceV) (M : Nat) : PlaceV := { mkPlace_0 x M with b := (M : Int) + 1 }
def mkPlace_2 (x : PlaceV) (M : Nat) : PlaceV := { mkPlace_1 x M with lo := (M : Int) + 1 + 1 }
def mkPlace_3 (x : PlaceV) (M : Nat) : PlaceV := { mkPlace_2 x M with hi := (M : Int) + 1 + 1 + 1 }
set_option maxHeartbeats 4000000 in
theorem markPlaceS_any (a : Option Addr) (n cap B m0 : Nat) (L : List PlaceV) (w : World) (h : OwnS pv 4 62 w B (.slice a n cap) L) (h0 : 0 < m0) (hm : m0 + 4 * n ≤ 100000000000) :
    Calls Tryd.prog 41 #[.slice a n cap, .int .i64 (m0 : Int)] w fun e w' => e = .returned (.int .i64 ((m0 + 4 * n : Nat) : Int)) ∧ OwnS pv 4 62 w' B (.slice a n cap) (mkPlaceL m0 n) ∧ w.grownBy w' (Value.slice a n cap).ownBlock := by
  have H : Hid (OwnS pv 4 62 w B (.slice a n cap) L) := h
  have hn := h.len
  have hlen : n ≤ 100000000000 := by omega
  clear h
  go_enter Tryd.func41, Tryd.ntmps41
  go_wp2
  go_loopw [1, 5] (fun m i wr => ∃ (k M : Nat) (L' : List PlaceV), k ≤ n ∧ i = .int .i64 k ∧ m = .int .i64 (M : Int) ∧ Hid (M = m0 + 4 * k) ∧ Hid (OwnS pv 4 62 wr B (.slice a n cap) L' ∧ L'.length = n ∧ L'.take k = (mkPlaceL m0 n).take k ∧ w.grownBy wr (Value.slice a n cap).ownBlock)) (fun _ i _ => n - (intOf i).toNat)
  case atStart => exact ⟨0, m0, L, Nat.zero_le _, rfl, rfl, by show m0 = _; omega, H.out, hn, rfl, grown_refl w _⟩
  case round =>
    obtain ⟨k, M, L', hk, rfl, rfl, hM, X⟩ := hrel
    by_cases hlt : k < n
    · obtain ⟨g, rfl, hBg, hg, -⟩ := X.out.1.form (by rw [X.out.2.1]; omega)
      obtain ⟨x, hx⟩ := at_of (k := k) X.out.2.1 hlt
      have hltz : (k : Int) < (n : Int) := by omega
      have hMz : (M : Int) ≤ 200000000000 := by have := hM.out; omega
      have hM0 : 0 < M := by have := hM.out; omega
      have G0 : Hid (w.grownBy wr (some g)) := X.out.2.2.2
      have o0 := X.out.1
      have hT : Hid (L'.length = n ∧ L'.take k = (mkPlaceL m0 n).take k) := ⟨X.out.2.1, X.out.2.2.1⟩
      clear X
      obtain ⟨c0, z0⟩ := o0.cell pv_len (j := 0) hx rfl
      replace c0 : wr.cell? ⟨g, k * 4, none⟩ = some (.int .i64 x.ip) := c0
      replace z0 : wr.frozen? ⟨g, k * 4, none⟩ = false := z0
      obtain ⟨c1, z1⟩ := o0.cell pv_len (j := 1) hx rfl
      obtain ⟨c2, z2⟩ := o0.cell pv_len (j := 2) hx rfl
      obtain ⟨c3, z3⟩ := o0.cell pv_len (j := 3) hx rfl
      have s0 := o0.set1 pv_len (j := 0) (y := (mkPlace_0 x M)) (u := .int .i64 ((M : Int))) hx (by omega) rfl
      have hx0 : (L'.set k (mkPlace_0 x M))[k]? = some (mkPlace_0 x M) := List.getElem?_set_self (by rw [hT.out.1]; exact hlt)
      have s1 := s0.1.set1 pv_len (j := 1) (y := (mkPlace_1 x M)) (u := .int .i64 ((M : Int) + 1)) hx0 (by omega) rfl
      rw [List.set_set] at s1
      have hx1 : (L'.set k (mkPlace_1 x M))[k]? = some (mkPlace_1 x M) := List.getElem?_set_self (by rw [hT.out.1]; exact hlt)
      have s2 := s1.1.set1 pv_len (j := 2) (y := (mkPlace_2 x M)) (u := .int .i64 ((M : Int) + 1 + 1)) hx1 (by omega) rfl
      rw [List.set_set] at s2
      have hx2 : (L'.set k (mkPlace_2 x M))[k]? = some (mkPlace_2 x M) := List.getElem?_set_self (by rw [hT.out.1]; exact hlt)
      have s3 := s2.1.set1 pv_len (j := 3) (y := (mkPlace_3 x M)) (u := .int .i64 ((M : Int) + 1 + 1 + 1)) hx2 (by omega) rfl
      rw [List.set_set] at s3
      have hx3 : (L'.set k (mkPlace_3 x M))[k]? = some (mkPlace_3 x M) := List.getElem?_set_self (by rw [hT.out.1]; exact hlt)
      have Z0 : Hid (OwnS pv 4 62 ((((wr.setCell ⟨g, k * 4, none⟩ (.int .i64 ((M : Int)))).setCell ⟨g, k * 4 + 1, none⟩ (.int .i64 ((M : Int) + 1))).setCell ⟨g, k * 4 + 2, none⟩ (.int .i64 ((M : Int) + 1 + 1))).setCell ⟨g, k * 4 + 3, none⟩ (.int .i64 ((M : Int) + 1 + 1 + 1))) B (.slice (some ⟨g, 0, none⟩) n cap) (L'.set k (mkPlace_3 x M)) ∧ w.grownBy ((((wr.setCell ⟨g, k * 4, none⟩ (.int .i64 ((M : Int)))).setCell ⟨g, k * 4 + 1, none⟩ (.int .i64 ((M : Int) + 1))).setCell ⟨g, k * 4 + 2, none⟩ (.int .i64 ((M : Int) + 1 + 1))).setCell ⟨g, k * 4 + 3, none⟩ (.int .i64 ((M : Int) + 1 + 1 + 1))) (some g)) := ⟨s3.1, (grown_tr (grown_tr (grown_tr (grown_tr G0.out s0.2) s1.2) s2.2) s3.2)⟩
      have hy0 : Hid ((L'.set k (mkPlace_3 x M))[k]? = some (mkPlace_3 x M)) := hx3
      clear o0 G0 s0 hx0 s1 hx1 s2 hx2 s3 hx3 hx
      have ePlace : (mkPlace_3 x M) = mkPlace M := rfl
      rw [ePlace] at Z0
      have YY : Hid (OwnS pv 4 62 ((((wr.setCell ⟨g, k * 4, none⟩ (.int .i64 ((M : Int)))).setCell ⟨g, k * 4 + 1, none⟩ (.int .i64 ((M : Int) + 1))).setCell ⟨g, k * 4 + 2, none⟩ (.int .i64 ((M : Int) + 1 + 1))).setCell ⟨g, k * 4 + 3, none⟩ (.int .i64 ((M : Int) + 1 + 1 + 1))) B (.slice (some ⟨g, 0, none⟩) n cap) (L'.set k (mkPlace M)) ∧ (L'.set k (mkPlace M)).length = n ∧ (L'.set k (mkPlace M)).take (k + 1) = (mkPlaceL m0 n).take (k + 1) ∧ w.grownBy ((((wr.setCell ⟨g, k * 4, none⟩ (.int .i64 ((M : Int)))).setCell ⟨g, k * 4 + 1, none⟩ (.int .i64 ((M : Int) + 1))).setCell ⟨g, k * 4 + 2, none⟩ (.int .i64 ((M : Int) + 1 + 1))).setCell ⟨g, k * 4 + 3, none⟩ (.int .i64 ((M : Int) + 1 + 1 + 1))) (some g)) := ⟨Z0.out.1, by rw [List.length_set]; exact hT.out.1, takeS_set (by rw [hT.out.1, mkPlaceL_len]) (by rw [mkPlaceL_at m0 n k hlt, hM.out]) hT.out.2, Z0.out.2⟩
      clear Z0 hT hy0
      go_wp2
      go_roundw
      case rel => exact ⟨k + 1, M + 4, _, by omega, by go_num, by go_num, (show M + 4 = m0 + 4 * (k + 1) by have := hM.out; omega), YY⟩
      case measure => simp [intOf]; omega
    · obtain rfl : k = n := by omega
      have e1 : L' = mkPlaceL m0 k := by
        have := X.out.2.2.1
        rwa [List.take_of_length_le (by rw [X.out.2.1]; exact Nat.le_refl _), List.take_of_length_le (by rw [mkPlaceL_len]; exact Nat.le_refl _)] at this
      subst e1
      have hM2 := hM.out
      subst hM2
      go_wp2
      go_ret
      exact ⟨rfl, X.out.1, X.out.2.2.2⟩
set_option maxHeartbeats 4000000 in
theorem heldPlaceS_any (a : Option Addr) (n cap m0 : Nat) (w : World) (h : Rw PlR 4 w a (mkPlaceL m0 n)) (h0 : 0 < m0) (hm : m0 + 4 * n ≤ 100000000000) :
    Calls Tryd.prog 48 #[.slice a n cap, .int .i64 (m0 : Int)] w fun e w' => e = .returned (.int .i64 ((m0 + 4 * n : Nat) : Int)) ∧ Grw w w' := by
  have H : Hid (Rw PlR 4 w a (mkPlaceL m0 n)) := h
  have hlen : n ≤ 100000000000 := by omega
  clear h
  have hmix : Tryd.prog.follows .mixedOrders = true := by kernel_rfl
  go_enter Tryd.func48, Tryd.ntmps48
  go_wp2
  go_loopw [1, 5] (fun m i wr => ∃ k M : Nat, k ≤ n ∧ i = .int .i64 k ∧ m = .int .i64 (M : Int) ∧ Hid (M = m0 + 4 * k) ∧ Hid (Grw w wr)) (fun _ i _ => n - (intOf i).toNat)
  case atStart => exact ⟨0, m0, Nat.zero_le _, rfl, rfl, by show m0 = _; omega, Grw.refl w⟩
  case round =>
    obtain ⟨k, M, hk, rfl, rfl, hM, HG⟩ := hrel
    by_cases hlt : k < n
    · obtain ⟨b, off, vs, rfl, hb, hvl, hR, hc⟩ := H.out.at PlR.kp HG.out.below (mkPlaceL_at m0 n k hlt)
      rw [← hM.out] at hR
      obtain ⟨rfl, -⟩ := hR
      have hltz : (k : Int) < (n : Int) := by omega
      have hMz : (M : Int) ≤ 200000000000 := by have := hM.out; omega
      have hM0 : 0 < M := by have := hM.out; omega
      have q0 : wr.cell? ⟨b, off + k * 4, none⟩ = some (.int .i64 ((M : Int))) := hc 0 _ rfl
      have q1 : wr.cell? ⟨b, off + k * 4 + 1, none⟩ = some (.int .i64 ((M : Int) + 1)) := hc 1 _ rfl
      have q2 : wr.cell? ⟨b, off + k * 4 + 2, none⟩ = some (.int .i64 ((M : Int) + 1 + 1)) := hc 2 _ rfl
      have q3 : wr.cell? ⟨b, off + k * 4 + 3, none⟩ = some (.int .i64 ((M : Int) + 1 + 1 + 1)) := hc 3 _ rfl
      clear hc hvl
      have e0 : (((M : Int)) != ((M : Int))) = false := by simp
      have e1 : (((M : Int) + 1) != ((M : Int) + 1)) = false := by simp
      have e2 : (((M : Int) + 1 + 1) != ((M : Int) + 1 + 1)) = false := by simp
      have e3 : (((M : Int) + 1 + 1 + 1) != ((M : Int) + 1 + 1 + 1)) = false := by simp
      go_wp2
      go_roundw
      case rel => exact ⟨k + 1, M + 4, by omega, by go_num, by go_num, (show M + 4 = m0 + 4 * (k + 1) by have := hM.out; omega), HG⟩
      case measure => simp [intOf]; omega
    · obtain rfl : k = n := by omega
      have hM2 := hM.out
      subst hM2
      go_wp2
      go_ret
      exact ⟨rfl, HG.out⟩
/-- What is marked. -/
def mkRule (M : Nat) : RuleV := ⟨(M : Int), (M : Int) + 1, (M : Int) + 1 + 1, (M : Int) + 1 + 1 + 1, (M : Int) + 1 + 1 + 1 + 1, (((M : Int) + 1 + 1 + 1 + 1 + 1) % 3 == 0)⟩
def mkRuleL (m0 n : Nat) : List RuleV := (List.range n).map (fun k => mkRule (m0 + 6 * k))
theorem mkRuleL_len (m0 n : Nat) : (mkRuleL m0 n).length = n := by simp [mkRuleL]
theorem mkRuleL_at (m0 n i : Nat) (h : i < n) : (mkRuleL m0 n)[i]? = some (mkRule (m0 + 6 * i)) := by rw [mkRuleL, List.getElem?_map, List.getElem?_range h]; rfl
theorem mkRule_ok (M : Nat) (h : M + 6 ≤ 1000000000000) : RuRok (mkRule M) := by
  unfold RuRok mkRule
  dsimp only
  exact ⟨by omega, by omega⟩
theorem mkRuleL_ok (m0 n : Nat) (h : m0 + 6 * n ≤ 1000000000000) : ∀ x, x ∈ mkRuleL m0 n → RuRok x := by
  intro x hx
  unfold mkRuleL at hx
  simp at hx
  obtain ⟨i, hi, rfl⟩ := hx
  exact mkRule_ok _ (by omega)
def mkRule_0 (x : RuleV) (M : Nat) : RuleV := { x with p := (M : Int) }
def mkRule_1 (x : RuleV) (M : Nat) : RuleV := { mkRule_0 x M with ip := (M : Int) + 1 }
def mkRule_2 (x : RuleV) (M : Nat) : RuleV := { mkRule_1 x M with b := (M : Int) + 1 + 1 }
def mkRule_3 (x : RuleV) (M : Nat) : RuleV := { mkRule_2 x M with lo := (M : Int) + 1 + 1 + 1 }
def mkRule_4 (x : RuleV) (M : Nat) : RuleV := { mkRule_3 x M with hi := (M : Int) + 1 + 1 + 1 + 1 }
def mkRule_5 (x : RuleV) (M : Nat) : RuleV := { mkRule_4 x M with al := (((M : Int) + 1 + 1 + 1 + 1 + 1) % 3 == 0) }
set_option maxHeartbeats 4000000 in
theorem markRuleS_any (a : Option Addr) (n cap B m0 : Nat) (L : List RuleV) (w : World) (h : OwnS rv 6 64 w B (.slice a n cap) L) (h0 : 0 < m0) (hm : m0 + 6 * n ≤ 100000000000) :
    Calls Tryd.prog 65 #[.slice a n cap, .int .i64 (m0 : Int)] w fun e w' => e = .returned (.int .i64 ((m0 + 6 * n : Nat) : Int)) ∧ OwnS rv 6 64 w' B (.slice a n cap) (mkRuleL m0 n) ∧ w.grownBy w' (Value.slice a n cap).ownBlock := by
  have H : Hid (OwnS rv 6 64 w B (.slice a n cap) L) := h
  have hn := h.len
  have hlen : n ≤ 100000000000 := by omega
  clear h
  go_enter Tryd.func65, Tryd.ntmps65
  go_wp2
  go_loopw [1, 5] (fun m i wr => ∃ (k M : Nat) (L' : List RuleV), k ≤ n ∧ i = .int .i64 k ∧ m = .int .i64 (M : Int) ∧ Hid (M = m0 + 6 * k) ∧ Hid (OwnS rv 6 64 wr B (.slice a n cap) L' ∧ L'.length = n ∧ L'.take k = (mkRuleL m0 n).take k ∧ w.grownBy wr (Value.slice a n cap).ownBlock)) (fun _ i _ => n - (intOf i).toNat)
  case atStart => exact ⟨0, m0, L, Nat.zero_le _, rfl, rfl, by show m0 = _; omega, H.out, hn, rfl, grown_refl w _⟩
  case round =>
    obtain ⟨k, M, L', hk, rfl, rfl, hM, X⟩ := hrel
    by_cases hlt : k < n
    · obtain ⟨g, rfl, hBg, hg, -⟩ := X.out.1.form (by rw [X.out.2.1]; omega)
      obtain ⟨x, hx⟩ := at_of (k := k) X.out.2.1 hlt
      have hltz : (k : Int) < (n : Int) := by omega
      have hMz : (M : Int) ≤ 200000000000 := by have := hM.out; omega
      have hM0 : 0 < M := by have := hM.out; omega
      have G0 : Hid (w.grownBy wr (some g)) := X.out.2.2.2
      have o0 := X.out.1
      have hT : Hid (L'.length = n ∧ L'.take k = (mkRuleL m0 n).take k) := ⟨X.out.2.1, X.out.2.2.1⟩
      clear X
      obtain ⟨c0, z0⟩ := o0.cell rv_len (j := 0) hx rfl
      replace c0 : wr.cell? ⟨g, k * 6, none⟩ = some (.int .i64 x.p) := c0
      replace z0 : wr.frozen? ⟨g, k * 6, none⟩ = false := z0
      obtain ⟨c1, z1⟩ := o0.cell rv_len (j := 1) hx rfl
      obtain ⟨c2, z2⟩ := o0.cell rv_len (j := 2) hx rfl
      obtain ⟨c3, z3⟩ := o0.cell rv_len (j := 3) hx rfl
      obtain ⟨c4, z4⟩ := o0.cell rv_len (j := 4) hx rfl
      obtain ⟨c5, z5⟩ := o0.cell rv_len (j := 5) hx rfl
      have s0 := o0.set1 rv_len (j := 0) (y := (mkRule_0 x M)) (u := .int .i64 ((M : Int))) hx (by omega) rfl
      have hx0 : (L'.set k (mkRule_0 x M))[k]? = some (mkRule_0 x M) := List.getElem?_set_self (by rw [hT.out.1]; exact hlt)
      have s1 := s0.1.set1 rv_len (j := 1) (y := (mkRule_1 x M)) (u := .int .i64 ((M : Int) + 1)) hx0 (by omega) rfl
      rw [List.set_set] at s1
      have hx1 : (L'.set k (mkRule_1 x M))[k]? = some (mkRule_1 x M) := List.getElem?_set_self (by rw [hT.out.1]; exact hlt)
      have s2 := s1.1.set1 rv_len (j := 2) (y := (mkRule_2 x M)) (u := .int .i64 ((M : Int) + 1 + 1)) hx1 (by omega) rfl
      rw [List.set_set] at s2
      have hx2 : (L'.set k (mkRule_2 x M))[k]? = some (mkRule_2 x M) := List.getElem?_set_self (by rw [hT.out.1]; exact hlt)
      have s3 := s2.1.set1 rv_len (j := 3) (y := (mkRule_3 x M)) (u := .int .i64 ((M : Int) + 1 + 1 + 1)) hx2 (by omega) rfl
      rw [List.set_set] at s3
      have hx3 : (L'.set k (mkRule_3 x M))[k]? = some (mkRule_3 x M) := List.getElem?_set_self (by rw [hT.out.1]; exact hlt)
      have s4 := s3.1.set1 rv_len (j := 4) (y := (mkRule_4 x M)) (u := .int .i64 ((M : Int) + 1 + 1 + 1 + 1)) hx3 (by omega) rfl
      rw [List.set_set] at s4
      have hx4 : (L'.set k (mkRule_4 x M))[k]? = some (mkRule_4 x M) := List.getElem?_set_self (by rw [hT.out.1]; exact hlt)
      have s5 := s4.1.set1 rv_len (j := 5) (y := (mkRule_5 x M)) (u := .bool (((M : Int) + 1 + 1 + 1 + 1 + 1) % 3 == 0)) hx4 (by omega) rfl
      rw [List.set_set] at s5
      have hx5 : (L'.set k (mkRule_5 x M))[k]? = some (mkRule_5 x M) := List.getElem?_set_self (by rw [hT.out.1]; exact hlt)
      have Z0 : Hid (OwnS rv 6 64 ((((((wr.setCell ⟨g, k * 6, none⟩ (.int .i64 ((M : Int)))).setCell ⟨g, k * 6 + 1, none⟩ (.int .i64 ((M : Int) + 1))).setCell ⟨g, k * 6 + 2, none⟩ (.int .i64 ((M : Int) + 1 + 1))).setCell ⟨g, k * 6 + 3, none⟩ (.int .i64 ((M : Int) + 1 + 1 + 1))).setCell ⟨g, k * 6 + 4, none⟩ (.int .i64 ((M : Int) + 1 + 1 + 1 + 1))).setCell ⟨g, k * 6 + 5, none⟩ (.bool (((M : Int) + 1 + 1 + 1 + 1 + 1) % 3 == 0))) B (.slice (some ⟨g, 0, none⟩) n cap) (L'.set k (mkRule_5 x M)) ∧ w.grownBy ((((((wr.setCell ⟨g, k * 6, none⟩ (.int .i64 ((M : Int)))).setCell ⟨g, k * 6 + 1, none⟩ (.int .i64 ((M : Int) + 1))).setCell ⟨g, k * 6 + 2, none⟩ (.int .i64 ((M : Int) + 1 + 1))).setCell ⟨g, k * 6 + 3, none⟩ (.int .i64 ((M : Int) + 1 + 1 + 1))).setCell ⟨g, k * 6 + 4, none⟩ (.int .i64 ((M : Int) + 1 + 1 + 1 + 1))).setCell ⟨g, k * 6 + 5, none⟩ (.bool (((M : Int) + 1 + 1 + 1 + 1 + 1) % 3 == 0))) (some g)) := ⟨s5.1, (grown_tr (grown_tr (grown_tr (grown_tr (grown_tr (grown_tr G0.out s0.2) s1.2) s2.2) s3.2) s4.2) s5.2)⟩
      have hy0 : Hid ((L'.set k (mkRule_5 x M))[k]? = some (mkRule_5 x M)) := hx5
      clear o0 G0 s0 hx0 s1 hx1 s2 hx2 s3 hx3 s4 hx4 s5 hx5 hx
      have eRule : (mkRule_5 x M) = mkRule M := rfl
      rw [eRule] at Z0
      have YY : Hid (OwnS rv 6 64 ((((((wr.setCell ⟨g, k * 6, none⟩ (.int .i64 ((M : Int)))).setCell ⟨g, k * 6 + 1, none⟩ (.int .i64 ((M : Int) + 1))).setCell ⟨g, k * 6 + 2, none⟩ (.int .i64 ((M : Int) + 1 + 1))).setCell ⟨g, k * 6 + 3, none⟩ (.int .i64 ((M : Int) + 1 + 1 + 1))).setCell ⟨g, k * 6 + 4, none⟩ (.int .i64 ((M : Int) + 1 + 1 + 1 + 1))).setCell ⟨g, k * 6 + 5, none⟩ (.bool (((M : Int) + 1 + 1 + 1 + 1 + 1) % 3 == 0))) B (.slice (some ⟨g, 0, none⟩) n cap) (L'.set k (mkRule M)) ∧ (L'.set k (mkRule M)).length = n ∧ (L'.set k (mkRule M)).take (k + 1) = (mkRuleL m0 n).take (k + 1) ∧ w.grownBy ((((((wr.setCell ⟨g, k * 6, none⟩ (.int .i64 ((M : Int)))).setCell ⟨g, k * 6 + 1, none⟩ (.int .i64 ((M : Int) + 1))).setCell ⟨g, k * 6 + 2, none⟩ (.int .i64 ((M : Int) + 1 + 1))).setCell ⟨g, k * 6 + 3, none⟩ (.int .i64 ((M : Int) + 1 + 1 + 1))).setCell ⟨g, k * 6 + 4, none⟩ (.int .i64 ((M : Int) + 1 + 1 + 1 + 1))).setCell ⟨g, k * 6 + 5, none⟩ (.bool (((M : Int) + 1 + 1 + 1 + 1 + 1) % 3 == 0))) (some g)) := ⟨Z0.out.1, by rw [List.length_set]; exact hT.out.1, takeS_set (by rw [hT.out.1, mkRuleL_len]) (by rw [mkRuleL_at m0 n k hlt, hM.out]) hT.out.2, Z0.out.2⟩
      clear Z0 hT hy0
      go_wp2
      go_roundw
      case rel => exact ⟨k + 1, M + 6, _, by omega, by go_num, by go_num, (show M + 6 = m0 + 6 * (k + 1) by have := hM.out; omega), YY⟩
      case measure => simp [intOf]; omega
    · obtain rfl : k = n := by omega
      have e1 : L' = mkRuleL m0 k := by
        have := X.out.2.2.1
        rwa [List.take_of_length_le (by rw [X.out.2.1]; exact Nat.le_refl _), List.take_of_length_le (by rw [mkRuleL_len]; exact Nat.le_refl _)] at this
      subst e1
      have hM2 := hM.out
      subst hM2
      go_wp2
      go_ret
      exact ⟨rfl, X.out.1, X.out.2.2.2⟩
set_option maxHeartbeats 4000000 in
theorem heldRuleS_any (a : Option Addr) (n cap m0 : Nat) (w : World) (h : Rw RuR 6 w a (mkRuleL m0 n)) (h0 : 0 < m0) (hm : m0 + 6 * n ≤ 100000000000) :
    Calls Tryd.prog 66 #[.slice a n cap, .int .i64 (m0 : Int)] w fun e w' => e = .returned (.int .i64 ((m0 + 6 * n : Nat) : Int)) ∧ Grw w w' := by
  have H : Hid (Rw RuR 6 w a (mkRuleL m0 n)) := h
  have hlen : n ≤ 100000000000 := by omega
  clear h
  have hmix : Tryd.prog.follows .mixedOrders = true := by kernel_rfl
  go_enter Tryd.func66, Tryd.ntmps66
  go_wp2
  go_loopw [1, 5] (fun m i wr => ∃ k M : Nat, k ≤ n ∧ i = .int .i64 k ∧ m = .int .i64 (M : Int) ∧ Hid (M = m0 + 6 * k) ∧ Hid (Grw w wr)) (fun _ i _ => n - (intOf i).toNat)
  case atStart => exact ⟨0, m0, Nat.zero_le _, rfl, rfl, by show m0 = _; omega, Grw.refl w⟩
  case round =>
    obtain ⟨k, M, hk, rfl, rfl, hM, HG⟩ := hrel
    by_cases hlt : k < n
    · obtain ⟨b, off, vs, rfl, hb, hvl, hR, hc⟩ := H.out.at RuR.kp HG.out.below (mkRuleL_at m0 n k hlt)
      rw [← hM.out] at hR
      obtain ⟨rfl, -⟩ := hR
      have hltz : (k : Int) < (n : Int) := by omega
      have hMz : (M : Int) ≤ 200000000000 := by have := hM.out; omega
      have hM0 : 0 < M := by have := hM.out; omega
      have q0 : wr.cell? ⟨b, off + k * 6, none⟩ = some (.int .i64 ((M : Int))) := hc 0 _ rfl
      have q1 : wr.cell? ⟨b, off + k * 6 + 1, none⟩ = some (.int .i64 ((M : Int) + 1)) := hc 1 _ rfl
      have q2 : wr.cell? ⟨b, off + k * 6 + 2, none⟩ = some (.int .i64 ((M : Int) + 1 + 1)) := hc 2 _ rfl
      have q3 : wr.cell? ⟨b, off + k * 6 + 3, none⟩ = some (.int .i64 ((M : Int) + 1 + 1 + 1)) := hc 3 _ rfl
      have q4 : wr.cell? ⟨b, off + k * 6 + 4, none⟩ = some (.int .i64 ((M : Int) + 1 + 1 + 1 + 1)) := hc 4 _ rfl
      have q5 : wr.cell? ⟨b, off + k * 6 + 5, none⟩ = some (.bool (((M : Int) + 1 + 1 + 1 + 1 + 1) % 3 == 0)) := hc 5 _ rfl
      clear hc hvl
      have e0 : (((M : Int)) != ((M : Int))) = false := by simp
      have e1 : (((M : Int) + 1) != ((M : Int) + 1)) = false := by simp
      have e2 : (((M : Int) + 1 + 1) != ((M : Int) + 1 + 1)) = false := by simp
      have e3 : (((M : Int) + 1 + 1 + 1) != ((M : Int) + 1 + 1 + 1)) = false := by simp
      have e4 : (((M : Int) + 1 + 1 + 1 + 1) != ((M : Int) + 1 + 1 + 1 + 1)) = false := by simp
      have e5 : ((((M : Int) + 1 + 1 + 1 + 1 + 1) % 3 == 0) != (((M : Int) + 1 + 1 + 1 + 1 + 1) % 3 == 0)) = false := by simp
      go_wp2
      go_roundw
      case rel => exact ⟨k + 1, M + 6, by omega, by go_num, by go_num, (show M + 6 = m0 + 6 * (k + 1) by have := hM.out; omega), HG⟩
      case measure => simp [intOf]; omega
    · obtain rfl : k = n := by omega
      have hM2 := hM.out
      subst hM2
      go_wp2
      go_ret
      exact ⟨rfl, HG.out⟩
end Go.Proofs.YtbeehlhcckndcaaDoor

namespace Go.Proofs.YtbeehlhcckndcaaDoor
open Go.RowKit Go.PlainAid Go.Sort
set_option linter.unusedVariables false
set_option maxRecDepth 20000
theorem grown_set (w : World) (a : Addr) (u : Value) : w.grownBy (w.setCell a u) (some a.block) :=
  ⟨rfl, rfl, rfl, by simp [World.setCell], fun k _ hk => Below.heap_setCell _ _ _ _ (fun e => hk (by rw [e]))⟩
/-- A box: its cells, and they may be written. -/
structure Bx (w : World) (q : Nat) (cs : List Value) : Prop where
  cl : w.rangeAt q 0 cs
  th : w.there q 0 cs.length
theorem Bx.cell {w : World} {q : Nat} {cs : List Value} (h : Bx w q cs) (j : Nat) {v : Value} (hj : cs[j]? = some v) : w.cell? ⟨q, j, none⟩ = some v := by
  have := h.cl j v hj
  rwa [Nat.zero_add] at this
theorem Bx.thaw {w : World} {q : Nat} {cs : List Value} (h : Bx w q cs) (j : Nat) (hj : j < cs.length) : w.frozen? ⟨q, j, none⟩ = false := by
  have := (h.th j hj).2
  rwa [Nat.zero_add] at this
theorem Bx.of {w : World} {q : Nat} {cs : List Value} (hc : ∀ j v, cs[j]? = some v → w.cell? ⟨q, j, none⟩ = some v) (hf : ∀ j, j < cs.length → w.frozen? ⟨q, j, none⟩ = false) : Bx w q cs :=
  ⟨fun j v hv => by rw [Nat.zero_add]; exact hc j v hv, fun j hj => by rw [Nat.zero_add]; exact ⟨by rw [hc j _ (List.getElem?_eq_getElem hj)]; rfl, hf j hj⟩⟩
theorem Bx.below {w w' : World} {q : Nat} {cs : List Value} (h : Bx w q cs) (hb : Below w.heap.size w w') : Bx w' q cs :=
  Bx.of (fun j v hv => bkeep hb (h.cell j hv)) (fun j hj => bthaw hb (h.cell j (List.getElem?_eq_getElem hj)) (h.thaw j hj))
theorem Bx.put {w : World} {q : Nat} {cs : List Value} (h : Bx w q cs) (vs : List Value) (hl : vs.length = cs.length) : Bx (w.setCells q 0 vs) q vs :=
  ⟨w.rangeAt_setCells_same q 0 vs (by rw [hl]; exact h.th), fun j hj => ⟨World.isSome_setCells q vs 0 w _ (h.th j (by omega)).1, by rw [World.frozen?_setCells]; exact (h.th j (by omega)).2⟩⟩
theorem Bx.apart {w : World} {q p : Nat} {cs : List Value} (h : Bx w q cs) (vs : List Value) (hne : q ≠ p) : Bx (w.setCells p 0 vs) q cs :=
  ⟨World.rangeAt_setCells_apart h.cl p 0 vs (.inl hne), fun j hj => ⟨World.isSome_setCells p vs 0 w _ (h.th j hj).1, by rw [World.frozen?_setCells]; exact (h.th j hj).2⟩⟩
theorem below_cells {n : Nat} {w : World} {q : Nat} (hq : n ≤ q) : ∀ (vs : List Value) (o : Nat) (W : World), Below n w W → Below n w (W.setCells q o vs)
  | [], _, _, h => h
  | v :: r, o, W, h => by
    rw [World.setCells]
    exact below_cells hq r (o + 1) _ (h.setCell hq v)
theorem Bx.field {w : World} {q : Nat} {cs : List Value} (h : Bx w q cs) (j : Nat) (v : Value) : Bx (w.setCell ⟨q, j, none⟩ v) q (cs.set j v) := by
  refine Bx.of (fun i u hu => ?_) (fun i hi => ?_)
  · by_cases e : i = j
    · subst e
      have hi : i < cs.length := by have := (List.getElem?_eq_some_iff.1 hu).1; simpa using this
      rw [List.getElem?_set_self hi] at hu
      cases hu
      exact World.cell?_setCell_same _ _ _ (h.cell i (List.getElem?_eq_getElem hi))
    · rw [List.getElem?_set_ne (fun h => e h.symm)] at hu
      rw [World.cell?_setCell_other _ _ _ _ (fun h => e (by cases h; rfl))]
      exact h.cell i hu
  · rw [List.length_set] at hi
    rw [World.frozen?_setCell]
    exact h.thaw i hi
theorem Bx.far {w : World} {q : Nat} {cs : List Value} (h : Bx w q cs) (a : Addr) (v : Value) (hne : a.block ≠ q) : Bx (w.setCell a v) q cs :=
  Bx.of (fun i u hu => by rw [World.cell?_setCell_other _ _ _ _ (fun h => hne (by cases h; rfl))]; exact h.cell i hu) (fun i hi => by rw [World.frozen?_setCell]; exact h.thaw i hi)
/-- What a region reads: a box, and all below kept. -/
structure XQ (cb : Nat) (cs : List Value) (w wx : World) : Prop where
  c : Bx wx cb cs
  out : Below w.heap.size w wx
theorem XQ.below {cb : Nat} {cs : List Value} {w wx wy : World} (h : XQ cb cs w wx) (hb : Below wx.heap.size wx wy) : XQ cb cs w wy := ⟨h.c.below hb, h.out.trans (hb.mono h.out.size)⟩
theorem XQ.cells {cb rb : Nat} {cs vs : List Value} {w wx : World} (h : XQ cb cs w wx) (h1 : cb ≠ rb) (h2 : w.heap.size ≤ rb) : XQ cb cs w (wx.setCells rb 0 vs) := ⟨h.c.apart _ h1, below_cells h2 _ _ _ h.out⟩
theorem Bx.new (w : World) (cs : Array Value) (t : TypeId) : Bx (w.alloc (.cells cs t)) w.heap.size cs.toList :=
  Bx.of (fun j v hv => by rw [Array.getElem?_toList] at hv; simp [go_sem, hv]) (fun j hj => by simp [go_sem])
theorem wpl_putT {P : Program} {ops : Array Oper} {rest : List Oper} {op : Oper} {a : Act} {w : World} {Q : Exit → Act → World → Prop} (t : TypeId) (hgd : op.guard = none) (x y : Operand) (ho : op.op = .store t x y)
    (q : Nat) (cells : Array Value) (hx : a.eval x = .pointer (some ⟨q, 0, none⟩)) (hy : a.eval y = .agg cells) {cs : List Value} (h0 : Bx w q cs) (hv : cells.size = cs.length) (hi : (P.info? t).map (·.size) = some cells.size) (h1 : cells.toList.all (·.oneCell') = true)
    (h : ∀ w', w' = w.setCells q 0 cells.toList → Bx w' q cells.toList → wpList P ops Q rest (a.put op.dst undef) w') : wpList P ops Q (op :: rest) a w :=
  wpList_store_mid hgd t x y ho q 0 cells hx hy (by rw [hv]; exact h0.th) hi (by rw [← Array.all_toList]; exact h1) (h _ rfl (h0.put _ (by simp [hv])))
theorem wpl_getT {P : Program} {ops : Array Oper} {rest : List Oper} {op : Oper} {a : Act} {w : World} {Q : Exit → Act → World → Prop} (t : TypeId) (hgd : op.guard = none) (x : Operand) (ho : op.op = .load t x)
    (q : Nat) (hx : a.eval x = .pointer (some ⟨q, 0, none⟩)) {cs : List Value} (h0 : Bx w q cs) (d : TypeDesc) (hu : P.underlying t = some d) (hd : d.isRow = true) (hi : (P.info? t).map (·.size) = some cs.length)
    (h : wpList P ops Q rest (a.put op.dst (.agg cs.toArray)) w) : wpList P ops Q (op :: rest) a w :=
  wpList_load_mid hgd t x ho q 0 hx cs d h0.cl hu hd hi h
theorem Bx.sets {q : Nat} : ∀ (vs : List Value) (o : Nat) (w : World) (cs : List Value), Bx w q cs → Bx (w.setCells q o vs) q (sets cs o vs)
  | [], _, _, _, h => h
  | v :: r, o, w, cs, h => by
    rw [World.setCells]
    unfold Go.Proofs.YtbeehlhcckndcaaDoor.sets
    exact Bx.sets r (o + 1) _ _ (h.field o v)
theorem Bx.part {w : World} {q : Nat} {cs : List Value} (h : Bx w q cs) (o : Nat) (vs : List Value) (hv : (cs.drop o).take vs.length = vs) : w.rangeAt q o vs := by
  intro j v hj
  refine h.cell (o + j) ?_
  have hl := (List.getElem?_eq_some_iff.1 hj).1
  rw [← hv, List.getElem?_take_of_lt hl, List.getElem?_drop] at hj
  exact hj
theorem Bx.thereAt {w : World} {q : Nat} {cs : List Value} (h : Bx w q cs) (o n : Nat) (hn : o + n ≤ cs.length) : w.there q o n := fun j hj => ⟨by rw [h.cell (o + j) (List.getElem?_eq_getElem (by omega))]; rfl, h.thaw (o + j) (by omega)⟩
theorem wpl_getO {P : Program} {ops : Array Oper} {rest : List Oper} {op : Oper} {a : Act} {w : World} {Q : Exit → Act → World → Prop} (t : TypeId) (hgd : op.guard = none) (x : Operand) (ho : op.op = .load t x)
    (q o : Nat) (vs : List Value) (hx : a.eval x = .pointer (some ⟨q, o, none⟩)) {cs : List Value} (h0 : Bx w q cs) (hv : (cs.drop o).take vs.length = vs) (d : TypeDesc) (hu : P.underlying t = some d) (hd : d.isRow = true) (hi : (P.info? t).map (·.size) = some vs.length)
    (h : wpList P ops Q rest (a.put op.dst (.agg vs.toArray)) w) : wpList P ops Q (op :: rest) a w :=
  wpList_load_mid hgd t x ho q o hx vs d (h0.part o vs hv) hu hd hi h
theorem wpl_putO {P : Program} {ops : Array Oper} {rest : List Oper} {op : Oper} {a : Act} {w : World} {Q : Exit → Act → World → Prop} (t : TypeId) (hgd : op.guard = none) (x y : Operand) (ho : op.op = .store t x y)
    (q o : Nat) (cells : Array Value) (hx : a.eval x = .pointer (some ⟨q, o, none⟩)) (hy : a.eval y = .agg cells) {cs : List Value} (h0 : Bx w q cs) (hn : (decide (o + cells.size ≤ cs.length)) = true) (hi : (P.info? t).map (·.size) = some cells.size) (h1 : cells.toList.all (·.oneCell') = true)
    (h : ∀ w', w' = w.setCells q o cells.toList → Bx w' q (sets cs o cells.toList) → wpList P ops Q rest (a.put op.dst undef) w') : wpList P ops Q (op :: rest) a w :=
  wpList_store_mid hgd t x y ho q o cells hx hy (h0.thereAt o _ (of_decide_eq_true hn)) hi (by rw [← Array.all_toList]; exact h1) (h _ rfl (h0.sets _ _ _ _))
/-- Rows, kept where blocks are. -/
theorem rw_keepB {α : Type} {R : World → α → List Value → Prop} {K : Nat} {w w' : World} {a : Option Addr} {xs : List α} {B : Nat → Prop} (h : Rw R K w a xs) (hs : w.heap.size ≤ w'.heap.size) (hk : ∀ k, B k → w'.heap[k]? = w.heap[k]?) (hb : ∀ b off, a = some ⟨b, off, none⟩ → b < w.heap.size → B b) (hR : ∀ x vs, R w x vs → R w' x vs) : Rw R K w' a xs := by
  intro h0
  obtain ⟨b, off, rfl, hlt, hc⟩ := h h0
  refine ⟨b, off, rfl, Nat.lt_of_lt_of_le hlt hs, fun i x hx => ?_⟩
  obtain ⟨vs, h1, h2, h3⟩ := hc i x hx
  refine ⟨vs, h1, hR _ _ h2, fun j v hv => ?_⟩
  have e : w'.cell? ⟨b, off + i * K + j, none⟩ = w.cell? ⟨b, off + i * K + j, none⟩ := by
    unfold World.cell?
    rw [show w'.heap[(⟨b, off + i * K + j, none⟩ : Addr).block]? = w.heap[(⟨b, off + i * K + j, none⟩ : Addr).block]? from hk b (hb b off rfl hlt)]
  rw [e]
  exact h3 j v hv
theorem heap_cellsA {q : Nat} : ∀ (vs : List Value) (o : Nat) (w : World), (w.setCells q o vs).heap.size = w.heap.size ∧ ∀ k, k ≠ q → (w.setCells q o vs).heap[k]? = w.heap[k]?
  | [], _, _ => ⟨rfl, fun _ _ => rfl⟩
  | v :: r, o, w => by
    rw [World.setCells]
    obtain ⟨h1, h5⟩ := heap_cellsA r (o + 1) (w.setCell ⟨q, o, none⟩ v)
    exact ⟨h1.trans (by simp [World.setCell]), fun k hk => (h5 k hk).trans (Below.heap_setCell _ _ _ _ hk)⟩
theorem Bx.apartO {w : World} {q p o : Nat} {cs : List Value} (h : Bx w q cs) (vs : List Value) (hne : q ≠ p) : Bx (w.setCells p o vs) q cs :=
  ⟨World.rangeAt_setCells_apart h.cl p o vs (.inl hne), fun j hj => ⟨World.isSome_setCells p vs o w _ (h.th j hj).1, by rw [World.frozen?_setCells]; exact (h.th j hj).2⟩⟩
end Go.Proofs.YtbeehlhcckndcaaDoor

namespace Go.Proofs.YtbeehlhcckndcaaDoor
open Go.RowKit Go.PlainAid Go.Proofs.YtbeehlhcckndcaaDoor.Bt Go.Sort
set_option linter.unusedVariables false
set_option maxRecDepth 20000
/-- A role, and where its rules lie. -/
structure RoX where
  r : RoleV
  ra : Option Addr
  rc : Nat
def RoX.sl (x : RoX) : Value := .slice x.ra x.r.rs.length x.rc
def roG (x : RoX) : List Value := [.string x.r.nm, .slice x.ra x.r.rs.length x.rc, .int .i64 x.r.q, .int .i64 x.r.m, .int .i64 x.r.i]
theorem roG_len (x : RoX) : (roG x).length = 5 := rfl
/-- Rows that are apart. -/
def ApB (v v' : Value) : Prop := ∀ k, v.ownBlock = some k → v'.ownBlock ≠ some k
theorem ApB.symm {v v' : Value} (h : ApB v v') : ApB v' v := fun k h1 h2 => h k h2 h1
theorem apB_of {α β : Type} {c : α → List Value} {c' : β → List Value} {K K' : Nat} {e e' : TypeId} {w : World} {B B' : Nat} {v u : Value} {xs : List α} {ys : List β} (o : OwnS c K e w B v xs) (o' : OwnS c' K' e' w B' u ys) (hne : e ≠ e') : ApB v u := by
  intro k hk hk'
  rcases o.2 with ⟨h1, _⟩ | ⟨g, cap, cur, h1, _, hg1, _⟩
  · rw [h1] at hk; cases hk
  rcases o'.2 with ⟨h2, _⟩ | ⟨g', cap', cur', h2, _, hg2, _⟩
  · rw [h2] at hk'; cases hk'
  rw [h1] at hk
  rw [h2] at hk'
  have e1 : g = k := by simpa [Value.ownBlock] using hk
  have e2 : g' = k := by simpa [Value.ownBlock] using hk'
  subst e1; subst e2
  rw [hg1] at hg2
  cases hg2
  exact hne rfl
structure OwnRo (w : World) (B : Nat) (v : Value) (L : List RoX) : Prop where
  row : OwnS roG 5 67 w B v L
  rules : ∀ x, x ∈ L → OwnS rv 6 64 w B x.sl x.r.rs
  apart : L.Pairwise (fun x y => ApB x.sl y.sl)
theorem ApB.kept {v v' : Value} (h : ApB v v') : v.ownBlock = none ∨ v.ownBlock ≠ v'.ownBlock := by
  cases hv : v.ownBlock with
  | none => exact .inl rfl
  | some k => exact .inr (fun e => h k hv e.symm)
theorem OwnRo.now {w w' : World} {B : Nat} {v : Value} {L : List RoX} (h : OwnRo w B v L) (hb : Below w.heap.size w w') : OwnRo w' B v L := ⟨h.row.now hb, fun x hx => (h.rules x hx).now hb, h.apart⟩
theorem OwnRo.lower {w : World} {B B' : Nat} {v : Value} {L : List RoX} (h : OwnRo w B v L) (hb : B' ≤ B) : OwnRo w B' v L := ⟨h.row.lower hb, fun x hx => (h.rules x hx).lower hb, h.apart⟩
/-- The blocks that a row of roles owns. -/
def roBk (v : Value) (L : List RoX) (b : Nat) : Prop := v.ownBlock = some b ∨ ∃ x, x ∈ L ∧ x.sl.ownBlock = some b
theorem OwnRo.lt {w : World} {B : Nat} {v : Value} {L : List RoX} (h : OwnRo w B v L) : ∀ b, roBk v L b → B ≤ b ∧ b < w.heap.size := by
  rintro b (hb | ⟨x, hx, hb⟩)
  · exact h.row.lt b hb
  · exact (h.rules x hx).lt b hb
/-- What happens in blocks of others alone leaves it. -/
theorem OwnRo.keepB {w w' : World} {B : Nat} {v : Value} {L : List RoX} (h : OwnRo w B v L) (hk : ∀ b, roBk v L b → w'.heap[b]? = w.heap[b]?) : OwnRo w' B v L := by
  have loc : ∀ {e : TypeId} {K n : Nat} {v : Value} {F : List Value}, w.ownsRow B e K v n F → (∀ k, v.ownBlock = some k → w'.heap[k]? = w.heap[k]?) → w'.ownsRow B e K v n F := by
    intro e K n v F h hq
    refine ⟨h.1, ?_⟩
    rcases h.2 with h' | ⟨g, cap, cur, h1, hB, hg, h4⟩
    · exact .inl h'
    · exact .inr ⟨g, cap, cur, h1, hB, by rw [hq g (by rw [h1]; rfl)]; exact hg, h4⟩
  exact ⟨loc h.row (fun k hk' => hk k (.inl hk')), fun x hx => loc (h.rules x hx) (fun k hk' => hk k (.inr ⟨x, hx, hk'⟩)), h.apart⟩
theorem pair_set {L : List RoX} {k : Nat} {x y : RoX} (h : L.Pairwise (fun x y => ApB x.sl y.sl)) (hx : L[k]? = some x) (hs : y.sl = x.sl) : (L.set k y).Pairwise (fun x y => ApB x.sl y.sl) := by
  have e : (L.set k y).map RoX.sl = L.map RoX.sl := by
    rw [List.map_set, hs]
    have hk := (List.getElem?_eq_some_iff.1 hx)
    refine List.ext_getElem? (fun i => ?_)
    by_cases hi : i = k
    · subst hi
      rw [List.getElem?_set_self (by rw [List.length_map]; exact hk.1), List.getElem?_map, hx]; rfl
    · rw [List.getElem?_set_ne (fun e => hi e.symm)]
  have a := List.pairwise_map.2 h
  rw [← e] at a
  exact List.pairwise_map.1 a
theorem roBk_set {v : Value} {L : List RoX} {k : Nat} {x y : RoX} (hx : L[k]? = some x) (hs : y.sl = x.sl) (b : Nat) : roBk v (L.set k y) b ↔ roBk v L b := by
  have hk := (List.getElem?_eq_some_iff.1 hx)
  unfold roBk
  constructor
  · rintro (h | ⟨z, hz, h⟩)
    · exact .inl h
    · rcases List.mem_or_eq_of_mem_set hz with h1 | h1
      · exact .inr ⟨z, h1, h⟩
      · subst h1; exact .inr ⟨x, List.mem_of_getElem? hx, by rw [← hs]; exact h⟩
  · rintro (h | ⟨z, hz, h⟩)
    · exact .inl h
    · obtain ⟨i, hi⟩ := List.getElem?_of_mem hz
      by_cases hik : i = k
      · subst hik
        rw [hx] at hi; cases hi
        exact .inr ⟨y, List.mem_of_getElem? (List.getElem?_set_self hk.1), by rw [hs]; exact h⟩
      · exact .inr ⟨z, List.mem_of_getElem? (by rw [List.getElem?_set_ne (fun e => hik e.symm)]; exact hi), h⟩
/-- A field of a role is stored. -/
theorem OwnRo.set1 {w : World} {B g n cap : Nat} {L : List RoX} (h : OwnRo w B (.slice (some ⟨g, 0, none⟩) n cap) L) {k j : Nat} {x : RoX} (y : RoX) {u : Value} (hx : L[k]? = some x) (hj : j < 5) (hy : roG y = (roG x).set j u) (hs : y.sl = x.sl) (hr : y.r.rs = x.r.rs) :
    OwnRo (w.setCell ⟨g, k * 5 + j, none⟩ u) B (.slice (some ⟨g, 0, none⟩) n cap) (L.set k y) ∧ w.grownBy (w.setCell ⟨g, k * 5 + j, none⟩ u) (some g) := by
  have s := h.row.set1 roG_len (j := j) (y := y) (u := u) hx hj hy
  refine ⟨⟨s.1, fun z hz => ?_, pair_set h.apart hx hs⟩, s.2⟩
  have hz2 : OwnS rv 6 64 w B z.sl z.r.rs := by
    rcases List.mem_or_eq_of_mem_set hz with h1 | h1
    · exact h.rules z h1
    · subst h1; rw [hs, hr]; exact h.rules x (List.mem_of_getElem? hx)
  exact hz2.kept s.2 ((apB_of hz2 h.row (by decide)).kept)
/-- The rules of a role are other ones. -/
theorem OwnRo.setR {w w' : World} {B : Nat} {v : Value} {L : List RoX} (h : OwnRo w B v L) {k : Nat} {x : RoX} (rs : List RuleV) (hx : L[k]? = some x) (hl : rs.length = x.r.rs.length) (hg : w.grownBy w' x.sl.ownBlock) (ho : OwnS rv 6 64 w' B x.sl rs) :
    OwnRo w' B v (L.set k { x with r := { x.r with rs := rs } }) := by
  have hs : ({ x with r := { x.r with rs := rs } } : RoX).sl = x.sl := by unfold RoX.sl; dsimp only; rw [hl]
  have hg1 : roG { x with r := { x.r with rs := rs } } = roG x := by unfold roG; dsimp only; rw [hl]
  have hfl : flatS roG (L.set k { x with r := { x.r with rs := rs } }) = flatS roG L := by
    have hk := List.getElem?_eq_some_iff.1 hx
    obtain ⟨A, x', C, rfl, rfl⟩ : ∃ A x' C, L = A ++ x' :: C ∧ A.length = k := ⟨L.take k, L[k]'hk.1, L.drop (k + 1), by simp, by have := hk.1; simp; omega⟩
    have ex : x' = x := by simpa using hx
    subst ex
    have e : (A ++ x' :: C).set A.length { x' with r := { x'.r with rs := rs } } = A ++ { x' with r := { x'.r with rs := rs } } :: C := by simp
    rw [e, flatS_append, flatS_append, flatS_cons, flatS_cons, hg1]
  have hrow : OwnS roG 5 67 w' B v (L.set k { x with r := { x.r with rs := rs } }) := by
    have h1 := h.row.kept hg ((apB_of h.row (h.rules x (List.mem_of_getElem? hx)) (by decide)).kept)
    unfold OwnS at h1 ⊢
    rw [hfl, List.length_set]
    exact h1
  refine ⟨hrow, fun z hz => ?_, pair_set h.apart hx hs⟩
  obtain ⟨i, hi⟩ := List.getElem?_of_mem hz
  have hk := (List.getElem?_eq_some_iff.1 hx)
  by_cases hik : i = k
  · subst hik
    rw [List.getElem?_set_self hk.1] at hi
    cases hi
    rw [hs]; exact ho
  · rw [List.getElem?_set_ne (fun e => hik e.symm)] at hi
    have hap : ApB z.sl x.sl := by
      have hii := (List.getElem?_eq_some_iff.1 hi)
      rcases Nat.lt_or_ge i k with hlt | hge
      · have := List.pairwise_iff_getElem.1 h.apart i k hii.1 hk.1 hlt
        rw [hii.2, hk.2] at this; exact this
      · have := List.pairwise_iff_getElem.1 h.apart k i hk.1 hii.1 (by omega)
        rw [hii.2, hk.2] at this; exact this.symm
    exact (h.rules z (List.mem_of_getElem? hi)).kept hg hap.kept
/-- How many numbers roles take up, and what is marked. -/
def roN : List RoX → Nat
  | [] => 0
  | x :: L => 4 + 6 * x.r.rs.length + roN L
def mkRo (M : Nat) (x : RoX) : RoX := { x with r := ⟨mtS M, mkRuleL (M + 1) x.r.rs.length, (M : Int) + 1 + 6 * (x.r.rs.length : Int), (M : Int) + 1 + 6 * (x.r.rs.length : Int) + 1, (M : Int) + 1 + 6 * (x.r.rs.length : Int) + 1 + 1⟩ }
theorem mkRo_sl (M : Nat) (x : RoX) : (mkRo M x).sl = x.sl := by unfold mkRo RoX.sl; dsimp only; rw [mkRuleL_len]
def mkRoL (M : Nat) : List RoX → List RoX
  | [] => []
  | x :: L => mkRo M x :: mkRoL (M + (4 + 6 * x.r.rs.length)) L
theorem roN_step : ∀ {L : List RoX} {k : Nat} {x : RoX}, L[k]? = some x → roN (L.take (k + 1)) = roN (L.take k) + (4 + 6 * x.r.rs.length)
  | [], k, x, h => by simp at h
  | y :: L, 0, x, h => by simp at h; subst h; simp [roN]
  | y :: L, k + 1, x, h => by
    have := roN_step (L := L) (k := k) (x := x) (by simpa using h)
    simp only [List.take_succ_cons, roN]
    omega
theorem roN_le : ∀ (L : List RoX) (k : Nat), roN (L.take k) ≤ roN L
  | [], k => by simp [roN]
  | y :: L, 0 => by simp [roN]
  | y :: L, k + 1 => by
    have := roN_le L k
    simp only [List.take_succ_cons, roN]
    omega
theorem mkRoL_len : ∀ (L : List RoX) (M : Nat), (mkRoL M L).length = L.length
  | [], _ => rfl
  | x :: L, M => by simp [mkRoL, mkRoL_len L]
theorem mkRoL_at : ∀ {L : List RoX} {k M : Nat} {x : RoX}, L[k]? = some x → (mkRoL M L)[k]? = some (mkRo (M + roN (L.take k)) x)
  | [], k, M, x, h => by simp at h
  | y :: L, 0, M, x, h => by simp at h; subst h; simp [mkRoL, roN]
  | y :: L, k + 1, M, x, h => by
    have := mkRoL_at (L := L) (k := k) (M := M + (4 + 6 * y.r.rs.length)) (x := x) (by simpa using h)
    simp only [mkRoL, List.getElem?_cons_succ, List.take_succ_cons, roN]
    rw [this]
    congr 2
    omega
def mixRo (M : Nat) (L : List RoX) (k : Nat) : List RoX := (mkRoL M L).take k ++ L.drop k
theorem mix_zero (M : Nat) (L : List RoX) : mixRo M L 0 = L := by simp [mixRo]
theorem mix_all (M : Nat) (L : List RoX) : mixRo M L L.length = mkRoL M L := by
  unfold mixRo
  rw [List.drop_length, List.append_nil, List.take_of_length_le (by rw [mkRoL_len]; exact Nat.le_refl _)]
theorem mix_at {M : Nat} {L : List RoX} {k : Nat} {x : RoX} (h : L[k]? = some x) : (mixRo M L k)[k]? = some x := by
  have hk := (List.getElem?_eq_some_iff.1 h).1
  unfold mixRo
  rw [List.getElem?_append_right (by simp; omega)]
  have : k - ((mkRoL M L).take k).length = 0 := by rw [List.length_take, mkRoL_len]; omega
  rw [this, List.getElem?_drop, Nat.add_zero]
  exact h
theorem mix_step {M : Nat} {L : List RoX} {k : Nat} {x : RoX} (h : L[k]? = some x) : (mixRo M L k).set k (mkRo (M + roN (L.take k)) x) = mixRo M L (k + 1) := by
  have hk := List.getElem?_eq_some_iff.1 h
  unfold mixRo
  rw [List.set_append_right _ _ (by have := hk.1; simp; omega)]
  have : k - ((mkRoL M L).take k).length = 0 := by have := hk.1; rw [List.length_take, mkRoL_len]; omega
  rw [this]
  have hd : L.drop k = x :: L.drop (k + 1) := by rw [← hk.2]; exact List.drop_eq_getElem_cons hk.1
  rw [hd, List.set_cons_zero, List.take_add_one, mkRoL_at h]
  simp
theorem mix_len (M : Nat) (L : List RoX) (k : Nat) (hk : k ≤ L.length) : (mixRo M L k).length = L.length := by
  unfold mixRo
  rw [List.length_append, List.length_take, mkRoL_len, List.length_drop]; omega
end Go.Proofs.YtbeehlhcckndcaaDoor

namespace Go.Proofs.YtbeehlhcckndcaaDoor
open Go.RowKit
set_option linter.unusedVariables false

namespace Rel
/-- In the blocks of B nothing has turned; the streams are as they were; no block has gone. -/
structure Keep (B : Nat → Prop) (w w' : World) : Prop where
  os : w'.os = w.os
  tape : w'.tape = w.tape
  output : w'.output = w.output
  size : w.heap.size ≤ w'.heap.size
  block : ∀ k, B k → w'.heap[k]? = w.heap[k]?
theorem Keep.refl (B : Nat → Prop) (w : World) : Keep B w w := ⟨rfl, rfl, rfl, Nat.le_refl _, fun _ _ => rfl⟩
theorem Keep.trans {B : Nat → Prop} {a b c : World} (h : Keep B a b) (k : Keep B b c) : Keep B a c :=
  ⟨k.os.trans h.os, k.tape.trans h.tape, k.output.trans h.output, Nat.le_trans h.size k.size, fun i hi => (k.block i hi).trans (h.block i hi)⟩
theorem Keep.mono {B C : Nat → Prop} {a b : World} (h : Keep B a b) (hc : ∀ k, C k → B k) : Keep C a b := ⟨h.os, h.tape, h.output, h.size, fun i hi => h.block i (hc i hi)⟩

def upd (σ : Nat → Value) (i : Nat) (v : Value) : Nat → Value := fun j => if j = i then v else σ j
theorem upd_self (σ : Nat → Value) (i : Nat) (v : Value) : upd σ i v i = v := if_pos rfl
theorem upd_ne (σ : Nat → Value) {i j : Nat} (v : Value) (h : j ≠ i) : upd σ i v j = σ j := if_neg h

/-- What an operation leaves: a fact of the values so far and of the world, and the blocks that it owns. -/
structure Rsc where
  fact : (Nat → Value) → World → Prop
  own : (Nat → Value) → Nat → Prop
  dm : List Nat
  tk : List Nat
  nd : List Nat

/-- The fact hangs on its own blocks and those of Bs alone, and on the values of dm alone. -/
structure Rsc.Ok (Bs : Nat → Prop) (r : Rsc) : Prop where
  loc : ∀ σ w w', r.fact σ w → Keep (fun b => Bs b ∨ r.own σ b) w w' → r.fact σ w'
  ext : ∀ σ σ' : Nat → Value, (∀ j, j ∈ r.dm → σ' j = σ j) → (∀ w, r.fact σ w → r.fact σ' w) ∧ (∀ b, r.own σ' b → r.own σ b)

def dstOf (ops : Array Oper) (k : Nat) : Option Tmp := (ops[k]?).bind (·.dst)

/-- The frame with the values of those that are listed. -/
def mixFr (ops : Array Oper) (a0 : Act) (σ : Nat → Value) (L : Nat → Bool) : Nat → Act
  | 0 => a0
  | k + 1 => if L k then (mixFr ops a0 σ L k).put (dstOf ops k) (σ k) else mixFr ops a0 σ L k

def look (ops : Array Oper) (a0 : Act) (σ : Nat → Value) (L : Nat → Bool) (t : Nat) : Nat → Option Value
  | 0 => a0.tmps[t]?
  | k + 1 => if L k = true ∧ dstOf ops k = some t ∧ t < a0.tmps.size then some (σ k) else look ops a0 σ L t k

theorem mixFr_size (ops : Array Oper) (a0 : Act) (σ : Nat → Value) (L : Nat → Bool) : ∀ n, (mixFr ops a0 σ L n).tmps.size = a0.tmps.size
  | 0 => rfl
  | k + 1 => by
    unfold mixFr
    split
    · unfold Act.put
      split
      · simp [mixFr_size ops a0 σ L k]
      · exact mixFr_size ops a0 σ L k
    · exact mixFr_size ops a0 σ L k

theorem mixFr_look (ops : Array Oper) (a0 : Act) (σ : Nat → Value) (L : Nat → Bool) (t : Nat) : ∀ n, (mixFr ops a0 σ L n).tmps[t]? = look ops a0 σ L t n
  | 0 => rfl
  | k + 1 => by
    have ih := mixFr_look ops a0 σ L t k
    have hs := mixFr_size ops a0 σ L k
    unfold mixFr look
    by_cases hL : L k = true
    · rw [if_pos hL]
      cases hd : dstOf ops k with
      | none => simp only [Act.put]; rw [if_neg (by rintro ⟨_, h, _⟩; cases h)]; exact ih
      | some d =>
        simp only [Act.put]
        by_cases e : d = t
        · subst e
          by_cases hlt : d < a0.tmps.size
          · rw [if_pos ⟨hL, rfl, hlt⟩, Array.getElem?_setIfInBounds_self_of_lt (by rw [hs]; exact hlt)]
          · have hle : (mixFr ops a0 σ L k).tmps.size ≤ d := by rw [hs]; exact Nat.le_of_not_lt hlt
            rw [if_neg (by rintro ⟨_, _, h⟩; exact hlt h), ← ih, Array.setIfInBounds_eq_of_size_le hle]
        · rw [if_neg (by rintro ⟨_, h, _⟩; exact e (Option.some.inj h)), Array.getElem?_setIfInBounds_ne e]
          exact ih
    · rw [if_neg hL, if_neg (by rintro ⟨h, _⟩; exact hL h)]
      exact ih

theorem look_same {ops : Array Oper} {a0 : Act} {σ : Nat → Value} {L L' : Nat → Bool} {t : Nat} : ∀ n, (∀ k, k < n → dstOf ops k = some t → L k = L' k) → look ops a0 σ L t n = look ops a0 σ L' t n
  | 0, _ => rfl
  | k + 1, h => by
    unfold look
    rw [look_same k (fun j hj => h j (by omega))]
    by_cases e : dstOf ops k = some t
    · rw [h k (by omega) e]
    · rw [if_neg (fun x => e x.2.1), if_neg (fun x => e x.2.1)]
theorem look_cut {ops : Array Oper} {a0 : Act} {σ : Nat → Value} {L : Nat → Bool} {t i : Nat} (h : ∀ k, dstOf ops k = some t → k < i) : ∀ n, i ≤ n → look ops a0 σ L t n = look ops a0 σ L t i
  | 0, hn => by have : i = 0 := by omega
                subst this; rfl
  | k + 1, hn => by
    by_cases e : i = k + 1
    · rw [e]
    · rw [← look_cut h k (by omega)]
      conv => lhs; unfold look
      rw [if_neg (fun x => by have := h k x.2.1; omega)]

theorem mixFr_low {ops : Array Oper} {a0 : Act} {σ σ' : Nat → Value} {L L' : Nat → Bool} : ∀ n, (∀ k, k < n → L k = L' k ∧ σ k = σ' k) → mixFr ops a0 σ L n = mixFr ops a0 σ' L' n
  | 0, _ => rfl
  | k + 1, h => by
    unfold mixFr
    rw [mixFr_low k (fun j hj => h j (by omega)), (h k (by omega)).1, (h k (by omega)).2]

theorem mixFr_add {ops : Array Oper} {a0 : Act} {σ : Nat → Value} {L L' : Nat → Bool} {i : Nat} {v : Value} (hd : ∀ k, k ≠ i → ∀ d, dstOf ops i = some d → dstOf ops k ≠ some d) (hi : L i = false) (hi' : L' i = true) (hL : ∀ k, k ≠ i → L' k = L k) :
    ∀ n, i < n → mixFr ops a0 (upd σ i v) L' n = (mixFr ops a0 σ L n).put (dstOf ops i) v
  | 0, hn => by omega
  | k + 1, hn => by
    by_cases e : i = k
    · subst e
      unfold mixFr
      rw [if_pos hi', if_neg (by rw [hi]; exact Bool.false_ne_true), upd_self]
      rw [mixFr_low i (fun j hj => ⟨hL j (by omega), upd_ne σ v (by omega)⟩)]
    · have ih := mixFr_add (v := v) (σ := σ) (a0 := a0) hd hi hi' hL k (by omega)
      unfold mixFr
      rw [hL k (fun h => e h.symm), upd_ne σ v (fun h => e h.symm), ih]
      split
      · exact Act.put_comm _ _ _ (fun d h => hd k (fun h => e h.symm) d h)
      · rfl

def waits (o : Oper) (j : Nat) : Bool := o.after.any fun e => Region.binds .any e && e.on == j
def waitsAt (ops : Array Oper) (t i : Nat) : Bool := match ops[t]? with | some o => waits o i | none => false

/-- What the region and the resources must show by looking. -/
def check (ops : Array Oper) (R : List Rsc) (ini : List Nat) : Bool :=
  Region.noSelect ops && ini.all (fun k => decide (ops.size ≤ k) && ((R[k]?).map fun r => r.dm.isEmpty && r.tk.isEmpty).getD false) &&
  (List.range ops.size).all fun i => match ops[i]?, R[i]? with
    | some o, some r =>
      (o.after.all fun e => !Region.binds .any e || decide (e.on < i)) &&
      ((List.range ops.size).all fun j => match dstOf ops j with
        | none => true
        | some d => (j == i || dstOf ops i != some d) && (!(o.looksAt ops).contains d || waits o j)) &&
      ((r.tk ++ r.nd).all fun j => (waits o j || ini.contains j) && (List.range ops.size).all fun t => t == i || !(((R[t]?).map (·.tk)).getD []).contains j || waitsAt ops t i) &&
      r.dm.all (fun j => j == i || waits o j)
    | _, _ => false

/-- What an operation that has run has yielded. -/
def relUpon (P : Program) (post : Value → World → Prop) : Result Next → Prop
  | .ok (.value u) w' => post u w'
  | .ok .skip w' => post undef w'
  | .ok (.enter f args) w' => Calls P f args w' fun e w'' => ∃ v, e = .returned v ∧ post v w''
  | .ok (.row row args) w' => Rows P row args w' post
  | _ => False

/-- One operation: run in the frame of those ahead of it in the text, at a world where the facts that it wants hold. -/
def factsOf (Bs : Nat → Prop) (R : List Rsc) (σ : Nat → Value) (w : World) : List Nat → Prop
  | [] => True
  | j :: l => (∃ r, R[j]? = some r ∧ r.fact σ w ∧ ∀ b, r.own σ b → b < w.heap.size ∧ ¬ Bs b) ∧ factsOf Bs R σ w l

/-- What is asked of what it leaves. -/
structure Left (R : List Rsc) (r : Rsc) (i : Nat) (σ : Nat → Value) (w : World) (v : Value) (w' : World) : Prop where
  fact : r.fact (upd σ i v) w'
  own : ∀ b, r.own (upd σ i v) b → (∃ j rj, j ∈ r.tk ∧ R[j]? = some rj ∧ rj.own σ b) ∨ (w.heap.size ≤ b ∧ b < w'.heap.size)
  keep : Keep (fun b => b < w.heap.size ∧ ∀ j rj, j ∈ r.tk → R[j]? = some rj → ¬ rj.own σ b) w w'

def StepAt (P : Program) (ops : Array Oper) (Bs : Nat → Prop) (wS : World) (R : List Rsc) (i : Nat) (o : Oper) (r : Rsc) (Fr : (Nat → Value) → Act) : Prop :=
  ∀ σ w, Keep Bs wS w → factsOf Bs R σ w (r.tk ++ r.nd) →
    if Region.wanted o (yielded ops (Fr σ).tmps) = true then relUpon P (Left R r i σ w) ((execOp (Fr σ).eval o).run P w) else Left R r i σ w undef w

/-- All of them, in the order of the text. -/
def Walk (P : Program) (ops : Array Oper) (Bs : Nat → Prop) (wS : World) (R : List Rsc) : List Oper → List Rsc → Nat → ((Nat → Value) → Act) → Prop
  | o :: l, r :: rs, i, Fr => StepAt P ops Bs wS R i o r Fr ∧ Walk P ops Bs wS R l rs (i + 1) (fun σ => (Fr σ).put o.dst (σ i))
  | _, _, _, _ => True
def putAll : List Oper → Nat → Act → (Nat → Value) → Act
  | [], _, a, _ => a
  | o :: l, k, a, σ => putAll l (k + 1) (a.put o.dst (σ k)) σ

section
variable {P : Program} {ops : Array Oper} {Bs : Nat → Prop} {wS : World} {R : List Rsc} {ini fin : List Nat} {a0 : Act} {Q : Exit → Act → World → Prop}

def Held (ops : Array Oper) (R : List Rsc) (ini : List Nat) (listed : Array Bool) (k : Nat) : Prop :=
  (k ∈ ini ∨ (k < ops.size ∧ listed.getD k false = true)) ∧ ∀ t r, R[t]? = some r → t < ops.size → listed.getD t false = true → k ∉ r.tk

structure Inv (ops : Array Oper) (Bs : Nat → Prop) (wS : World) (R : List Rsc) (ini : List Nat) (a0 : Act) (listed : Array Bool) (σ : Nat → Value) (a : Act) (w : World) : Prop where
  sz : listed.size = ops.size
  fr : a = mixFr ops a0 σ (fun k => listed.getD k false) ops.size
  keep : Keep Bs wS w
  closed : ∀ t o, listed.getD t false = true → ops[t]? = some o → ∀ e ∈ o.after, Region.binds .any e = true → listed.getD e.on false = true
  held : ∀ k r, R[k]? = some r → Held ops R ini listed k → r.fact σ w ∧ ∀ b, r.own σ b → b < w.heap.size ∧ ¬ Bs b
  apart : ∀ j k rj rk, R[j]? = some rj → R[k]? = some rk → Held ops R ini listed j → Held ops R ini listed k → j ≠ k → ∀ b, rj.own σ b → ¬ rk.own σ b

structure Chk (ops : Array Oper) (R : List Rsc) (ini : List Nat) : Prop where
  nosel : Region.noSelect ops = true
  inis : ∀ k, k ∈ ini → ops.size ≤ k ∧ ∃ r, R[k]? = some r ∧ r.dm = []
  has : ∀ i, i < ops.size → ∃ o r, ops[i]? = some o ∧ R[i]? = some r
  low : ∀ (i : Nat) o, ops[i]? = some o → ∀ e ∈ o.after, Region.binds .any e = true → e.on < i
  dst : ∀ i j, i < ops.size → j ≠ i → ∀ d, dstOf ops i = some d → dstOf ops j ≠ some d
  looks : ∀ (i : Nat) o (j : Nat) d, ops[i]? = some o → dstOf ops j = some d → d ∈ o.looksAt ops → waits o j = true
  wants : ∀ (i : Nat) o r (j : Nat), ops[i]? = some o → R[i]? = some r → j ∈ r.tk ++ r.nd → (waits o j = true ∨ j ∈ ini) ∧ ∀ t rt, R[t]? = some rt → t < ops.size → t ≠ i → j ∈ rt.tk → waitsAt ops t i = true
  dm : ∀ (i : Nat) o r (j : Nat), ops[i]? = some o → R[i]? = some r → j ∈ r.dm → j = i ∨ waits o j = true

theorem dstOf_lt {j : Nat} {d : Tmp} (h : dstOf ops j = some d) : j < ops.size := by
  unfold dstOf at h
  cases ho : ops[j]? with
  | none => rw [ho] at h; cases h
  | some o => exact (Array.getElem?_eq_some_iff.1 ho).1

theorem chk_of (h : check ops R ini = true) : Chk ops R ini := by
  unfold check at h
  simp only [Bool.and_eq_true, List.all_eq_true, List.mem_range] at h
  obtain ⟨⟨h1, h2⟩, h3⟩ := h
  have at3 : ∀ i o, ops[i]? = some o → ∃ r, R[i]? = some r ∧
      (o.after.all fun e => !Region.binds .any e || decide (e.on < i)) = true ∧
      ((List.range ops.size).all fun j => match dstOf ops j with
        | none => true
        | some d => (j == i || dstOf ops i != some d) && (!(o.looksAt ops).contains d || waits o j)) = true ∧
      ((r.tk ++ r.nd).all fun j => (waits o j || ini.contains j) && (List.range ops.size).all fun t => t == i || !(((R[t]?).map (·.tk)).getD []).contains j || waitsAt ops t i) = true ∧
      r.dm.all (fun j => j == i || waits o j) = true := by
    intro i o ho
    have hi := (Array.getElem?_eq_some_iff.1 ho).1
    have := h3 i hi
    rw [ho] at this
    cases hr : R[i]? with
    | none => rw [hr] at this; simp at this
    | some r =>
      rw [hr] at this
      simp only [Bool.and_eq_true] at this
      exact ⟨r, rfl, this.1.1.1, this.1.1.2, this.1.2, this.2⟩
  refine ⟨h1, ?_, ?_, ?_, ?_, ?_, ?_, ?_⟩
  · intro k hk
    have := h2 k hk
    rw [decide_eq_true_eq] at this
    refine ⟨this.1, ?_⟩
    cases hr : R[k]? with
    | none => rw [hr] at this; simp at this
    | some r =>
      rw [hr] at this
      simp only [Option.map_some, Option.getD_some, Bool.and_eq_true] at this
      exact ⟨r, rfl, List.isEmpty_iff.1 this.2.1⟩
  · intro i hi
    obtain ⟨r, hr, _⟩ := at3 i ops[i] (Array.getElem?_eq_getElem hi)
    exact ⟨_, r, Array.getElem?_eq_getElem hi, hr⟩
  · intro i o ho e he hb
    obtain ⟨r, hr, h, _⟩ := at3 i o ho
    have := Array.all_eq_true_iff_forall_mem.1 h e he
    simpa [hb] using this
  · intro i j hi hne d hd hj
    obtain ⟨r, hr, _, h, _⟩ := at3 i ops[i] (Array.getElem?_eq_getElem hi)
    have := List.all_eq_true.1 h j (List.mem_range.2 (dstOf_lt hj))
    rw [hj] at this
    simp [hd, hne] at this
  · intro i o j d ho hj hl
    obtain ⟨r, hr, _, h, _⟩ := at3 i o ho
    have := List.all_eq_true.1 h j (List.mem_range.2 (dstOf_lt hj))
    rw [hj] at this
    simp only [Bool.and_eq_true, Bool.or_eq_true, Bool.not_eq_true'] at this
    rcases this.2 with hx | hx
    · rw [List.contains_iff_mem.2 hl] at hx; cases hx
    · exact hx
  · intro i o r j ho hr hj
    obtain ⟨r', hr', _, _, h, _⟩ := at3 i o ho
    rw [hr] at hr'; cases hr'
    have := List.all_eq_true.1 h j hj
    simp only [Bool.and_eq_true, Bool.or_eq_true, List.all_eq_true, List.mem_range, Bool.not_eq_true'] at this
    refine ⟨this.1.imp id (fun hx => List.contains_iff_mem.1 hx), fun t rt ht hlt hne hm => ?_⟩
    rcases this.2 t hlt with (hx | hx) | hx
    · exact absurd (by simpa using hx) hne
    · rw [ht] at hx; simp only [Option.map_some, Option.getD_some] at hx; rw [List.contains_iff_mem.2 hm] at hx; cases hx
    · exact hx
  · intro i o r j ho hr hj
    obtain ⟨r', hr', _, _, _, h⟩ := at3 i o ho
    rw [hr] at hr'; cases hr'
    have := List.all_eq_true.1 h j hj
    simpa using this

theorem waits_listed {listed : Array Bool} {o : Oper} {j : Nat} (hw : waits o j = true) (h : ∀ e ∈ o.after, Region.binds .any e = true → listed.getD e.on false = true) : listed.getD j false = true := by
  unfold waits at hw
  rw [Array.any_eq_true'] at hw
  obtain ⟨e, he, hx⟩ := hw
  simp only [Bool.and_eq_true, beq_iff_eq] at hx
  have := h e he hx.1
  rwa [hx.2] at this

theorem factsOf_of {σ : Nat → Value} {w : World} : ∀ l : List Nat, (∀ j, j ∈ l → ∃ r, R[j]? = some r ∧ r.fact σ w ∧ ∀ b, r.own σ b → b < w.heap.size ∧ ¬ Bs b) → factsOf Bs R σ w l
  | [], _ => trivial
  | j :: l, h => ⟨h j (by simp), factsOf_of l (fun i hi => h i (by simp [hi]))⟩

theorem walk_drop {l : List Oper} {ops : Array Oper} (hW : Walk P ops Bs wS R l R 0 (fun _ => a0)) (ho : ops = l.toArray) : ∀ k, k ≤ l.length → Walk P ops Bs wS R (l.drop k) (R.drop k) k (fun σ => mixFr ops a0 σ (fun _ => true) k) ∨ R.length < k
  | 0, _ => .inl (by
    rw [List.drop_zero, List.drop_zero]
    exact hW)
  | k + 1, hk => by
    rcases walk_drop hW ho k (by omega) with h | h
    · by_cases hr : k < R.length
      · rw [List.drop_eq_getElem_cons (show k < l.length by omega), List.drop_eq_getElem_cons hr] at h
        refine .inl ?_
        have h2 := h.2
        have e : ∀ σ, (mixFr ops a0 σ (fun _ => true) k).put (l[k]'(by omega)).dst (σ k) = mixFr ops a0 σ (fun _ => true) (k + 1) := fun σ => by
          conv => rhs; unfold mixFr
          rw [if_pos rfl]
          congr 1
          unfold dstOf
          rw [ho]
          simp [show k < l.length by omega]
        simp only [e] at h2
        exact h2
      · exact .inr (by omega)
    · exact .inr (by omega)

theorem walk_at {l : List Oper} (hW : Walk P l.toArray Bs wS R l R 0 (fun _ => a0)) {i : Nat} {o : Oper} {r : Rsc} (ho : l.toArray[i]? = some o) (hr : R[i]? = some r) :
    StepAt P l.toArray Bs wS R i o r (fun σ => mixFr l.toArray a0 σ (fun _ => true) i) := by
  have hi : i < l.length := by simpa using (Array.getElem?_eq_some_iff.1 ho).1
  have hri := (List.getElem?_eq_some_iff.1 hr).1
  rcases walk_drop hW rfl i (by omega) with h | h
  · rw [List.drop_eq_getElem_cons hi, List.drop_eq_getElem_cons hri] at h
    have h1 := h.1
    have e1 : l[i] = o := by simpa [hi] using ho
    have e2 : R[i] = r := by simpa [hri] using hr
    rw [e1, e2] at h1
    exact h1
  · omega

theorem putAll_mix {l : List Oper} {σ : Nat → Value} : ∀ m k, k + m = l.length → putAll (l.drop k) k (mixFr l.toArray a0 σ (fun _ => true) k) σ = mixFr l.toArray a0 σ (fun _ => true) l.length
  | 0, k, h => by
    have : k = l.length := by omega
    subst this
    simp [putAll]
  | m + 1, k, h => by
    rw [List.drop_eq_getElem_cons (show k < l.length by omega)]
    unfold putAll
    rw [← putAll_mix m (k + 1) (by omega)]
    congr 1
    conv => rhs; unfold mixFr
    rw [if_pos rfl]
    congr 1
    unfold dstOf
    simp [show k < l.length by omega]

theorem getD_t {listed : Array Bool} {i k : Nat} : (listed.setIfInBounds i true).getD k false = if k = i ∧ i < listed.size then true else listed.getD k false := by
  by_cases h : k = i
  · subst h
    by_cases hs : k < listed.size
    · simp [hs]
    · simp [hs]
  · rw [if_neg (fun x => h x.1)]
    exact getD_set_ne false (fun e => h e.symm)

/-- Whatever operation comes up: it runs as in the frame of the text. -/
theorem inv_run (hc : Chk ops R ini) {listed : Array Bool} {σ : Nat → Value} {a : Act} {w : World} (hI : Inv ops Bs wS R ini a0 listed σ a w) {i : Nat} {o : Oper} (ho : ops[i]? = some o) (hall : ∀ e ∈ o.after, Region.binds .any e = true → listed.getD e.on false = true) :
    execOp a.eval o = execOp (mixFr ops a0 σ (fun _ => true) i).eval o ∧ Region.wanted o (yielded ops a.tmps) = Region.wanted o (yielded ops (mixFr ops a0 σ (fun _ => true) i).tmps) := by
  have hi := (Array.getElem?_eq_some_iff.1 ho).1
  have key : ∀ d, d ∈ o.looksAt ops → a.tmps[d]? = (mixFr ops a0 σ (fun _ => true) i).tmps[d]? := by
    intro d hd
    have hw : ∀ j, dstOf ops j = some d → listed.getD j false = true ∧ j < i := fun j hj => by
      have := hc.looks i o j d ho hj hd
      refine ⟨waits_listed this hall, ?_⟩
      unfold waits at this
      rw [Array.any_eq_true'] at this
      obtain ⟨e, he, hx⟩ := this
      simp only [Bool.and_eq_true, beq_iff_eq] at hx
      have := hc.low i o ho e he hx.1
      omega
    rw [hI.fr, mixFr_look, mixFr_look, ← look_cut (fun k hk => (hw k hk).2) ops.size (by omega)]
    exact look_same _ (fun k _ hk => (hw k hk).1)
  constructor
  · refine execOp_congr o (fun cs b => Region.noSelect_spec hc.nosel i o cs b ho) (fun x hx => ?_)
    cases x with
    | tmp t =>
      have := key t (List.mem_append_left _ (List.mem_filterMap.2 ⟨.tmp t, by simpa using hx, rfl⟩))
      simp only [Act.eval, Array.getD_eq_getD_getElem?, this]
    | _ => rfl
  · unfold Region.wanted
    cases hg : o.guard with
    | none => rfl
    | some gw =>
      obtain ⟨g, want⟩ := gw
      have hy : yielded ops a.tmps g = yielded ops (mixFr ops a0 σ (fun _ => true) i).tmps g := by
        unfold yielded
        cases ht : (ops[g]?).bind (·.dst) with
        | none => rfl
        | some t =>
          have := key t (by simp [Oper.looksAt, hg, ht])
          simp [this]
      simp only [hy]

/-- The operation has run: the invariant holds with it listed. -/
theorem inv_step (hc : Chk ops R ini) (hok : ∀ (k : Nat) (r : Rsc), R[k]? = some r → r.Ok Bs) (hBs : ∀ b, Bs b → b < wS.heap.size) {listed : Array Bool} {σ : Nat → Value} {a : Act} {w : World} (hI : Inv ops Bs wS R ini a0 listed σ a w)
    {i : Nat} {o : Oper} {r : Rsc} (ho : ops[i]? = some o) (hr : R[i]? = some r) (hun : listed.getD i true = false) (hall : ∀ e ∈ o.after, Region.binds .any e = true → listed.getD e.on false = true) {v : Value} {w' : World} (hL : Left R r i σ w v w') :
    Inv ops Bs wS R ini a0 (listed.setIfInBounds i true) (upd σ i v) (a.put o.dst v) w' := by
  have hi := (Array.getElem?_eq_some_iff.1 ho).1
  have hil : i < listed.size := by rw [hI.sz]; exact hi
  have hif : listed.getD i false = false := by
    rw [Array.getD_eq_getD_getElem?, Array.getElem?_eq_getElem hil] at hun ⊢
    exact hun
  have hdst : dstOf ops i = o.dst := by unfold dstOf; rw [ho]; rfl
  -- those that are taken are held
  have htk : ∀ j, j ∈ r.tk ++ r.nd → Held ops R ini listed j := fun j hj => by
    obtain ⟨h1, h2⟩ := hc.wants i o r j ho hr hj
    refine ⟨?_, fun t rt ht hlt hl hm => ?_⟩
    · rcases h1 with h1 | h1
      · have hlj := waits_listed h1 hall
        refine .inr ⟨?_, hlj⟩
        rw [← hI.sz]
        rcases Nat.lt_or_ge j listed.size with h | h
        · exact h
        · rw [Array.getD_eq_getD_getElem?, Array.getElem?_eq_none h] at hlj; cases hlj
      · exact .inl h1
    · have hne : t ≠ i := fun e => by subst e; rw [hif] at hl; cases hl
      have hw := h2 t rt ht hlt hne hm
      unfold waitsAt at hw
      split at hw
      · rename_i ot hot
        have := waits_listed hw (hI.closed t ot hl hot)
        rw [hif] at this; cases this
      · cases hw
  -- who is held behind it
  have hold : ∀ k, k ≠ i → Held ops R ini (listed.setIfInBounds i true) k → Held ops R ini listed k ∧ k ∉ r.tk := fun k hk h => by
    refine ⟨⟨?_, fun t rt ht hlt hl => h.2 t rt ht hlt (getD_set_true hl)⟩, h.2 i r hr hi (by rw [getD_t, if_pos ⟨rfl, hil⟩])⟩
    rcases h.1 with h1 | h1
    · exact .inl h1
    · refine .inr ⟨h1.1, ?_⟩
      have := h1.2
      rw [getD_t, if_neg (fun x => hk x.1)] at this
      exact this
  -- the values that a held fact hangs on are there
  have hdm : ∀ k rk, R[k]? = some rk → k ≠ i → Held ops R ini listed k → ∀ j, j ∈ rk.dm → upd σ i v j = σ j ∧ σ j = upd σ i v j := fun k rk hrk hki hh j hj => by
    have hne : j ≠ i := by
      intro e
      rcases hh.1 with h1 | h1
      · obtain ⟨_, r', hr', hd⟩ := hc.inis k h1
        rw [hrk] at hr'; cases hr'
        rw [hd] at hj; cases hj
      · obtain ⟨ok, rk', hok', hrk'⟩ := hc.has k h1.1
        rw [hrk] at hrk'; cases hrk'
        rcases hc.dm k ok rk j hok' hrk hj with h2 | h2
        · omega
        · have := waits_listed h2 (hI.closed k ok h1.2 hok')
          rw [e, hif] at this; cases this
    exact ⟨upd_ne σ v hne, (upd_ne σ v hne).symm⟩
  have hsz := hL.keep.size
  have hw0 := hI.keep.size
  -- an old fact's blocks are as they were
  have hblk : ∀ k rk, R[k]? = some rk → k ≠ i → Held ops R ini (listed.setIfInBounds i true) k → Keep (fun b => Bs b ∨ rk.own σ b) w w' := fun k rk hrk hki hh => by
    obtain ⟨h1, h2⟩ := hold k hki hh
    refine hL.keep.mono (fun b hb => ?_)
    rcases hb with hb | hb
    · refine ⟨Nat.lt_of_lt_of_le (hBs b hb) hw0, fun j rj hj hrj hob => ?_⟩
      exact ((hI.held j rj hrj (htk j (List.mem_append_left _ hj))).2 b hob).2 hb
    · refine ⟨((hI.held k rk hrk h1).2 b hb).1, fun j rj hj hrj hob => ?_⟩
      exact hI.apart j k rj rk hrj hrk (htk j (List.mem_append_left _ hj)) h1 (fun e => h2 (e ▸ hj)) b hob hb
  have howni : ∀ b, r.own (upd σ i v) b → b < w'.heap.size ∧ ¬ Bs b := fun b hb => by
    rcases hL.own b hb with ⟨j, rj, hj, hrj, hob⟩ | ⟨h1, h2⟩
    · have := (hI.held j rj hrj (htk j (List.mem_append_left _ hj))).2 b hob
      exact ⟨Nat.lt_of_lt_of_le this.1 hsz, this.2⟩
    · exact ⟨h2, fun hb' => by have := hBs b hb'; omega⟩
  have hownk : ∀ k rk, R[k]? = some rk → k ≠ i → Held ops R ini (listed.setIfInBounds i true) k → ∀ b, rk.own (upd σ i v) b → rk.own σ b := fun k rk hrk hki hh b hb =>
    ((hok k rk hrk).ext σ (upd σ i v) (fun j hj => (hdm k rk hrk hki (hold k hki hh).1 j hj).1)).2 b hb
  have hia : ∀ k rk, R[k]? = some rk → k ≠ i → Held ops R ini (listed.setIfInBounds i true) k → ∀ b, r.own (upd σ i v) b → ¬ rk.own (upd σ i v) b := fun k rk hrk hki hh b hb hb' => by
    have hb2 := hownk k rk hrk hki hh b hb'
    obtain ⟨h1, h2⟩ := hold k hki hh
    rcases hL.own b hb with ⟨j, rj, hj, hrj, hob⟩ | ⟨h3, h4⟩
    · exact hI.apart j k rj rk hrj hrk (htk j (List.mem_append_left _ hj)) h1 (fun e => h2 (e ▸ hj)) b hob hb2
    · have := ((hI.held k rk hrk h1).2 b hb2).1
      omega
  refine ⟨by simp [hI.sz], ?_, ?_, ?_, ?_, ?_⟩
  · rw [← hdst, hI.fr]
    refine (mixFr_add (fun k hk d hd => hc.dst i k hi hk d hd) hif (by rw [getD_t, if_pos ⟨rfl, hil⟩]) (fun k hk => by rw [getD_t, if_neg (fun x => hk x.1)]) _ hi).symm
  · exact hI.keep.trans (hL.keep.mono (fun b hb => ⟨Nat.lt_of_lt_of_le (hBs b hb) hw0, fun j rj hj hrj hob => ((hI.held j rj hrj (htk j (List.mem_append_left _ hj))).2 b hob).2 hb⟩))
  · intro t ot hl hot e he hb
    by_cases hti : t = i
    · subst hti
      rw [ho] at hot; cases hot
      exact getD_set_true (hall e he hb)
    · rw [getD_t, if_neg (fun x => hti x.1)] at hl
      exact getD_set_true (hI.closed t ot hl hot e he hb)
  · intro k rk hrk hh
    by_cases hki : k = i
    · subst hki
      rw [hr] at hrk; cases hrk
      exact ⟨hL.fact, howni⟩
    · have h0 := hI.held k rk hrk (hold k hki hh).1
      refine ⟨((hok k rk hrk).ext σ (upd σ i v) (fun j hj => (hdm k rk hrk hki (hold k hki hh).1 j hj).1)).1 _ ((hok k rk hrk).loc σ w w' h0.1 (hblk k rk hrk hki hh)), fun b hb => ?_⟩
      have := h0.2 b (hownk k rk hrk hki hh b hb)
      exact ⟨Nat.lt_of_lt_of_le this.1 hsz, this.2⟩
  · intro j k rj rk hrj hrk hj hk hne b hb hb'
    by_cases hji : j = i
    · subst hji
      rw [hr] at hrj; cases hrj
      exact hia k rk hrk (fun e => hne e.symm) hk b hb hb'
    · by_cases hki : k = i
      · subst hki
        rw [hr] at hrk; cases hrk
        exact hia j rj hrj hji hj b hb' hb
      · exact hI.apart j k rj rk hrj hrk (hold j hji hj).1 (hold k hki hk).1 hne b (hownk j rj hrj hji hj b hb) (hownk k rk hrk hki hk b hb')

theorem rel_wp {o : Oper} {a : Act} {w : World} {K : Act → World → Prop} {post : Value → World → Prop} (h : relUpon P post ((execOp a.eval o).run P w)) (hk : ∀ v w', post v w' → K (a.put o.dst v) w') : o.wp P a w K Q := by
  unfold Oper.wp
  generalize (execOp a.eval o).run P w = res at *
  cases res with
  | ok n w' =>
    cases n <;> simp only [relUpon] at h <;> simp only [Oper.upon]
    case value u => exact hk _ _ h
    case skip => exact hk _ _ h
    case enter f args => exact h.mono fun e w'' ⟨v, he, hp⟩ => by subst he; exact hk _ _ hp
    case row row args => exact h.mono fun v w'' hp => hk _ _ hp
  | halt x w' => simp only [relUpon] at h

theorem count_set {listed : Array Bool} {i : Nat} (hi : i < listed.size) (h : listed[i] = false) : (listed.setIfInBounds i true).toList.count false + 1 = listed.toList.count false := by
  have hl : i < listed.toList.length := by simpa using hi
  have hx : listed.toList[i] = false := by simpa using h
  have h1 : (listed.setIfInBounds i true).toList = listed.toList.set i true := by simp
  have h2 : 0 < listed.toList.count false := List.count_pos_iff.2 (by rw [← hx]; exact List.getElem_mem hl)
  rw [h1, List.count_set hl, hx]
  rw [if_pos (show ((false : Bool) == false) = true from rfl), if_neg (show ¬ ((true : Bool) == false) = true from Bool.false_ne_true)]
  omega

theorem any_of_inv (hc : Chk ops R ini) (hok : ∀ (k : Nat) (r : Rsc), R[k]? = some r → r.Ok Bs) (hBs : ∀ b, Bs b → b < wS.heap.size)
    (hS : ∀ (i : Nat) (o : Oper) (r : Rsc), ops[i]? = some o → R[i]? = some r → StepAt P ops Bs wS R i o r (fun σ => mixFr ops a0 σ (fun _ => true) i))
    (hE : ∀ (listed : Array Bool) (σ : Nat → Value) (a : Act) (w : World), Inv ops Bs wS R ini a0 listed σ a w → (∀ k, k < ops.size → listed.getD k false = true) → Q .normal a w) :
    ∀ (fuel : Nat) (listed : Array Bool) (σ : Nat → Value) (a : Act) (w : World), Inv ops Bs wS R ini a0 listed σ a w → listed.toList.count false ≤ fuel → wpAny P .any ops Q fuel listed a w := by
  have hend : ∀ (listed : Array Bool) (σ : Nat → Value) (a : Act) (w : World), Inv ops Bs wS R ini a0 listed σ a w → Region.ready .any ops listed = [] → Q .normal a w := by
    intro listed σ a w hI hr
    refine hE listed σ a w hI ?_
    intro k
    induction k using Nat.strongRecOn with
    | ind k ih =>
      intro hk
      obtain ⟨o, r, ho, _⟩ := hc.has k hk
      have hkl : k < listed.size := by rw [hI.sz]; exact hk
      cases hx : listed.getD k false with
      | true => rfl
      | false =>
        have : k ∈ Region.ready .any ops listed := mem_ready.2 ⟨by
          rw [Array.getD_eq_getD_getElem?, Array.getElem?_eq_getElem hkl] at hx ⊢
          exact hx, o, ho, fun e he hb => ih e.on (hc.low k o ho e he hb) (by have := hc.low k o ho e he hb; omega)⟩
        rw [hr] at this; cases this
  intro fuel
  induction fuel with
  | zero =>
    intro listed σ a w hI hn
    have hr : Region.ready .any ops listed = [] := by
      cases hx : Region.ready .any ops listed with
      | nil => rfl
      | cons i l =>
        have hm := (mem_ready.1 (show i ∈ Region.ready .any ops listed by rw [hx]; simp)).1
        rcases Nat.lt_or_ge i listed.size with h | h
        · have hf : listed[i] = false := by
            rw [Array.getD_eq_getD_getElem?, Array.getElem?_eq_getElem h] at hm
            exact hm
          have := count_set h hf
          omega
        · rw [Array.getD_eq_getD_getElem?, Array.getElem?_eq_none h] at hm; cases hm
    exact ⟨hr, hend listed σ a w hI hr⟩
  | succ fuel ih =>
    intro listed σ a w hI hn
    refine ⟨hend listed σ a w hI, fun i hi => ?_⟩
    obtain ⟨hun, o, ho, hall⟩ := mem_ready.1 hi
    have hlt := (Array.getElem?_eq_some_iff.1 ho).1
    obtain ⟨_, r, _, hr⟩ := hc.has i hlt
    have hil : i < listed.size := by rw [hI.sz]; exact hlt
    have hf : listed[i] = false := by
      rw [Array.getD_eq_getD_getElem?, Array.getElem?_eq_getElem hil] at hun
      exact hun
    have hcnt := count_set hil hf
    obtain ⟨e1, e2⟩ := inv_run hc hI ho hall
    have hif : listed.getD i false = false := by
      rw [Array.getD_eq_getD_getElem?, Array.getElem?_eq_getElem hil] at hun ⊢
      exact hun
    have hfacts : factsOf Bs R σ w (r.tk ++ r.nd) := factsOf_of _ (fun j hj => by
      obtain ⟨h1, h2⟩ := hc.wants i o r j ho hr hj
      have hheld : Held ops R ini listed j := by
        refine ⟨?_, fun t rt ht hlt hl hm => ?_⟩
        · rcases h1 with h1 | h1
          · have hlj := waits_listed h1 hall
            refine .inr ⟨?_, hlj⟩
            rw [← hI.sz]
            rcases Nat.lt_or_ge j listed.size with h | h
            · exact h
            · rw [Array.getD_eq_getD_getElem?, Array.getElem?_eq_none h] at hlj; cases hlj
          · exact .inl h1
        · have hne : t ≠ i := fun e => by subst e; rw [hif] at hl; cases hl
          have hw := h2 t rt ht hlt hne hm
          unfold waitsAt at hw
          split at hw
          · rename_i ot hot
            have := waits_listed hw (hI.closed t ot hl hot)
            rw [hif] at this; cases this
          · cases hw
      have hR : ∃ rj, R[j]? = some rj := by
        rcases hheld.1 with h | h
        · obtain ⟨_, rj, h, _⟩ := hc.inis j h
          exact ⟨rj, h⟩
        · obtain ⟨_, rj, _, h⟩ := hc.has j h.1
          exact ⟨rj, h⟩
      obtain ⟨rj, hrj⟩ := hR
      exact ⟨rj, hrj, hI.held j rj hrj hheld⟩)
    have hst := hS i o r ho hr σ w hI.keep hfacts
    unfold wpOp
    simp only [ho]
    rw [e2]
    dsimp only at hst
    split
    · rename_i hw
      rw [if_pos hw, ← e1] at hst
      exact .inl (rel_wp hst (fun v w' hL => ih _ _ _ _ (inv_step hc hok hBs hI ho hr hun hall hL) (by omega)))
    · rename_i hw
      rw [if_neg hw] at hst
      exact ih _ _ _ _ (inv_step hc hok hBs hI ho hr hun hall hst) (by omega)

def finB (ops : Array Oper) (R : List Rsc) (ini fin : List Nat) : Bool :=
  fin.all fun k => (decide (k < ops.size) || ini.contains k) && (List.range ops.size).all fun t => !(((R[t]?).map (·.tk)).getD []).contains k

/-- ONE WALK IN THE ORDER OF THE TEXT SERVES EVERY ORDER. -/
theorem wp_region_rel {id : Nat} {l : List Oper} {a : Act} {w : World} (R : List Rsc) (ini fin : List Nat) (Bs : Nat → Prop)
    (hm : P.follows .mixedOrders = true) (hchk : check l.toArray R ini = true) (hfin : finB l.toArray R ini fin = true)
    (hok : ∀ r, r ∈ R → r.Ok Bs) (hBs : ∀ b, Bs b → b < w.heap.size)
    (hini : ∀ (k : Nat) (r : Rsc), k ∈ ini → R[k]? = some r → r.fact (fun _ => undef) { w with drawn := w.drawn + 1 } ∧ ∀ b, r.own (fun _ => undef) b → b < w.heap.size ∧ ¬ Bs b)
    (hap : ∀ (j k : Nat) (rj rk : Rsc), j ∈ ini → k ∈ ini → j ≠ k → R[j]? = some rj → R[k]? = some rk → ∀ b, rj.own (fun _ => undef) b → ¬ rk.own (fun _ => undef) b)
    (hW : Walk P l.toArray Bs { w with drawn := w.drawn + 1 } R l R 0 (fun _ => a))
    (hE : ∀ (σ : Nat → Value) (w' : World), Keep Bs { w with drawn := w.drawn + 1 } w' → factsOf Bs R σ w' fin →
      (∀ (j k : Nat) (rj rk : Rsc), j ∈ fin → k ∈ fin → j ≠ k → R[j]? = some rj → R[k]? = some rk → ∀ b, rj.own σ b → ¬ rk.own σ b) → Q .normal (putAll l 0 a σ) w') :
    (Code.region id l.toArray true).wp P Q a w := by
  have hc := chk_of hchk
  have hok' : ∀ (k : Nat) (r : Rsc), R[k]? = some r → r.Ok Bs := fun k r h => hok r (List.mem_of_getElem? h)
  have hno : ∀ k, (Array.replicate l.toArray.size false).getD k false = false := fun k => by
    rw [Array.getD_eq_getD_getElem?, Array.getElem?_replicate]
    split <;> rfl
  have hHeld : ∀ k, Held l.toArray R ini (Array.replicate l.toArray.size false) k → k ∈ ini := fun k h => by
    rcases h.1 with h | h
    · exact h
    · rw [hno] at h; cases h.2
  refine wp_region_any hm (any_of_inv (R := R) (ini := ini) (Bs := Bs) (wS := { w with drawn := w.drawn + 1 }) (a0 := a) hc hok' hBs (fun i o r ho hr => walk_at hW ho hr) ?_ _ _ (fun _ => undef) _ _ ?_ ?_)
  · intro listed σ a' w' hI hall
    have hheld : ∀ k, k ∈ fin → Held l.toArray R ini listed k ∧ ∃ r, R[k]? = some r := fun k hk => by
      unfold finB at hfin
      have := List.all_eq_true.1 hfin k hk
      simp only [Bool.and_eq_true, Bool.or_eq_true, decide_eq_true_eq, List.all_eq_true, List.mem_range, Bool.not_eq_true'] at this
      refine ⟨⟨?_, fun t r ht hlt _ hmem => ?_⟩, ?_⟩
      · rcases this.1 with h | h
        · exact .inr ⟨h, hall k h⟩
        · exact .inl (List.contains_iff_mem.1 h)
      · have h2 := this.2 t hlt
        rw [ht] at h2
        simp only [Option.map_some, Option.getD_some] at h2
        rw [List.contains_iff_mem.2 hmem] at h2; cases h2
      · rcases this.1 with h | h
        · obtain ⟨_, r, _, h⟩ := hc.has k h
          exact ⟨r, h⟩
        · obtain ⟨_, r, h, _⟩ := hc.inis k (List.contains_iff_mem.1 h)
          exact ⟨r, h⟩
    have hfr : a' = putAll l 0 a σ := by
      rw [hI.fr]
      have := putAll_mix (l := l) (a0 := a) (σ := σ) l.length 0 (by omega)
      rw [List.drop_zero] at this
      refine Eq.trans ?_ this.symm
      rw [show l.toArray.size = l.length from by simp]
      exact mixFr_low _ (fun k hk => ⟨hall k (by simpa using hk), rfl⟩)
    rw [hfr]
    refine hE σ w' hI.keep (factsOf_of _ (fun j hj => ?_)) (fun j k rj rk hj hk hne hrj hrk b => ?_)
    · obtain ⟨hh, r, hr⟩ := hheld j hj
      exact ⟨r, hr, hI.held j r hr hh⟩
    · exact hI.apart j k rj rk hrj hrk (hheld j hj).1 (hheld k hk).1 hne b
  · refine ⟨by simp, ?_, Keep.refl _ _, ?_, ?_, ?_⟩
    · have : ∀ n, mixFr l.toArray a (fun _ => undef) (fun k => (Array.replicate l.toArray.size false).getD k false) n = a := by
        intro n
        induction n with
        | zero => rfl
        | succ n ih => unfold mixFr; rw [hno, if_neg Bool.false_ne_true]; exact ih
      exact (this _).symm
    · intro t o ht
      rw [hno] at ht; cases ht
    · intro k r hr hh
      exact hini k r (hHeld k hh) hr
    · intro j k rj rk hrj hrk hj hk hne b hb
      exact hap j k rj rk (hHeld j hj) (hHeld k hk) hne hrj hrk b hb
  · refine Nat.le_trans (List.count_le_length) ?_
    simp
end

end Rel
end Go.Proofs.YtbeehlhcckndcaaDoor

namespace Go.Proofs.YtbeehlhcckndcaaDoor
open Go.RowKit Go.PlainAid Go.Proofs.YtbeehlhcckndcaaDoor.Bt Go.Sort
set_option linter.unusedVariables false
set_option maxRecDepth 20000
theorem keep_grown {B : Nat → Prop} {w w1 w2 : World} {r : Option Nat} (h : Rel.Keep B w w1) (hg : w1.grownBy w2 r) (hB : ∀ b, B b → b < w1.heap.size ∧ some b ≠ r) : Rel.Keep B w w2 :=
  ⟨hg.os.trans h.os, hg.tape.trans h.tape, hg.output.trans h.output, Nat.le_trans h.size hg.size, fun b hb => (hg.block b (hB b hb).1 (hB b hb).2).trans (h.block b hb)⟩
set_option maxHeartbeats 4000000 in
theorem markRoleS_any (a : Option Addr) (n cap B m0 : Nat) (L : List RoX) (w : World) (h : OwnRo w B (.slice a n cap) L) (h0 : 0 < m0) (hm : m0 + roN L ≤ 100000000000) (hn9 : n ≤ 1048576) :
    Calls Tryd.prog 42 #[.slice a n cap, .int .i64 (m0 : Int)] w fun e w' => e = .returned (.int .i64 ((m0 + roN L : Nat) : Int)) ∧ OwnRo w' B (.slice a n cap) (mkRoL m0 L) ∧ Rel.Keep (fun b => b < w.heap.size ∧ ¬ roBk (.slice a n cap) L b) w w' := by
  have H : Hid (OwnRo w B (.slice a n cap) (mixRo m0 L 0)) := by show OwnRo _ _ _ _; rw [mix_zero]; exact h
  have hn := h.row.len
  clear h
  go_enter Tryd.func42, Tryd.ntmps42
  go_wp2
  go_loopw [1, 5] (fun m i wr => ∃ (k M : Nat), k ≤ n ∧ i = .int .i64 k ∧ m = .int .i64 (M : Int) ∧ Hid (M = m0 + roN (L.take k)) ∧ Hid (OwnRo wr B (.slice a n cap) (mixRo m0 L k) ∧ (∀ b, roBk (.slice a n cap) (mixRo m0 L k) b ↔ roBk (.slice a n cap) L b) ∧ Rel.Keep (fun b => b < w.heap.size ∧ ¬ roBk (.slice a n cap) L b) w wr)) (fun _ i _ => n - (intOf i).toNat)
  case atStart => exact ⟨0, m0, Nat.zero_le _, rfl, rfl, by show m0 = _; simp [roN], H.out, fun b => by rw [mix_zero], Rel.Keep.refl _ _⟩
  case round =>
    clear H
    obtain ⟨k, M, hk, rfl, rfl, hM, X⟩ := hrel
    by_cases hlt : k < n
    · have hkl : k < L.length := by omega
      obtain ⟨x, hxL⟩ := at_of (xs := L) rfl hkl
      have hx : (mixRo m0 L k)[k]? = some x := mix_at hxL
      obtain ⟨g, rfl, hBg, hg, -⟩ := X.out.1.row.form (by rw [mix_len m0 L k (by omega)]; omega)
      have hltz : (k : Int) < (n : Int) := by omega
      have hle := roN_le L (k + 1)
      have hst := roN_step hxL
      have hMz : (M : Int) + 6 * (x.r.rs.length : Int) + 4 ≤ 200000000000 := by have := hM.out; omega
      have hMn : M + 1 + 6 * x.r.rs.length ≤ 100000000000 := by have := hM.out; omega
      have hM0 : 0 < M := by have := hM.out; omega
      have HST : Hid ((mixRo m0 L k).set k (mkRo M x) = mixRo m0 L (k + 1)) := by show _ = _; rw [hM.out]; exact mix_step hxL
      have HMN : Hid (M + (4 + 6 * x.r.rs.length) = m0 + roN (L.take (k + 1))) := by show _ = _; rw [hst, hM.out]; omega
      clear hle hst hxL
      generalize hLk : mixRo m0 L k = Lk at X hx HST
      clear hLk
      have HT : Hid (∀ w, Calls Tryd.prog 47 #[.int .i64 (M : Int)] w fun e w' => e = .returned (.string (mtS M)) ∧ Grw w w') := fun w => markText_any M w (by omega) (by omega)
      go_wp2_with fail
      refine (HT.out _).mono ?_
      rintro e wt ⟨rfl, gt⟩
      have ot := X.out.1.now gt.below
      have RB := X.out.2.1
      have KT : Hid (Rel.Keep (fun b => b < w.heap.size ∧ ¬ roBk (.slice (some ⟨g, 0, none⟩) n cap) L b) w wt) := keep_grown X.out.2.2 (gt.grown none) (fun b hb => ⟨Nat.lt_of_lt_of_le hb.1 X.out.2.2.size, by simp⟩)
      clear HT gt X
      obtain ⟨c0, z0⟩ := ot.row.cell roG_len (j := 0) hx rfl
      replace c0 : wt.cell? ⟨g, k * 5, none⟩ = some (.string x.r.nm) := c0
      replace z0 : wt.frozen? ⟨g, k * 5, none⟩ = false := z0
      have s0 := ot.set1 (j := 0) { x with r := { x.r with nm := mtS M } } (u := .string (mtS M)) hx (by omega) rfl rfl rfl
      have hx0 : (Lk.set k { x with r := { x.r with nm := mtS M } })[k]? = some { x with r := { x.r with nm := mtS M } } := List.getElem?_set_self (List.getElem?_eq_some_iff.1 hx).1
      have RB0 : ∀ b, roBk (.slice (some ⟨g, 0, none⟩) n cap) (Lk.set k { x with r := { x.r with nm := mtS M } }) b ↔ roBk (.slice (some ⟨g, 0, none⟩) n cap) L b := fun b => (roBk_set (y := { x with r := { x.r with nm := mtS M } }) hx rfl b).trans (RB b)
      have Y0 : ∀ W1, W1 = wt.setCell ⟨g, k * 5, none⟩ (.string (mtS M)) → OwnRo W1 B (.slice (some ⟨g, 0, none⟩) n cap) (Lk.set k { x with r := { x.r with nm := mtS M } }) ∧ Rel.Keep (fun b => b < w.heap.size ∧ ¬ roBk (.slice (some ⟨g, 0, none⟩) n cap) L b) w W1 := by
        intro W1 hW1
        subst hW1
        exact ⟨s0.1, keep_grown KT.out s0.2 (fun b hb => ⟨Nat.lt_of_lt_of_le hb.1 KT.out.size, fun e => hb.2 (.inl e.symm)⟩)⟩
      have Z0 : Hid (OwnRo (wt.setCell ⟨g, k * 5, none⟩ (.string (mtS M))) B (.slice (some ⟨g, 0, none⟩) n cap) (Lk.set k { x with r := { x.r with nm := mtS M } }) ∧ Rel.Keep (fun b => b < w.heap.size ∧ ¬ roBk (.slice (some ⟨g, 0, none⟩) n cap) L b) w (wt.setCell ⟨g, k * 5, none⟩ (.string (mtS M)))) := Y0 _ rfl
      obtain ⟨c1, z1⟩ := ot.row.cell roG_len (j := 1) hx rfl
      have HR : Hid (∀ W, OwnRo W B (.slice (some ⟨g, 0, none⟩) n cap) (Lk.set k { x with r := { x.r with nm := mtS M } }) → Calls Tryd.prog 65 #[.slice x.ra x.r.rs.length x.rc, .int .i64 ((M : Int) + 1)] W fun e w' => e = .returned (.int .i64 ((M : Int) + 1 + 6 * (x.r.rs.length : Int))) ∧ OwnS rv 6 64 w' B x.sl (mkRuleL (M + 1) x.r.rs.length) ∧ W.grownBy w' x.sl.ownBlock) := fun W hW => by
        have hr0 := hW.rules _ (List.mem_of_getElem? hx0)
        have := markRuleS_any x.ra x.r.rs.length x.rc B (M + 1) x.r.rs W hr0 (by omega) hMn
        rw [show ((M + 1 : Nat) : Int) = (M : Int) + 1 by omega, show ((M + 1 + 6 * x.r.rs.length : Nat) : Int) = (M : Int) + 1 + 6 * (x.r.rs.length : Int) by omega] at this
        exact this
      clear Y0 s0 ot KT
      go_wp2_with fail
      refine (HR.out _ Z0.out.1).mono ?_
      rintro e w2 ⟨rfl, o2, g2⟩
      have o3 := Z0.out.1.setR (mkRuleL (M + 1) x.r.rs.length) hx0 (mkRuleL_len _ _) g2 o2
      rw [List.set_set] at o3
      have K2 : Hid (Rel.Keep (fun b => b < w.heap.size ∧ ¬ roBk (.slice (some ⟨g, 0, none⟩) n cap) L b) w w2) := keep_grown Z0.out.2 g2 (fun b hb => ⟨Nat.lt_of_lt_of_le hb.1 Z0.out.2.size, fun e => hb.2 ((RB0 b).1 (.inr ⟨_, List.mem_of_getElem? hx0, e.symm⟩))⟩)
      have hx1 : (Lk.set k { x with r := { x.r with nm := mtS M, rs := mkRuleL (M + 1) x.r.rs.length } })[k]? = some { x with r := { x.r with nm := mtS M, rs := mkRuleL (M + 1) x.r.rs.length } } := List.getElem?_set_self (List.getElem?_eq_some_iff.1 hx).1
      have HXX : Hid (Lk[k]? = some x) := hx
      clear HR Z0 g2 o2 c0 z0 c1 z1 hx0 RB0 hx
      obtain ⟨K1, hK1⟩ : ∃ K1, (M : Int) + 1 + 6 * (x.r.rs.length : Int) = K1 := ⟨_, rfl⟩
      have hK1z : K1 ≤ 300000000000 := by omega
      have hK10 : 0 ≤ K1 := by omega
      have HK1 : Hid ((M : Int) + 1 + 6 * (x.r.rs.length : Int) = K1) := hK1
      rw [hK1]
      clear hK1
      obtain ⟨c2, z2⟩ := o3.row.cell roG_len (j := 2) hx1 rfl
      obtain ⟨c3, z3⟩ := o3.row.cell roG_len (j := 3) hx1 rfl
      obtain ⟨c4, z4⟩ := o3.row.cell roG_len (j := 4) hx1 rfl
      have s2 := o3.set1 (j := 2) { x with r := ⟨mtS M, mkRuleL (M + 1) x.r.rs.length, K1, x.r.m, x.r.i⟩ } (u := .int .i64 K1) hx1 (by omega) rfl rfl rfl
      rw [List.set_set] at s2
      have hx2 : (Lk.set k { x with r := ⟨mtS M, mkRuleL (M + 1) x.r.rs.length, K1, x.r.m, x.r.i⟩ })[k]? = some { x with r := ⟨mtS M, mkRuleL (M + 1) x.r.rs.length, K1, x.r.m, x.r.i⟩ } := List.getElem?_set_self (List.getElem?_eq_some_iff.1 HXX.out).1
      have s3 := s2.1.set1 (j := 3) { x with r := ⟨mtS M, mkRuleL (M + 1) x.r.rs.length, K1, K1 + 1, x.r.i⟩ } (u := .int .i64 (K1 + 1)) hx2 (by omega) rfl rfl rfl
      rw [List.set_set] at s3
      have hx3 : (Lk.set k { x with r := ⟨mtS M, mkRuleL (M + 1) x.r.rs.length, K1, K1 + 1, x.r.i⟩ })[k]? = some { x with r := ⟨mtS M, mkRuleL (M + 1) x.r.rs.length, K1, K1 + 1, x.r.i⟩ } := List.getElem?_set_self (List.getElem?_eq_some_iff.1 HXX.out).1
      have s4 := s3.1.set1 (j := 4) { x with r := ⟨mtS M, mkRuleL (M + 1) x.r.rs.length, K1, K1 + 1, K1 + 1 + 1⟩ } (u := .int .i64 (K1 + 1 + 1)) hx3 (by omega) rfl rfl rfl
      rw [List.set_set] at s4
      have e4 : ({ x with r := ⟨mtS M, mkRuleL (M + 1) x.r.rs.length, K1, K1 + 1, K1 + 1 + 1⟩ } : RoX) = mkRo M x := by unfold mkRo; rw [HK1.out]
      rw [e4] at s4
      have Y4 : ∀ W1, W1 = ((w2.setCell ⟨g, k * 5 + 2, none⟩ (.int .i64 K1)).setCell ⟨g, k * 5 + 3, none⟩ (.int .i64 (K1 + 1))).setCell ⟨g, k * 5 + 4, none⟩ (.int .i64 (K1 + 1 + 1)) → OwnRo W1 B (.slice (some ⟨g, 0, none⟩) n cap) (mixRo m0 L (k + 1)) ∧ (∀ b, roBk (.slice (some ⟨g, 0, none⟩) n cap) (mixRo m0 L (k + 1)) b ↔ roBk (.slice (some ⟨g, 0, none⟩) n cap) L b) ∧ Rel.Keep (fun b => b < w.heap.size ∧ ¬ roBk (.slice (some ⟨g, 0, none⟩) n cap) L b) w W1 := by
        intro W1 hW1
        subst hW1
        rw [HST.out] at s4
        refine ⟨s4.1, fun b => ?_, keep_grown K2.out (grown_tr (grown_tr s2.2 s3.2) s4.2) (fun b hb => ⟨Nat.lt_of_lt_of_le hb.1 K2.out.size, fun e => hb.2 (.inl e.symm)⟩)⟩
        rw [← HST.out]
        exact (roBk_set HXX.out (mkRo_sl M x) b).trans (RB b)
      have Z4 : Hid (OwnRo (((w2.setCell ⟨g, k * 5 + 2, none⟩ (.int .i64 K1)).setCell ⟨g, k * 5 + 3, none⟩ (.int .i64 (K1 + 1))).setCell ⟨g, k * 5 + 4, none⟩ (.int .i64 (K1 + 1 + 1))) B (.slice (some ⟨g, 0, none⟩) n cap) (mixRo m0 L (k + 1)) ∧ (∀ b, roBk (.slice (some ⟨g, 0, none⟩) n cap) (mixRo m0 L (k + 1)) b ↔ roBk (.slice (some ⟨g, 0, none⟩) n cap) L b) ∧ Rel.Keep (fun b => b < w.heap.size ∧ ¬ roBk (.slice (some ⟨g, 0, none⟩) n cap) L b) w (((w2.setCell ⟨g, k * 5 + 2, none⟩ (.int .i64 K1)).setCell ⟨g, k * 5 + 3, none⟩ (.int .i64 (K1 + 1))).setCell ⟨g, k * 5 + 4, none⟩ (.int .i64 (K1 + 1 + 1)))) := Y4 _ rfl
      clear Y4 s2 s3 s4 e4 hx1 hx2 hx3 o3 K2 RB HXX HST
      go_wp2
      go_roundw
      case rel => exact ⟨k + 1, M + (4 + 6 * x.r.rs.length), by omega, by go_num, by rw [show ((M + (4 + 6 * x.r.rs.length) : Nat) : Int) = K1 + 1 + 1 + 1 by have := HK1.out; omega], HMN, Z4⟩
      case measure => simp [intOf]; omega
    · obtain rfl : k = n := by omega
      have hM2 := hM.out
      rw [← hn, List.take_length] at hM2
      subst hM2
      have Z := X.out
      rw [← hn, mix_all] at Z
      go_wp2
      go_ret
      exact ⟨rfl, by rw [← hn]; exact Z.1, by rw [← hn]; exact Z.2.2⟩
end Go.Proofs.YtbeehlhcckndcaaDoor

namespace Go.Proofs.YtbeehlhcckndcaaDoor
open Go.RowKit Go.PlainAid Go.Proofs.YtbeehlhcckndcaaDoor.Bt Go.Sort
set_option linter.unusedVariables false
set_option maxRecDepth 20000
/-- The blocks that a configuration owns. -/
def cfBk (vp vr : Value) (L : List RoX) (k : Nat) : Prop := vp.ownBlock = some k ∨ roBk vr L k
set_option maxHeartbeats 4000000 in
theorem markConfig_any (ip b gt : Int) (gm wm : ByteArray) (rs : Int) (x y : Option Addr) (lenx capx leny capy : Nat) (ps : List PlaceV) (L : List RoX) (B m0 : Nat) (w : World) (h : OwnS pv 4 62 w B (.slice x lenx capx) ps) (h2 : OwnRo w B (.slice y leny capy) L) (h0 : 0 < m0) (hm : m0 + 4 * lenx + roN L ≤ 100000000000) (hy : leny ≤ 1048576) :
    Calls Tryd.prog 18 #[.agg #[.int .i64 ip, .int .i64 b, .int .i64 gt, .string gm, .string wm, .int .i64 rs, .slice x lenx capx, .slice y leny capy], .int .i64 (m0 : Int)] w fun e w' => e = .returned (.int .i64 ((m0 + 4 * lenx + roN L : Nat) : Int)) ∧ OwnS pv 4 62 w' B (.slice x lenx capx) (mkPlaceL m0 lenx) ∧ OwnRo w' B (.slice y leny capy) (mkRoL (m0 + 4 * lenx) L) ∧ Rel.Keep (fun k => k < w.heap.size ∧ ¬ cfBk (.slice x lenx capx) (.slice y leny capy) L k) w w' := by
  have al : Below w.heap.size w (w.alloc (.cells #[.int .i64 ip, .int .i64 b, .int .i64 gt, .string gm, .string wm, .int .i64 rs, .slice x lenx capx, .slice y leny capy] 27)) := (Below.refl _ _).alloc (Nat.le_refl _) _
  have G0 : Hid (Bx (w.alloc (.cells #[.int .i64 ip, .int .i64 b, .int .i64 gt, .string gm, .string wm, .int .i64 rs, .slice x lenx capx, .slice y leny capy] 27)) w.heap.size [.int .i64 ip, .int .i64 b, .int .i64 gt, .string gm, .string wm, .int .i64 rs, .slice x lenx capx, .slice y leny capy]) := Bx.new w #[.int .i64 ip, .int .i64 b, .int .i64 gt, .string gm, .string wm, .int .i64 rs, .slice x lenx capx, .slice y leny capy] 27
  have hp := h.now al
  have hr := h2.now al
  have ap : ∀ k, (Value.slice x lenx capx).ownBlock = some k → ¬ roBk (.slice y leny capy) L k := by
    rintro k hk (hb | ⟨z, hz, hb⟩)
    · exact apB_of h h2.row (by decide) k hk hb
    · exact apB_of h (h2.rules z hz) (by decide) k hk hb
  have HP : Hid (Calls Tryd.prog 41 #[.slice x lenx capx, .int .i64 (m0 : Int)] (w.alloc (.cells #[.int .i64 ip, .int .i64 b, .int .i64 gt, .string gm, .string wm, .int .i64 rs, .slice x lenx capx, .slice y leny capy] 27)) fun e w' => e = .returned (.int .i64 ((m0 + 4 * lenx : Nat) : Int)) ∧ OwnS pv 4 62 w' B (.slice x lenx capx) (mkPlaceL m0 lenx) ∧ (w.alloc (.cells #[.int .i64 ip, .int .i64 b, .int .i64 gt, .string gm, .string wm, .int .i64 rs, .slice x lenx capx, .slice y leny capy] 27)).grownBy w' (Value.slice x lenx capx).ownBlock) := markPlaceS_any x lenx capx B m0 ps _ hp h0 (by omega)
  have HR : Hid (∀ W, OwnRo W B (.slice y leny capy) L → Calls Tryd.prog 42 #[.slice y leny capy, .int .i64 ((m0 + 4 * lenx : Nat) : Int)] W fun e w' => e = .returned (.int .i64 ((m0 + 4 * lenx + roN L : Nat) : Int)) ∧ OwnRo w' B (.slice y leny capy) (mkRoL (m0 + 4 * lenx) L) ∧ Rel.Keep (fun b => b < W.heap.size ∧ ¬ roBk (.slice y leny capy) L b) W w') := fun W hW => markRoleS_any y leny capy B (m0 + 4 * lenx) L W hW (by omega) (by omega) hy
  obtain ⟨pb, hpb⟩ : ∃ pb, (Value.slice x lenx capx).ownBlock = pb := ⟨_, rfl⟩
  have hlt : ∀ k, pb = some k → k < w.heap.size := fun k hk => (h.lt k (by rw [hpb]; exact hk)).2
  generalize hn1 : ((m0 + 4 * lenx : Nat) : Int) = n1 at HP HR
  generalize hn2 : ((m0 + 4 * lenx + roN L : Nat) : Int) = n2 at HR ⊢
  clear hn1 hn2 h h2 h0 hm
  go_enter Tryd.func18, Tryd.ntmps18
  go_wp2_with fail
  refine HP.out.mono ?_
  rintro e w1 ⟨rfl, o1, g1⟩
  have r1 : OwnRo w1 B (.slice y leny capy) L := hr.keepB (fun k hk => g1.block k (hr.lt k hk).2 (fun e => ap k e.symm hk))
  have c7 : w1.cell? ⟨w.heap.size, 7, none⟩ = some (.slice y leny capy) := by
    have h7 := G0.out.cell 7 rfl
    have e : w1.heap[w.heap.size]? = (w.alloc (.cells #[.int .i64 ip, .int .i64 b, .int .i64 gt, .string gm, .string wm, .int .i64 rs, .slice x lenx capx, .slice y leny capy] 27)).heap[w.heap.size]? := g1.block _ (by simp) (fun e => by rw [hpb] at e; have := hlt _ e.symm; omega)
    unfold World.cell? at h7 ⊢
    rw [show w1.heap[(⟨w.heap.size, 7, none⟩ : Addr).block]? = (w.alloc (.cells #[.int .i64 ip, .int .i64 b, .int .i64 gt, .string gm, .string wm, .int .i64 rs, .slice x lenx capx, .slice y leny capy] 27)).heap[(⟨w.heap.size, 7, none⟩ : Addr).block]? from e]
    exact h7
  have K1 : Hid (Rel.Keep (fun k => k < w.heap.size ∧ ¬ cfBk (.slice x lenx capx) (.slice y leny capy) L k) w w1) := keep_grown (Rel.Keep.mono ⟨al.os, al.tape, al.output, al.size, al.block⟩ (fun k hk => hk.1)) g1 (fun k hk => ⟨by have := al.size; exact Nat.lt_of_lt_of_le hk.1 this, fun e => hk.2 (.inl e.symm)⟩)
  have O1 : Hid (OwnS pv 4 62 w1 B (.slice x lenx capx) (mkPlaceL m0 lenx)) := o1
  have A1 : Hid (w.heap.size ≤ w1.heap.size) := Nat.le_trans al.size g1.size
  have AP : Hid (∀ k, (Value.slice x lenx capx).ownBlock = some k → ¬ roBk (.slice y leny capy) L k) := ap
  clear HP hp hr g1 o1 G0 al ap hlt
  go_wp2_with fail
  refine (HR.out _ r1).mono ?_
  rintro e w2 ⟨rfl, r2, k2⟩
  have FIN : Hid (OwnS pv 4 62 w2 B (.slice x lenx capx) (mkPlaceL m0 lenx) ∧ OwnRo w2 B (.slice y leny capy) (mkRoL (m0 + 4 * lenx) L) ∧ Rel.Keep (fun k => k < w.heap.size ∧ ¬ cfBk (.slice x lenx capx) (.slice y leny capy) L k) w w2) := by
    refine ⟨?_, r2, K1.out.trans (Rel.Keep.mono k2 (fun k hk => ⟨Nat.lt_of_lt_of_le hk.1 A1.out, fun h => hk.2 (.inr h)⟩))⟩
    have o := O1.out
    refine ⟨o.1, ?_⟩
    rcases o.2 with h' | ⟨g, cap, cur, h1, hB, hg, h4⟩
    · exact .inl h'
    · refine .inr ⟨g, cap, cur, h1, hB, ?_, h4⟩
      rw [k2.block g ⟨(Array.getElem?_eq_some_iff.1 hg).1, AP.out g (by rw [h1]; rfl)⟩]
      exact hg
  clear r1 r2 k2 K1 O1 AP A1 HR c7 hpb
  go_wp2
  go_ret
  exact ⟨rfl, FIN.out⟩
end Go.Proofs.YtbeehlhcckndcaaDoor
