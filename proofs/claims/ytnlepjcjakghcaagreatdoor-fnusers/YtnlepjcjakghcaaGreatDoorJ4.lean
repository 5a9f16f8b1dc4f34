/- Guests in the laws: measured, copied, compared. Lists of users, sessions, fails and records marked and held. Lists of users, sessions, fails and records copied by the laws into rows of one's own. Append and slices.Clone of users, sessions, fails and records. -/
import Derived.Test.YtnlepjcjakghcaaGreatDoorJ3
namespace Go.Proofs.YtnlepjcjakghcaaGreatDoor
open Go.RowKit Go.PlainAid Go.Proofs.YtnlepjcjakghcaaGreatDoor.Bt Go.Sort
set_option linter.unusedVariables false
set_option maxRecDepth 20000
/-- How much a list holds. -/
def szL {α : Type} (wt : α → Int) (xs : List α) : Int := xs.foldr (fun r n => wt r + n) 0
section Sz
variable {α : Type} {wt : α → Int}
theorem szL_cons (r : α) (xs : List α) : szL wt (r :: xs) = wt r + szL wt xs := rfl
theorem szL_nonneg (h0 : ∀ x, 0 ≤ wt x) : ∀ xs : List α, 0 ≤ szL wt xs
  | [] => Int.le_refl _
  | r :: xs => by have := szL_nonneg h0 xs; have := h0 r; rw [szL_cons]; omega
theorem szL_mem (h0 : ∀ x, 0 ≤ wt x) : ∀ (xs : List α) (r : α), r ∈ xs → wt r ≤ szL wt xs
  | [], r, h => by simp at h
  | x :: xs, r, h => by
    rw [szL_cons]
    rcases List.mem_cons.1 h with rfl | h
    · have := szL_nonneg h0 xs; omega
    · have := szL_mem h0 xs r h; have := h0 x; omega
end Sz
def wtUser (u : UserV) : Int := (u.nm.size : Int) + (u.sa.size : Int) + (u.ha.size : Int) + (u.ro.size : Int)
theorem wtUser_nn (u : UserV) : 0 ≤ wtUser u := by unfold wtUser; omega
def wtSession (u : SessV) : Int := (u.mc.size : Int)
def wtFail (u : FailV) : Int := (u.mc.size : Int)
end Go.Proofs.YtnlepjcjakghcaaGreatDoor

namespace Go.Proofs.YtnlepjcjakghcaaGreatDoor
open Go.RowKit Go.PlainAid Go.Proofs.YtnlepjcjakghcaaGreatDoor.Bt Go.Sort
set_option linter.unusedVariables false
set_option maxRecDepth 20000
theorem uvG_len (u : UserV) : (uvG u).length = 6 := rfl
theorem svG_len (u : SessV) : (svG u).length = 10 := rfl
theorem fvG_len (u : FailV) : (fvG u).length = 3 := rfl
theorem evG_len (u : RecV) : (evG u).length = 5 := rfl
end Go.Proofs.YtnlepjcjakghcaaGreatDoor

namespace Go.Proofs.YtnlepjcjakghcaaGreatDoor
open Go.RowKit Go.PlainAid Go.Proofs.YtnlepjcjakghcaaGreatDoor.Bt Go.Sort
set_option linter.unusedVariables false
set_option maxRecDepth 20000
end Go.Proofs.YtnlepjcjakghcaaGreatDoor

namespace Go.Proofs.YtnlepjcjakghcaaGreatDoor
open Go.RowKit Go.PlainAid Go.Proofs.YtnlepjcjakghcaaGreatDoor.Bt Go.Sort
set_option linter.unusedVariables false
set_option maxRecDepth 20000
theorem oneUser (ys : List UserV) : ∀ u ∈ flatS uvG ys, u.oneCell' = true := by
  intro u hu
  unfold flatS at hu
  rw [List.mem_flatMap] at hu
  obtain ⟨f, _, hf⟩ := hu
  simp [uvG] at hf
  rcases hf with rfl | rfl | rfl | rfl | rfl | rfl <;> rfl
/-- 'append(row, ys...)'. -/
theorem wpl_User (w : World) {ops : Array Oper} {rest : List Oper} {o : Oper} {a : Act} {Q : Exit → Act → World → Prop} (hgd : o.guard = none) (s x : Operand)
    (ho : o.op = .call { callee := .builtin .append, args := #[s, x], argTypes := #[37, 37] })
    (B : Nat) (v : Value) (L ys : List UserV) (hs : a.eval s = v) (hown : OwnS uvG 6 25 w B v L)
    (g off m c : Nat) (hm : ys.length = m) (hx : a.eval x = .slice (some ⟨g, off, none⟩) m c) (hc : ∀ j u, (flatS uvG ys)[j]? = some u → w.cell? ⟨g, off + j, none⟩ = some u)
    (hlen : L.length + m ≤ 2000000) (hB : B ≤ w.heap.size)
    (h : ∀ v' w', Hid (OwnS uvG 6 25 w' B v' (L ++ ys) ∧ Below B w w') → w.grownBy w' v.ownBlock → wpList Tryz.prog ops Q rest (a.put o.dst v') w') : wpList Tryz.prog ops Q (o :: rest) a w := by
  obtain ⟨i0, hi, hz0, hz1, hz2⟩ := info_parts infoUser
  refine wpList_append_own w hgd s x 37 ho B 25 i0 (.agg #[.string ⟨#[]⟩, .string ⟨#[]⟩, .string ⟨#[]⟩, .string ⟨#[]⟩, .int .i64 0, .int .i64 0]) 6 80 Tryz.underlying37 hi hz0 hz1 hz2 rfl (by decide) v L.length (flatS uvG L) hs hown ⟨g, off, none⟩ m c (flatS uvG ys) hx (by rw [flatS_len uvG_len, hm]) ?_
    (oneUser ys) (by unfold maxLen; omega) (by omega) hB ?_
  · intro j u hu
    rw [addn]
    exact hc j u hu
  · intro v' w' h2 h3 _
    subst hm
    exact h v' w' (hown.join hB h2 h3) h3
/-- slices.Clone. -/
theorem cloneUser_some (b off len cap : Nat) (xs : List UserV) (w : World) (h : Rw UsR 6 w (some ⟨b, off, none⟩) xs) (hl : xs.length = len) (hm : len ≤ 1048576) (hc : len ≤ cap) :
    Calls Tryz.prog 44 #[.slice (some ⟨b, off, none⟩) len cap] w fun e w' => ∃ v, e = .returned v ∧ OwnS uvG 6 25 w' w.heap.size v xs ∧ Below w.heap.size w w' := by
  have h' : Rw (FR uvG UsRok) 6 w (some ⟨b, off, none⟩) xs := h
  have RC : Hid (∀ j u, (flatS uvG xs)[j]? = some u → w.cell? ⟨b, off + j, none⟩ = some u) := flat_rw h' uvG_len (by omega)
  have q22 : (binOp .eql 37 (.slice (some ⟨b, off, none⟩) len cap) (.slice none 0 0)).run Tryz.prog w = .ok (.bool false) w := Lib.run_eql_slice_nil w _ _ (some ⟨b, off, none⟩) len cap 0 0 Tryz.underlying37
  clear h h'
  go_enter Tryz.func44, Tryz.ntmps44
  go_wp2_with (at_builtin; refine wpl_User _ rfl (.tmp 5) (.tmp 6) rfl w.heap.size _ [] xs rfl (OwnS.lit w _ (Nat.le_refl _)) b off len cap hl rfl (fun j u hu => acell (RC.out j u hu) _) (by simp; omega) (by simp) ?_; intro v' w3 Y _)
  have Y2 : Hid (OwnS uvG 6 25 w3 w.heap.size v' xs ∧ Below w.heap.size w w3) := ⟨Y.out.1, ((Below.refl _ _).alloc (Nat.le_refl _) _).trans Y.out.2⟩
  clear Y
  go_wp2
  go_ret
  exact ⟨_, rfl, Y2.out.1, Y2.out.2⟩
theorem cloneUser_any (a : Option Addr) (len cap : Nat) (xs : List UserV) (w : World) (h : Rw UsR 6 w a xs) (hl : xs.length = len) (hm : len ≤ 1048576) (hc : len ≤ cap) (ha : ∀ p, a = some p → p.spot = none) (hn : a = none → len = 0 ∧ cap = 0) :
    Calls Tryz.prog 44 #[.slice a len cap] w fun e w' => ∃ v, e = .returned v ∧ OwnS uvG 6 25 w' w.heap.size v xs ∧ Below w.heap.size w w' := by
  cases a with
  | some p =>
    obtain ⟨b, off, pt⟩ := p
    obtain rfl : pt = none := ha _ rfl
    exact cloneUser_some b off len cap xs w h hl hm hc
  | none =>
    obtain ⟨rfl, rfl⟩ := hn rfl
    obtain rfl : xs = [] := List.length_eq_zero_iff.1 hl
    have q22 : (binOp .eql 37 (.slice none 0 0) (.slice none 0 0)).run Tryz.prog w = .ok (.bool true) w := Lib.run_eql_slice_nil w _ _ none 0 0 0 0 Tryz.underlying37
    go_enter Tryz.func44, Tryz.ntmps44
    go_wp2
    go_ret
    exact ⟨_, rfl, OwnS.nil _ _, Below.refl _ _⟩
theorem oneSession (ys : List SessV) : ∀ u ∈ flatS svG ys, u.oneCell' = true := by
  intro u hu
  unfold flatS at hu
  rw [List.mem_flatMap] at hu
  obtain ⟨f, _, hf⟩ := hu
  simp [svG] at hf
  rcases hf with rfl | rfl | rfl | rfl | rfl | rfl | rfl | rfl | rfl | rfl <;> rfl
/-- 'append(row, ys...)'. -/
theorem wpl_Session (w : World) {ops : Array Oper} {rest : List Oper} {o : Oper} {a : Act} {Q : Exit → Act → World → Prop} (hgd : o.guard = none) (s x : Operand)
    (ho : o.op = .call { callee := .builtin .append, args := #[s, x], argTypes := #[38, 38] })
    (B : Nat) (v : Value) (L ys : List SessV) (hs : a.eval s = v) (hown : OwnS svG 10 48 w B v L)
    (g off m c : Nat) (hm : ys.length = m) (hx : a.eval x = .slice (some ⟨g, off, none⟩) m c) (hc : ∀ j u, (flatS svG ys)[j]? = some u → w.cell? ⟨g, off + j, none⟩ = some u)
    (hlen : L.length + m ≤ 2000000) (hB : B ≤ w.heap.size)
    (h : ∀ v' w', Hid (OwnS svG 10 48 w' B v' (L ++ ys) ∧ Below B w w') → w.grownBy w' v.ownBlock → wpList Tryz.prog ops Q rest (a.put o.dst v') w') : wpList Tryz.prog ops Q (o :: rest) a w := by
  obtain ⟨i0, hi, hz0, hz1, hz2⟩ := info_parts infoSession
  refine wpList_append_own w hgd s x 38 ho B 48 i0 (.agg #[.int .i64 0, .int .i64 0, .string ⟨#[]⟩, .int .i64 0, .int .i64 0, .int .i64 0, .int .i64 0, .int .i64 0, .int .i64 0, .int .i64 0]) 10 88 Tryz.underlying38 hi hz0 hz1 hz2 rfl (by decide) v L.length (flatS svG L) hs hown ⟨g, off, none⟩ m c (flatS svG ys) hx (by rw [flatS_len svG_len, hm]) ?_
    (oneSession ys) (by unfold maxLen; omega) (by omega) hB ?_
  · intro j u hu
    rw [addn]
    exact hc j u hu
  · intro v' w' h2 h3 _
    subst hm
    exact h v' w' (hown.join hB h2 h3) h3
/-- slices.Clone. -/
theorem cloneSession_some (b off len cap : Nat) (xs : List SessV) (w : World) (h : Rw SeR 10 w (some ⟨b, off, none⟩) xs) (hl : xs.length = len) (hm : len ≤ 1048576) (hc : len ≤ cap) :
    Calls Tryz.prog 45 #[.slice (some ⟨b, off, none⟩) len cap] w fun e w' => ∃ v, e = .returned v ∧ OwnS svG 10 48 w' w.heap.size v xs ∧ Below w.heap.size w w' := by
  have h' : Rw (FR svG SeRok) 10 w (some ⟨b, off, none⟩) xs := h
  have RC : Hid (∀ j u, (flatS svG xs)[j]? = some u → w.cell? ⟨b, off + j, none⟩ = some u) := flat_rw h' svG_len (by omega)
  have q22 : (binOp .eql 38 (.slice (some ⟨b, off, none⟩) len cap) (.slice none 0 0)).run Tryz.prog w = .ok (.bool false) w := Lib.run_eql_slice_nil w _ _ (some ⟨b, off, none⟩) len cap 0 0 Tryz.underlying38
  clear h h'
  go_enter Tryz.func45, Tryz.ntmps45
  go_wp2_with (at_builtin; refine wpl_Session _ rfl (.tmp 5) (.tmp 6) rfl w.heap.size _ [] xs rfl (OwnS.lit w _ (Nat.le_refl _)) b off len cap hl rfl (fun j u hu => acell (RC.out j u hu) _) (by simp; omega) (by simp) ?_; intro v' w3 Y _)
  have Y2 : Hid (OwnS svG 10 48 w3 w.heap.size v' xs ∧ Below w.heap.size w w3) := ⟨Y.out.1, ((Below.refl _ _).alloc (Nat.le_refl _) _).trans Y.out.2⟩
  clear Y
  go_wp2
  go_ret
  exact ⟨_, rfl, Y2.out.1, Y2.out.2⟩
theorem cloneSession_any (a : Option Addr) (len cap : Nat) (xs : List SessV) (w : World) (h : Rw SeR 10 w a xs) (hl : xs.length = len) (hm : len ≤ 1048576) (hc : len ≤ cap) (ha : ∀ p, a = some p → p.spot = none) (hn : a = none → len = 0 ∧ cap = 0) :
    Calls Tryz.prog 45 #[.slice a len cap] w fun e w' => ∃ v, e = .returned v ∧ OwnS svG 10 48 w' w.heap.size v xs ∧ Below w.heap.size w w' := by
  cases a with
  | some p =>
    obtain ⟨b, off, pt⟩ := p
    obtain rfl : pt = none := ha _ rfl
    exact cloneSession_some b off len cap xs w h hl hm hc
  | none =>
    obtain ⟨rfl, rfl⟩ := hn rfl
    obtain rfl : xs = [] := List.length_eq_zero_iff.1 hl
    have q22 : (binOp .eql 38 (.slice none 0 0) (.slice none 0 0)).run Tryz.prog w = .ok (.bool true) w := Lib.run_eql_slice_nil w _ _ none 0 0 0 0 Tryz.underlying38
    go_enter Tryz.func45, Tryz.ntmps45
    go_wp2
    go_ret
    exact ⟨_, rfl, OwnS.nil _ _, Below.refl _ _⟩
theorem oneFail (ys : List FailV) : ∀ u ∈ flatS fvG ys, u.oneCell' = true := by
  intro u hu
  unfold flatS at hu
  rw [List.mem_flatMap] at hu
  obtain ⟨f, _, hf⟩ := hu
  simp [fvG] at hf
  rcases hf with rfl | rfl | rfl <;> rfl
/-- 'append(row, ys...)'. -/
theorem wpl_Fail (w : World) {ops : Array Oper} {rest : List Oper} {o : Oper} {a : Act} {Q : Exit → Act → World → Prop} (hgd : o.guard = none) (s x : Operand)
    (ho : o.op = .call { callee := .builtin .append, args := #[s, x], argTypes := #[39, 39] })
    (B : Nat) (v : Value) (L ys : List FailV) (hs : a.eval s = v) (hown : OwnS fvG 3 95 w B v L)
    (g off m c : Nat) (hm : ys.length = m) (hx : a.eval x = .slice (some ⟨g, off, none⟩) m c) (hc : ∀ j u, (flatS fvG ys)[j]? = some u → w.cell? ⟨g, off + j, none⟩ = some u)
    (hlen : L.length + m ≤ 2000000) (hB : B ≤ w.heap.size)
    (h : ∀ v' w', Hid (OwnS fvG 3 95 w' B v' (L ++ ys) ∧ Below B w w') → w.grownBy w' v.ownBlock → wpList Tryz.prog ops Q rest (a.put o.dst v') w') : wpList Tryz.prog ops Q (o :: rest) a w := by
  obtain ⟨i0, hi, hz0, hz1, hz2⟩ := info_parts infoFail
  refine wpList_append_own w hgd s x 39 ho B 95 i0 (.agg #[.string ⟨#[]⟩, .int .i64 0, .int .i64 0]) 3 32 Tryz.underlying39 hi hz0 hz1 hz2 rfl (by decide) v L.length (flatS fvG L) hs hown ⟨g, off, none⟩ m c (flatS fvG ys) hx (by rw [flatS_len fvG_len, hm]) ?_
    (oneFail ys) (by unfold maxLen; omega) (by omega) hB ?_
  · intro j u hu
    rw [addn]
    exact hc j u hu
  · intro v' w' h2 h3 _
    subst hm
    exact h v' w' (hown.join hB h2 h3) h3
/-- slices.Clone. -/
theorem cloneFail_some (b off len cap : Nat) (xs : List FailV) (w : World) (h : Rw FaR 3 w (some ⟨b, off, none⟩) xs) (hl : xs.length = len) (hm : len ≤ 1048576) (hc : len ≤ cap) :
    Calls Tryz.prog 46 #[.slice (some ⟨b, off, none⟩) len cap] w fun e w' => ∃ v, e = .returned v ∧ OwnS fvG 3 95 w' w.heap.size v xs ∧ Below w.heap.size w w' := by
  have h' : Rw (FR fvG FaRok) 3 w (some ⟨b, off, none⟩) xs := h
  have RC : Hid (∀ j u, (flatS fvG xs)[j]? = some u → w.cell? ⟨b, off + j, none⟩ = some u) := flat_rw h' fvG_len (by omega)
  have q22 : (binOp .eql 39 (.slice (some ⟨b, off, none⟩) len cap) (.slice none 0 0)).run Tryz.prog w = .ok (.bool false) w := Lib.run_eql_slice_nil w _ _ (some ⟨b, off, none⟩) len cap 0 0 Tryz.underlying39
  clear h h'
  go_enter Tryz.func46, Tryz.ntmps46
  go_wp2_with (at_builtin; refine wpl_Fail _ rfl (.tmp 5) (.tmp 6) rfl w.heap.size _ [] xs rfl (OwnS.lit w _ (Nat.le_refl _)) b off len cap hl rfl (fun j u hu => acell (RC.out j u hu) _) (by simp; omega) (by simp) ?_; intro v' w3 Y _)
  have Y2 : Hid (OwnS fvG 3 95 w3 w.heap.size v' xs ∧ Below w.heap.size w w3) := ⟨Y.out.1, ((Below.refl _ _).alloc (Nat.le_refl _) _).trans Y.out.2⟩
  clear Y
  go_wp2
  go_ret
  exact ⟨_, rfl, Y2.out.1, Y2.out.2⟩
theorem cloneFail_any (a : Option Addr) (len cap : Nat) (xs : List FailV) (w : World) (h : Rw FaR 3 w a xs) (hl : xs.length = len) (hm : len ≤ 1048576) (hc : len ≤ cap) (ha : ∀ p, a = some p → p.spot = none) (hn : a = none → len = 0 ∧ cap = 0) :
    Calls Tryz.prog 46 #[.slice a len cap] w fun e w' => ∃ v, e = .returned v ∧ OwnS fvG 3 95 w' w.heap.size v xs ∧ Below w.heap.size w w' := by
  cases a with
  | some p =>
    obtain ⟨b, off, pt⟩ := p
    obtain rfl : pt = none := ha _ rfl
    exact cloneFail_some b off len cap xs w h hl hm hc
  | none =>
    obtain ⟨rfl, rfl⟩ := hn rfl
    obtain rfl : xs = [] := List.length_eq_zero_iff.1 hl
    have q22 : (binOp .eql 39 (.slice none 0 0) (.slice none 0 0)).run Tryz.prog w = .ok (.bool true) w := Lib.run_eql_slice_nil w _ _ none 0 0 0 0 Tryz.underlying39
    go_enter Tryz.func46, Tryz.ntmps46
    go_wp2
    go_ret
    exact ⟨_, rfl, OwnS.nil _ _, Below.refl _ _⟩
theorem oneRecord (ys : List RecV) : ∀ u ∈ flatS evG ys, u.oneCell' = true := by
  intro u hu
  unfold flatS at hu
  rw [List.mem_flatMap] at hu
  obtain ⟨f, _, hf⟩ := hu
  simp [evG] at hf
  rcases hf with rfl | rfl | rfl | rfl | rfl <;> rfl
/-- 'append(row, ys...)'. -/
theorem wpl_Record (w : World) {ops : Array Oper} {rest : List Oper} {o : Oper} {a : Act} {Q : Exit → Act → World → Prop} (hgd : o.guard = none) (s x : Operand)
    (ho : o.op = .call { callee := .builtin .append, args := #[s, x], argTypes := #[40, 40] })
    (B : Nat) (v : Value) (L ys : List RecV) (hs : a.eval s = v) (hown : OwnS evG 5 67 w B v L)
    (g off m c : Nat) (hm : ys.length = m) (hx : a.eval x = .slice (some ⟨g, off, none⟩) m c) (hc : ∀ j u, (flatS evG ys)[j]? = some u → w.cell? ⟨g, off + j, none⟩ = some u)
    (hlen : L.length + m ≤ 2000000) (hB : B ≤ w.heap.size)
    (h : ∀ v' w', Hid (OwnS evG 5 67 w' B v' (L ++ ys) ∧ Below B w w') → w.grownBy w' v.ownBlock → wpList Tryz.prog ops Q rest (a.put o.dst v') w') : wpList Tryz.prog ops Q (o :: rest) a w := by
  obtain ⟨i0, hi, hz0, hz1, hz2⟩ := info_parts infoRecord
  refine wpList_append_own w hgd s x 40 ho B 67 i0 (.agg #[.int .i64 0, .int .i64 0, .int .i64 0, .int .i64 0, .bool false]) 5 40 Tryz.underlying40 hi hz0 hz1 hz2 rfl (by decide) v L.length (flatS evG L) hs hown ⟨g, off, none⟩ m c (flatS evG ys) hx (by rw [flatS_len evG_len, hm]) ?_
    (oneRecord ys) (by unfold maxLen; omega) (by omega) hB ?_
  · intro j u hu
    rw [addn]
    exact hc j u hu
  · intro v' w' h2 h3 _
    subst hm
    exact h v' w' (hown.join hB h2 h3) h3
/-- slices.Clone. -/
theorem cloneRecord_some (b off len cap : Nat) (xs : List RecV) (w : World) (h : Rw ReR 5 w (some ⟨b, off, none⟩) xs) (hl : xs.length = len) (hm : len ≤ 1048576) (hc : len ≤ cap) :
    Calls Tryz.prog 47 #[.slice (some ⟨b, off, none⟩) len cap] w fun e w' => ∃ v, e = .returned v ∧ OwnS evG 5 67 w' w.heap.size v xs ∧ Below w.heap.size w w' := by
  have h' : Rw (FR evG ReRok) 5 w (some ⟨b, off, none⟩) xs := h
  have RC : Hid (∀ j u, (flatS evG xs)[j]? = some u → w.cell? ⟨b, off + j, none⟩ = some u) := flat_rw h' evG_len (by omega)
  have q22 : (binOp .eql 40 (.slice (some ⟨b, off, none⟩) len cap) (.slice none 0 0)).run Tryz.prog w = .ok (.bool false) w := Lib.run_eql_slice_nil w _ _ (some ⟨b, off, none⟩) len cap 0 0 Tryz.underlying40
  clear h h'
  go_enter Tryz.func47, Tryz.ntmps47
  go_wp2_with (at_builtin; refine wpl_Record _ rfl (.tmp 5) (.tmp 6) rfl w.heap.size _ [] xs rfl (OwnS.lit w _ (Nat.le_refl _)) b off len cap hl rfl (fun j u hu => acell (RC.out j u hu) _) (by simp; omega) (by simp) ?_; intro v' w3 Y _)
  have Y2 : Hid (OwnS evG 5 67 w3 w.heap.size v' xs ∧ Below w.heap.size w w3) := ⟨Y.out.1, ((Below.refl _ _).alloc (Nat.le_refl _) _).trans Y.out.2⟩
  clear Y
  go_wp2
  go_ret
  exact ⟨_, rfl, Y2.out.1, Y2.out.2⟩
theorem cloneRecord_any (a : Option Addr) (len cap : Nat) (xs : List RecV) (w : World) (h : Rw ReR 5 w a xs) (hl : xs.length = len) (hm : len ≤ 1048576) (hc : len ≤ cap) (ha : ∀ p, a = some p → p.spot = none) (hn : a = none → len = 0 ∧ cap = 0) :
    Calls Tryz.prog 47 #[.slice a len cap] w fun e w' => ∃ v, e = .returned v ∧ OwnS evG 5 67 w' w.heap.size v xs ∧ Below w.heap.size w w' := by
  cases a with
  | some p =>
    obtain ⟨b, off, pt⟩ := p
    obtain rfl : pt = none := ha _ rfl
    exact cloneRecord_some b off len cap xs w h hl hm hc
  | none =>
    obtain ⟨rfl, rfl⟩ := hn rfl
    obtain rfl : xs = [] := List.length_eq_zero_iff.1 hl
    have q22 : (binOp .eql 40 (.slice none 0 0) (.slice none 0 0)).run Tryz.prog w = .ok (.bool true) w := Lib.run_eql_slice_nil w _ _ none 0 0 0 0 Tryz.underlying40
    go_enter Tryz.func47, Tryz.ntmps47
    go_wp2
    go_ret
    exact ⟨_, rfl, OwnS.nil _ _, Below.refl _ _⟩
end Go.Proofs.YtnlepjcjakghcaaGreatDoor
