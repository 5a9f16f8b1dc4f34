/- StatusText: what it answers. -/
import Derived.Test.YtappekglflgodabDoorSessW
import Derived.Test.YtappekglflgodabDoorDigits
import Derived.Test.YtappekglflgodabDoorSmallA
import Derived.Test.YtappekglflgodabDoorTests
namespace Go.Proofs.YtappekglflgodabDoor
open Go.RowKit Go.PlainAid Go.Proofs.YtappekglflgodabDoor.Bt Go.Sort
set_option linter.unusedVariables false
set_option maxRecDepth 20000

/-- A session that can be told. -/
def stB (nu : Nat) (s : SessV) : Bool := decide (0 ≤ s.us ∧ s.us ≤ (nu : Int) - 1) && decide (0 ≤ s.id ∧ s.id ≤ 10000) && decide (0 ≤ s.qu ∧ s.qu ≤ 1000000) && decide (0 ≤ s.ud ∧ s.ud ≤ s.qu) && decide (0 ≤ s.un ∧ s.un ≤ 101000)
def stN (us : List UserV) (k : Int) : ByteArray := match us[k.toNat]? with | some u => u.nm | none => ⟨#[]⟩
def stD (n : Int) : ByteArray := strOfNums (dgs n.toNat)
/-- What is told of a session. -/
def stT (nm : ByteArray) (s : SessV) (now : Int) : ByteArray := ⟨#[115, 101, 115, 115, 105, 111, 110, 32]⟩ ++ stD s.id ++ ⟨#[32, 111, 102, 32]⟩ ++ nm ++ ⟨#[44, 32]⟩ ++ stD (s.qu - s.ud) ++ ⟨#[32, 108, 101, 102, 116, 44, 32]⟩ ++ stD (if s.un - now < 0 then 0 else s.un - now) ++ ⟨#[32, 116, 105, 99, 107, 115]⟩
def stF (us : List UserV) (ss : List SessV) (mac : ByteArray) (q now : Int) : ByteArray := match ss.find? (saP mac q) with | some s => stT (stN us s.us) s now | none => ⟨#[110, 111, 32, 115, 101, 115, 115, 105, 111, 110]⟩
def stC (us : List UserV) (ss : List SessV) (mac : ByteArray) (now : Int) : Int := if 65536 < mac.size then 2 else if 3 < ss.length then 1 else if ss.all (stB us.length) = true then (if 0 ≤ now ∧ now ≤ 100000 then 0 else 4) else 1
def stS (us : List UserV) (ss : List SessV) (mac : ByteArray) (q now : Int) : ByteArray := if stC us ss mac now = 0 then stF us ss mac q now else ⟨#[]⟩
theorem stB_says {nu : Nat} {s : SessV} (h : stB nu s = true) : (0 ≤ s.us ∧ s.us ≤ (nu : Int) - 1) ∧ (0 ≤ s.id ∧ s.id ≤ 10000) ∧ (0 ≤ s.qu ∧ s.qu ≤ 1000000) ∧ (0 ≤ s.ud ∧ s.ud ≤ s.qu) ∧ (0 ≤ s.un ∧ s.un ≤ 101000) := by
  unfold stB at h
  simp only [Bool.and_eq_true, decide_eq_true_eq] at h
  obtain ⟨⟨⟨⟨h1, h2⟩, h3⟩, h4⟩, h5⟩ := h
  exact ⟨h1, h2, h3, h4, h5⟩
theorem stN_at {us : List UserV} {k : Int} (h0 : 0 ≤ k) (h1 : k ≤ (us.length : Int) - 1) : ∃ (n : Nat) (u : UserV), k = n ∧ us[n]? = some u ∧ stN us k = u.nm := by
  obtain ⟨n, rfl⟩ := Int.eq_ofNat_of_zero_le h0
  have hn : n < us.length := by omega
  refine ⟨n, us[n], rfl, List.getElem?_eq_getElem hn, ?_⟩
  unfold stN
  rw [Int.toNat_natCast, List.getElem?_eq_getElem hn]
theorem stD_size {n : Int} (h0 : 0 ≤ n) (h1 : n ≤ 1000000) : (stD n).size ≤ 7 := by
  unfold stD
  rw [strOfNums_size]
  exact (dgs_len 6 n.toNat (by omega)).2
theorem all_no {α : Type} {p : α → Bool} {xs : List α} {k : Nat} {x : α} (hx : xs[k]? = some x) (hp : p x = false) : xs.all p = false := by
  rw [List.all_eq_false]
  exact ⟨x, List.mem_of_getElem? hx, by simp [hp]⟩
theorem all_more {α : Type} {p : α → Bool} {xs : List α} {k : Nat} {x : α} (hx : xs[k]? = some x) (h : (xs.take k).all p = true) (hp : p x = true) : (xs.take (k + 1)).all p = true := by
  rw [List.take_add_one, hx, List.all_append, h]
  simp [hp]
theorem all_end {α : Type} {p : α → Bool} {xs : List α} {k : Nat} (hk : xs.length = k) (h : (xs.take k).all p = true) : xs.all p = true := by
  rw [List.take_of_length_le (by omega)] at h
  exact h
theorem st_else {us : List UserV} {ss : List SessV} {mac : ByteArray} {q now k : Int} (e : stC us ss mac now = k) (hk : k ≠ 0) : stC us ss mac now = k ∧ stS us ss mac q now = ⟨#[]⟩ := ⟨e, by unfold stS; rw [e, if_neg hk]⟩
theorem st_long {us : List UserV} {ss : List SessV} {mac : ByteArray} {q now : Int} (h : 65536 < mac.size) : stC us ss mac now = 2 ∧ stS us ss mac q now = ⟨#[]⟩ := st_else (by unfold stC; rw [if_pos h]) (by decide)
theorem st_many {us : List UserV} {ss : List SessV} {mac : ByteArray} {q now : Int} (h : ¬ 65536 < mac.size) (h3 : 3 < ss.length) : stC us ss mac now = 1 ∧ stS us ss mac q now = ⟨#[]⟩ := st_else (by unfold stC; rw [if_neg h, if_pos h3]) (by decide)
theorem st_bad {us : List UserV} {ss : List SessV} {mac : ByteArray} {q now : Int} (h : ¬ 65536 < mac.size) (h3 : ¬ 3 < ss.length) (hb : ss.all (stB us.length) = false) : stC us ss mac now = 1 ∧ stS us ss mac q now = ⟨#[]⟩ := st_else (by unfold stC; rw [if_neg h, if_neg h3, if_neg (by simp [hb])]) (by decide)
theorem st_range {us : List UserV} {ss : List SessV} {mac : ByteArray} {q now : Int} (h : ¬ 65536 < mac.size) (h3 : ¬ 3 < ss.length) (hb : ss.all (stB us.length) = true) (hn : ¬ (0 ≤ now ∧ now ≤ 100000)) : stC us ss mac now = 4 ∧ stS us ss mac q now = ⟨#[]⟩ := st_else (by unfold stC; rw [if_neg h, if_neg h3, if_pos hb, if_neg hn]) (by decide)
theorem st_ok {us : List UserV} {ss : List SessV} {mac : ByteArray} {q now : Int} (h : ¬ 65536 < mac.size) (h3 : ¬ 3 < ss.length) (hb : ss.all (stB us.length) = true) (hn : 0 ≤ now ∧ now ≤ 100000) : stC us ss mac now = 0 ∧ stS us ss mac q now = stF us ss mac q now := by
  have e : stC us ss mac now = 0 := by unfold stC; rw [if_neg h, if_neg h3, if_pos hb, if_pos hn]
  exact ⟨e, by unfold stS; rw [if_pos e]⟩
end Go.Proofs.YtappekglflgodabDoor
