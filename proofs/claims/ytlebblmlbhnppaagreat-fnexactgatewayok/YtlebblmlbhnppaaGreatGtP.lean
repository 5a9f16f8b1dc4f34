/- Right gateways, as pure words. Nothing of the program is used. -/
import Derived.Test.YtlebblmlbhnppaaGreatGokF
import Derived.Test.YtlebblmlbhnppaaGreatFloP
import Derived.Test.YtlebblmlbhnppaaGreatConA
import Derived.Test.YtlebblmlbhnppaaGreatGtV
namespace Go.Proofs.YtlebblmlbhnppaaGreat
open Go.RowKit Go.PlainAid Go.Proofs.YtlebblmlbhnppaaGreat.Bt Go.Sort
set_option linter.unusedVariables false
set_option maxRecDepth 20000
/-- The place of the first one, or -1. -/
def ixI {V : Type} (p : V → Bool) (xs : List V) : Int := match xs.find? p with | some _ => (xs.findIdx p : Int) | none => -1
section
variable {V : Type} {p : V → Bool} {xs : List V} {k : Nat} {x : V}
theorem ixI_no (hx : xs[k]? = some x) (h : (xs.take k).find? p = none) (hp : p x = false) : (xs.take (k + 1)).find? p = none := bfind_no hx h hp
theorem ixI_at (hx : xs[k]? = some x) (h : (xs.take k).find? p = none) (hp : p x = true) : ixI p xs = k := by unfold ixI; rw [bfind_yes hx h hp, bfind_at hx h hp]
theorem ixI_end (hk : xs.length = k) (h : (xs.take k).find? p = none) : ixI p xs = -1 := by unfold ixI; rw [bfind_end hk h]
theorem ixI_neg : decide (ixI p xs < 0) = !(xs.any p) := by
  unfold ixI
  cases h : xs.find? p with
  | none =>
    have : xs.any p = false := by
      rw [List.find?_eq_none] at h
      rw [List.any_eq_false]
      intro y hy
      simpa using h y hy
    simp [this]
  | some y =>
    have : xs.any p = true := List.any_eq_true.2 ⟨y, List.mem_of_find?_eq_some h, List.find?_some h⟩
    simp [this]
theorem ixI_pos : decide (0 ≤ ixI p xs) = xs.any p := by
  have h : decide (0 ≤ ixI p xs) = !(decide (ixI p xs < 0)) := by
    by_cases h0 : ixI p xs < 0
    · rw [decide_eq_true h0, decide_eq_false (by omega)]; rfl
    · rw [decide_eq_false h0, decide_eq_true (by omega)]; rfl
  rw [h, ixI_neg]; simp
theorem ixI_lt : ixI p xs < xs.length ∨ xs.length = 0 := by
  unfold ixI
  cases h : xs.find? p with
  | none => simp; omega
  | some y => left; have := List.findIdx_lt_length_of_exists (p := p) (xs := xs) ⟨y, List.mem_of_find?_eq_some h, List.find?_some h⟩; simpa using this
theorem any_take_step (hx : xs[k]? = some x) : (xs.take (k + 1)).any p = ((xs.take k).any p || p x) := by
  rw [List.take_add_one, hx, List.any_append]; simp
theorem any_take_all (h : xs.length ≤ k) : xs.take k = xs := List.take_of_length_le h
theorem find_any (h : (xs.take k).find? p = none) : (xs.take k).any p = false := by
  rw [List.find?_eq_none] at h
  rw [List.any_eq_false]
  intro y hy
  simpa using h y hy
end
/-- A session of this Id. -/
def siP (id : Int) (s : SessV) : Bool := s.id == id
/-- A flow whose owner is gone. -/
def owP (ss : List SessV) (f : FlowV) : Bool := (f.ow != 0) && !(ss.any (siP f.ow))
def owB (ss : List SessV) (fl : List FlowV) : Bool := !(fl.any (owP ss))
/-- A connection of these ends. -/
def cnP (ip po di : Int) (d : ConnV) : Bool := (d.ip == ip) && ((d.po == po) && (d.di == di))
def cnAt (co : List ConnV) (i : Nat) (c : ConnV) : Bool := okB c && (!(c.st == 4) && !((co.take i).any (cnP c.ip c.po c.di)))
def cnOk (co : List ConnV) (k : Nat) : Prop := ∀ i c, i < k → co[i]? = some c → cnAt co i c = true
noncomputable def cnB (co : List ConnV) : Bool := @decide (co.length ≤ 3 ∧ cnOk co co.length) (Classical.propDecidable _)
theorem cnOk_zero (co : List ConnV) : cnOk co 0 := fun i c h => absurd h (by omega)
theorem cnOk_step {co : List ConnV} {k : Nat} {c : ConnV} (h : cnOk co k) (hc : co[k]? = some c) (ht : cnAt co k c = true) : cnOk co (k + 1) := by
  intro i d hi hd
  by_cases hik : i < k
  · exact h i d hik hd
  · obtain rfl : i = k := by omega
    rw [hc] at hd; cases hd; exact ht
theorem cnB_long {co : List ConnV} (h : 3 < co.length) : cnB co = false := by
  unfold cnB; rw [decide_eq_false_iff_not]; intro h2; omega
theorem cnB_no {co : List ConnV} {k : Nat} {c : ConnV} (hc : co[k]? = some c) (ht : cnAt co k c = false) : cnB co = false := by
  unfold cnB; rw [decide_eq_false_iff_not]
  intro h2
  have := h2.2 k c (List.getElem?_eq_some_iff.1 hc).1 hc
  rw [ht] at this; cases this
theorem cnB_of {co : List ConnV} {k : Nat} (hk : co.length = k) (h : cnOk co k) : cnB co = decide ((k : Int) ≤ 3) := by
  subst hk
  unfold cnB
  by_cases h3 : co.length ≤ 3
  · rw [decide_eq_true (show (co.length : Int) ≤ 3 by omega)]; exact @decide_eq_true _ (Classical.propDecidable _) ⟨h3, h⟩
  · rw [decide_eq_false (show ¬ (co.length : Int) ≤ 3 by omega)]; exact @decide_eq_false _ (Classical.propDecidable _) (fun h2 => h3 h2.1)
noncomputable def gtB (g : GtV) : Bool := gokB g.ip g.b g.gt g.gm g.wm g.rs g.ps g.ros g.us g.ss g.fs g.es g.nx && (foB g.fl && (owB g.ss g.fl && (cnB g.co && (dec (0 ≤ g.nw ∧ g.nw ≤ 100000) && (dec (0 ≤ g.dr ∧ g.dr ≤ 1000000) && dec (0 ≤ g.sn ∧ g.sn ≤ 4294967295))))))
theorem ow_nonneg {fl : List FlowV} (h : foB fl = true) {f : FlowV} (hf : f ∈ fl) : 0 ≤ f.ow := by
  unfold foB at h
  replace h := @of_decide_eq_true _ (Classical.propDecidable _) h
  obtain ⟨i, hi⟩ := List.getElem?_of_mem hf
  have := h.2.1 i f (List.getElem?_eq_some_iff.1 hi).1 hi
  unfold flB at this
  simp [dec] at this
  omega
end Go.Proofs.YtlebblmlbhnppaaGreat
