/- The first rule that fits: l07First, ruleFits; FirstRule, RoleAllows, the program's and the model's. -/
import Derived.Test.YtmeejholckelgaaGreatRoleW
namespace Go.Proofs.YtmeejholckelgaaGreat
open Go.RowKit Go.PlainAid Go.Proofs.YtmeejholckelgaaGreat.Bt Go.Sort
set_option linter.unusedVariables false
set_option maxRecDepth 20000

/-- A place has an address and a port; a rule fits. -/
def phB (ip b lo hi x port : Int) : Bool := hB ip b x && dec (lo ≤ port ∧ port ≤ hi)
def fitB (proto x port : Int) (r : RuleV) : Bool := (dec (r.p = 0) || dec (r.p = proto)) && phB r.ip r.b r.lo r.hi x port
/-- The place of the first that fits, or -1. -/
def fv (f : RuleV → Bool) (rs : List RuleV) : Int := match rs.findIdx? f with | some k => k | none => -1
theorem fv_hit {f : RuleV → Bool} {rs : List RuleV} {k : Nat} {x : RuleV} (hx : rs[k]? = some x) (h : (rs.take k).all (fun r => !f r) = true) (hf : f x = true) : fv f rs = k := by
  have hk := (List.getElem?_eq_some_iff.1 hx).1
  have e : rs.findIdx? f = some k := by
    rw [List.findIdx?_eq_some_iff_getElem]
    refine ⟨hk, by rw [List.getElem?_eq_getElem hk] at hx; cases hx; exact hf, fun j hj => ?_⟩
    rw [List.all_eq_true] at h
    have := h (rs[j]) (by rw [List.mem_take_iff_getElem]; exact ⟨j, by omega, rfl⟩)
    simpa using this
  unfold fv
  rw [e]
theorem fv_none {f : RuleV → Bool} {rs : List RuleV} (h : rs.all (fun r => !f r) = true) : fv f rs = -1 := by
  have e : rs.findIdx? f = none := by
    rw [List.findIdx?_eq_none_iff]
    intro x hx
    rw [List.all_eq_true] at h
    simpa using h x hx
  unfold fv
  rw [e]
theorem fv_bd (f : RuleV → Bool) (rs : List RuleV) : -1 ≤ fv f rs ∧ fv f rs < rs.length := by
  unfold fv
  cases h : rs.findIdx? f with
  | none => exact ⟨Int.le_refl _, by show (-1 : Int) < _; omega⟩
  | some k =>
    rw [List.findIdx?_eq_some_iff_getElem] at h
    obtain ⟨hk, -⟩ := h
    exact ⟨by show (-1 : Int) ≤ (k : Int); omega, by simpa using hk⟩
theorem ru_yes {r : RuleV} (h : ruB r = true) : 0 ≤ r.b ∧ r.b ≤ 32 ∧ nB r.ip r.b = true := by
  unfold ruB plB at h
  simp at h
  have := nB_yes h.2.1
  exact ⟨this.2.2.1, this.2.2.2.1, h.2.1⟩
theorem all_at {α : Type} {f : α → Bool} {xs : List α} {k : Nat} {x : α} (h : xs.all f = true) (hx : xs[k]? = some x) : f x = true := by
  rw [List.all_eq_true] at h
  exact h x (List.mem_of_getElem? hx)
theorem ro_yes {r : RoleV} (h : roB r = true) : r.rs.all ruB = true ∧ r.rs.length ≤ 8 := by
  unfold roB at h
  simp only [Bool.and_eq_true] at h
  exact ⟨h.2.2.2.2.2.2, of_decide_eq_true h.2.2.1⟩
/-- What FirstRule answers: its code, its place. -/
noncomputable def frC (r : RoleV) (proto x port : Int) : Int := if roB r = false then 1 else if (dec (0 ≤ proto ∧ proto ≤ 255) && (dec (0 ≤ x ∧ x ≤ 4294967295) && dec (0 ≤ port ∧ port ≤ 65535))) = false then 4 else if fv (fitB proto x port) r.rs < 0 then 5 else 0
noncomputable def frK (r : RoleV) (proto x port : Int) : Int := if frC r proto x port = 0 then fv (fitB proto x port) r.rs else 0

theorem frC_bad {r : RoleV} {proto x port : Int} (h : roB r = false) : frC r proto x port = 1 ∧ frK r proto x port = 0 := by
  have e : frC r proto x port = 1 := by unfold frC; rw [if_pos h]
  exact ⟨e, by unfold frK; rw [e]; rfl⟩
theorem frC_range {r : RoleV} {proto x port : Int} (h : roB r = true) (h2 : (dec (0 ≤ proto ∧ proto ≤ 255) && (dec (0 ≤ x ∧ x ≤ 4294967295) && dec (0 ≤ port ∧ port ≤ 65535))) = false) : frC r proto x port = 4 ∧ frK r proto x port = 0 := by
  have e : frC r proto x port = 4 := by unfold frC; rw [if_neg (by rw [h]; simp), if_pos h2]
  exact ⟨e, by unfold frK; rw [e]; rfl⟩
theorem frC_none {r : RoleV} {proto x port : Int} (h : roB r = true) (h2 : (dec (0 ≤ proto ∧ proto ≤ 255) && (dec (0 ≤ x ∧ x ≤ 4294967295) && dec (0 ≤ port ∧ port ≤ 65535))) = true) (h3 : fv (fitB proto x port) r.rs < 0) : frC r proto x port = 5 ∧ frK r proto x port = 0 := by
  have e : frC r proto x port = 5 := by unfold frC; rw [if_neg (by rw [h]; simp), if_neg (by rw [h2]; simp), if_pos h3]
  exact ⟨e, by unfold frK; rw [e]; rfl⟩
theorem frC_yes {r : RoleV} {proto x port : Int} (h : roB r = true) (h2 : (dec (0 ≤ proto ∧ proto ≤ 255) && (dec (0 ≤ x ∧ x ≤ 4294967295) && dec (0 ≤ port ∧ port ≤ 65535))) = true) (h3 : ¬ fv (fitB proto x port) r.rs < 0) : frC r proto x port = 0 ∧ frK r proto x port = fv (fitB proto x port) r.rs := by
  have e : frC r proto x port = 0 := by unfold frC; rw [if_neg (by rw [h]; simp), if_neg (by rw [h2]; simp), if_neg h3]
  exact ⟨e, by unfold frK; rw [e]; rfl⟩

end Go.Proofs.YtmeejholckelgaaGreat
