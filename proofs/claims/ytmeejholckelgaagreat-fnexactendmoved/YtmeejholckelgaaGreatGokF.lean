/- Right guests, as pure words. -/
import Derived.Test.YtmeejholckelgaaGreatConfW
import Derived.Test.YtmeejholckelgaaGreatGokP
import Derived.Test.YtmeejholckelgaaGreatSmallA
namespace Go.Proofs.YtmeejholckelgaaGreat
open Go.RowKit Go.PlainAid Go.Proofs.YtmeejholckelgaaGreat.Bt Go.Sort
set_option linter.unusedVariables false
set_option maxRecDepth 20000
def rfP (s : ByteArray) (r : RoleV) : Bool := r.nm.toList == s.toList
def roI (ros : List RoleV) (s : ByteArray) : Int := match ros.find? (rfP s) with | some _ => (ros.findIdx (rfP s) : Int) | none => -1
def roH (ros : List RoleV) (s : ByteArray) : Bool := (ros.find? (rfP s)).isSome
def uB (ros : List RoleV) (u : UserV) : Bool := snB u.nm && (dec (u.sa.size ≤ 40) && (dec (u.ha.size = 32) && (roH ros u.ro && (dec (0 ≤ u.bl ∧ u.bl ≤ 1000000) && dec (0 ≤ u.lg ∧ u.lg ≤ 1000)))))
def ltU (y x : UserV) : Bool := ltS y.nm x.nm
def usB (ros : List RoleV) (us : List UserV) : Bool := dec (us.length ≤ 6) && risB (uB ros) ltU us
def sB (nx : Int) (ul : Nat) (ip b : Int) (s : SessV) : Bool :=
  dec (1 ≤ s.id ∧ s.id ≤ nx - 1) && (dec (0 ≤ s.us ∧ s.us ≤ (ul : Int) - 1) && (dec (s.mc.size = 6) && (hB ip b s.ip && (dec (0 ≤ s.ip ∧ s.ip ≤ 4294967295) && (dec (0 ≤ s.be ∧ s.be ≤ 100000) && (dec (s.be ≤ s.la ∧ s.la ≤ 100000) && (dec (1 ≤ s.qu ∧ s.qu ≤ 1000000) && (dec (0 ≤ s.ud ∧ s.ud ≤ s.qu) && (dec (s.be ≤ s.un ∧ s.un ≤ 101000) && dec (1 ≤ s.il ∧ s.il ≤ 1000))))))))))
def faB (f : FailV) : Bool := dec (f.mc.size = 6) && (dec (0 ≤ f.ct ∧ f.ct ≤ 2) && dec (0 ≤ f.un ∧ f.un ≤ 100010))
def ltF (y x : FailV) : Bool := ltS y.mc x.mc
def reB (nx : Int) (r : RecV) : Bool := dec (1 ≤ r.id ∧ r.id ≤ nx - 1) && (dec (0 ≤ r.tm ∧ r.tm ≤ 100000) && (dec (0 ≤ r.bt ∧ r.bt ≤ 1000000) && ((r.st == dec (0 < r.ca)) && (dec (0 ≤ r.ca ∧ r.ca ≤ 6) && (r.st || dec (r.bt = 0))))))
def gokB (ip b gt : Int) (gm wm : ByteArray) (rs : Int) (ps : List PlaceV) (ros : List RoleV) (us : List UserV) (ss : List SessV) (fs : List FailV) (es : List RecV) (nx : Int) : Bool :=
  confB ip b gt gm wm rs ps ros && (dec (1 ≤ nx ∧ nx ≤ 10000) && (usB ros us && ((dec (ss.length ≤ 3) && seB (sB nx us.length ip b) ss) && ((dec (fs.length ≤ 20) && risB faB ltF fs) && (dec (es.length ≤ 60) && es.all (reB nx))))))
/-- What the sizes allow. -/
def SzU (us : List UserV) : Prop := ∀ u ∈ us, u.nm.size ≤ 1048576 ∧ u.sa.size ≤ 1048576 ∧ u.ha.size ≤ 1048576 ∧ u.ro.size ≤ 1048576
theorem bfind_no {α : Type} {p : α → Bool} {xs : List α} {k : Nat} {x : α} (hx : xs[k]? = some x) (h : (xs.take k).find? p = none) (hp : p x = false) : (xs.take (k + 1)).find? p = none := by
  rw [List.take_add_one, hx, List.find?_append, h]
  simp [hp]
theorem bfind_yes {α : Type} {p : α → Bool} {xs : List α} {k : Nat} {x : α} (hx : xs[k]? = some x) (h : (xs.take k).find? p = none) (hp : p x = true) : xs.find? p = some x := by
  have e : xs = xs.take (k + 1) ++ xs.drop (k + 1) := (List.take_append_drop _ _).symm
  rw [e, List.find?_append, List.take_add_one, hx, List.find?_append, h]
  simp [hp]
theorem bfind_at {α : Type} {p : α → Bool} {xs : List α} {k : Nat} {x : α} (hx : xs[k]? = some x) (h : (xs.take k).find? p = none) (hp : p x = true) : xs.findIdx p = k := by
  obtain ⟨hk, rfl⟩ := List.getElem?_eq_some_iff.1 hx
  rw [List.findIdx_eq hk]
  refine ⟨hp, fun j hj => ?_⟩
  rw [List.find?_eq_none] at h
  have := h (xs[j]'(by omega)) (by rw [List.mem_iff_getElem?]; exact ⟨j, by rw [List.getElem?_take, if_pos hj]; exact List.getElem?_eq_getElem _⟩)
  simpa using this
theorem bfind_end {α : Type} {p : α → Bool} {xs : List α} {k : Nat} (hk : xs.length = k) (h : (xs.take k).find? p = none) : xs.find? p = none := by
  rw [List.take_of_length_le (by omega)] at h
  exact h
end Go.Proofs.YtmeejholckelgaaGreat
