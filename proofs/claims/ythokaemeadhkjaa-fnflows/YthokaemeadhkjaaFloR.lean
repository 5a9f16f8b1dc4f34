/- Right flows stay right: kept, passed, opened. Pure. -/
import Derived.Test.YthokaemeadhkjaaFloF
import Derived.Test.YthokaemeadhkjaaDrawFl
namespace Go.Proofs.Ythokaemeadhkjaa
open Go.RowKit Go.PlainAid
set_option linter.unusedVariables false

/-- Ends apart. -/
def apR (g f : EnV) : Prop := g ≠ f ∧ g ≠ enT f
theorem apOk_iff (fs : List FlowV) : apOk fs fs.length ↔ (fs.map enOf).Pairwise apR := by
  rw [List.pairwise_iff_getElem]
  constructor
  · intro h i j hi hj hij
    simp at hi hj
    have := h j fs[j] hj (List.getElem?_eq_getElem hj) i fs[i] hij (List.getElem?_eq_getElem hi)
    simpa [apR] using this
  · intro h j f hj hf i g hij hg
    have hi := lt_at hg
    have h1 := h i j (by simpa using hi) (by simpa using hj) hij
    have e1 : fs[i] = g := (List.getElem?_eq_some_iff.1 hg).2
    have e2 : fs[j] = f := (List.getElem?_eq_some_iff.1 hf).2
    simp only [List.getElem_map, e1, e2] at h1
    exact h1
theorem alOk_iff (fs : List FlowV) : alOk fs fs.length ↔ ∀ f, f ∈ fs → flB f = true := by
  constructor
  · intro h f hf
    obtain ⟨i, hi⟩ := List.getElem?_of_mem hf
    exact h i f (lt_at hi) hi
  · intro h i f _ hf
    exact h f (List.mem_of_getElem? hf)
theorem foB_iff (fs : List FlowV) : foB fs = true ↔ fs.length ≤ 8 ∧ (∀ f, f ∈ fs → flB f = true) ∧ (fs.map enOf).Pairwise apR := by
  constructor
  · intro h
    obtain ⟨h1, h2, h3⟩ := foB_says h
    exact ⟨h1, (alOk_iff fs).1 h2, (apOk_iff fs).1 h3⟩
  · rintro ⟨h1, h2, h3⟩
    exact foB_yes h1 ((alOk_iff fs).2 h2) ((apOk_iff fs).2 h3)
theorem foB_nil : foB [] = true := (foB_iff []).2 ⟨by simp, by simp, by simp⟩
theorem foB_sub {fs gs : List FlowV} (h : foB fs = true) (hs : gs.Sublist fs) : foB gs = true := by
  obtain ⟨h1, h2, h3⟩ := (foB_iff fs).1 h
  exact (foB_iff gs).2 ⟨Nat.le_trans hs.length_le h1, fun f hf => h2 f (hs.subset hf), h3.sublist (hs.map enOf)⟩
theorem foB_filter {fs : List FlowV} (h : foB fs = true) (p : FlowV → Bool) : foB (fs.filter p) = true := foB_sub h List.filter_sublist
theorem foB_erase {fs : List FlowV} (h : foB fs = true) (k : Nat) : foB (fs.eraseIdx k) = true := foB_sub h (List.eraseIdx_sublist fs k)
theorem map_set_same {fs : List FlowV} {k : Nat} {f y : FlowV} (hf : fs[k]? = some f) (he : enOf y = enOf f) : (fs.set k y).map enOf = fs.map enOf := by
  apply List.ext_getElem?
  intro i
  rw [List.getElem?_map, List.getElem?_map]
  by_cases hik : k = i
  · subst hik
    rw [List.getElem?_set_self (lt_at hf), hf]
    simp [he]
  · rw [List.getElem?_set_ne hik]
theorem foB_set {fs : List FlowV} (h : foB fs = true) {k : Nat} {f y : FlowV} (hf : fs[k]? = some f) (he : enOf y = enOf f) (hy : flB y = true) : foB (fs.set k y) = true := by
  obtain ⟨h1, h2, h3⟩ := (foB_iff fs).1 h
  refine (foB_iff _).2 ⟨by rw [List.length_set]; exact h1, fun x hx => ?_, by rw [map_set_same hf he]; exact h3⟩
  rcases List.mem_or_eq_of_mem_set hx with h4 | h4
  · exact h2 x h4
  · rw [h4]; exact hy
theorem flB_paF {f : FlowV} {back : Bool} {flags now : Int} (h : flB f = true) (hn : 0 ≤ now ∧ now ≤ 100000) : flB (paF f back flags now) = true := by
  have h1 := psS_bd (pr := f.pr) (flags := flags) (back := back) (flB_bd h).2.2.1
  have h2 := wtN_bd f.pr (psS f.pr f.st flags back)
  unfold flB at h ⊢
  unfold paF
  simp [dec] at h ⊢
  omega
/-- Of right flows, what a pass leaves is right. -/
theorem foB_pass {fs : List FlowV} (h : foB fs = true) {k : Nat} {f : FlowV} (hf : fs[k]? = some f) (back : Bool) (flags now : Int) (hn : 0 ≤ now ∧ now ≤ 100000) :
    foB (if f.pr = 6 ∧ (bits BinOp.and IntKind.i64 flags 4 != 0) = true then fs.eraseIdx k else fs.set k (paF f back flags now)) = true := by
  split
  · exact foB_erase h k
  · exact foB_set h hf rfl (flB_paF (((foB_iff fs).1 h).2.1 f (List.mem_of_getElem? hf)) hn)
theorem foB_open {fs : List FlowV} (h : foB fs = true) (h8 : fs.length < 8) {y : FlowV} (hy : flB y = true) (hno : apAt fs fs.length (enOf y)) : foB (fs ++ [y]) = true := by
  obtain ⟨h1, h2, h3⟩ := (foB_iff fs).1 h
  refine (foB_iff _).2 ⟨by simp; omega, fun x hx => ?_, ?_⟩
  · rcases List.mem_append.1 hx with h4 | h4
    · exact h2 x h4
    · simp at h4; rw [h4]; exact hy
  · rw [List.map_append, List.pairwise_append]
    refine ⟨h3, by simp, ?_⟩
    intro a ha b hb
    simp at hb
    subst hb
    rw [List.mem_map] at ha
    obtain ⟨g, hg, rfl⟩ := ha
    obtain ⟨i, hi⟩ := List.getElem?_of_mem hg
    exact hno i g (lt_at hi) hi
theorem flB_wf {f : FlowV} (h : flB f = true) : FlRok f := by
  unfold flB at h
  simp [dec] at h
  have hm : f.mc.size ≤ maxLen := by unfold maxLen; omega
  exact ⟨int_wfO (by omega) (by omega), hm, int_wfO (by omega) (by omega), int_wfO (by omega) (by omega), int_wfO (by omega) (by omega), int_wfO (by omega) (by omega), int_wfO (by omega) (by omega), int_wfO (by omega) (by omega), int_wfO (by omega) (by omega)⟩
theorem foB_wf {fs : List FlowV} (h : foB fs = true) : ∀ x, x ∈ fs → FlRok x := fun x hx => flB_wf (((foB_iff fs).1 h).2.1 x hx)
theorem DrF_ok {f : FlowV} (h : DrF f) : flB f = true := by
  unfold DrF at h
  unfold flB
  simp [dec]
  omega
theorem DrF_new {f : FlowV} (h : DrF f) {now : Int} (hn : 0 ≤ now ∧ now ≤ 100000) : flB { f with st := 1, un := now + wtN f.pr 1 } = true := by
  have := wtN_bd f.pr 1
  unfold DrF at h
  unfold flB
  simp [dec]
  omega
/-- The ends of a drawn flow differ. -/
theorem DrF_turn {f : FlowV} (h : DrF f) : enOf f ≠ enT (enOf f) := by
  intro e
  unfold enOf enT at e
  have h1 : f.si = f.di := by injection e
  unfold DrF at h
  omega
end Go.Proofs.Ythokaemeadhkjaa
