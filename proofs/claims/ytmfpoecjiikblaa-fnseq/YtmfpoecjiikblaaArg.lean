/- A slice of bytes that came in, as a row of bytes; a world with new blocks alone is one that keeps what was there. Nothing of the program is imported. -/
import Derived.Test.YtmfpoecjiikblaaBytes
import Derived.OpenShut
namespace Go.Proofs.Ytmfpoecjiikblaa
open Go.RowKit Go.PlainAid
set_option linter.unusedVariables false

theorem bytes_of_row {w : World} {a : Option Addr} {len cap : Nat} {zs : List Int}
    (h : (a = none ∧ len = 0 ∧ cap = 0 ∧ zs = []) ∨ ∃ x, a = some x ∧ len ≤ cap ∧ cap ≤ maxLen ∧ zs.length = cap ∧ (∀ i, i < zs.length → w.cell? (x.add i) = some (.int .u8 (zs.getD i 0))) ∧ ∀ n ∈ zs, (Lit.int .u8 n).wf = true) :
    ∃ f, Bytes w a len f ∧ (∀ b off, 0 < len → a = some ⟨b, off, none⟩ → b < w.heap.size) ∧ len ≤ maxLen := by
  rcases h with ⟨rfl, rfl, rfl, rfl⟩ | ⟨x, rfl, hl, hm, hz, hcell, hwz⟩
  · exact ⟨fun _ => 0, ⟨fun _ => ⟨Int.le_refl _, by simp⟩, fun h => absurd h (by omega)⟩, fun b off h => absurd h (by omega), Nat.zero_le _⟩
  · refine ⟨fun j => zs.getD j 0, ⟨fun k => ?_, fun h0 => ?_⟩, ?_, by omega⟩
    · by_cases hk : k < zs.length
      · show 0 ≤ zs.getD k 0 ∧ zs.getD k 0 ≤ 255
        rw [List.getD_eq_getElem?_getD, List.getElem?_eq_getElem hk]
        exact bounds_u8 (hwz _ (List.getElem_mem hk))
      · show 0 ≤ zs.getD k 0 ∧ zs.getD k 0 ≤ 255
        rw [List.getD_eq_getElem?_getD, List.getElem?_eq_none (by omega)]; simp
    · obtain ⟨b, off, spot⟩ := x
      have hc := hcell 0 (by omega)
      have hspot : spot = none := by simpa [Addr.add] using World.cell?_spot hc
      subst hspot
      refine ⟨b, off, rfl, fun i hi => ?_⟩
      have ea : (⟨b, off, none⟩ : Addr).add i = ⟨b, off + i, none⟩ := by unfold Addr.add; split <;> simp_all
      have := hcell i (by omega)
      rwa [ea] at this
    · intro b off h0 hx
      cases hx
      have hc := hcell 0 (by omega)
      simpa [Addr.add] using World.block_lt_of_cell? w _ hc
theorem addr_of_row {w : World} {a : Option Addr} {len cap : Nat} {zs : List Int}
    (h : (a = none ∧ len = 0 ∧ cap = 0 ∧ zs = []) ∨ ∃ x, a = some x ∧ len ≤ cap ∧ cap ≤ maxLen ∧ zs.length = cap ∧ (∀ i, i < zs.length → w.cell? (x.add i) = some (.int .u8 (zs.getD i 0))) ∧ ∀ n ∈ zs, (Lit.int .u8 n).wf = true) :
    (a = none → len = 0 ∧ cap = 0) ∧ (∀ y, a = some y → 0 < cap → ∃ b off, y = ⟨b, off, none⟩) ∧ len ≤ cap ∧ cap ≤ maxLen := by
  rcases h with ⟨rfl, rfl, rfl, rfl⟩ | ⟨x, rfl, hl, hm, hz, hcell, hwz⟩
  · exact ⟨fun _ => ⟨rfl, rfl⟩, fun y hy => (by cases hy), Nat.le_refl _, Nat.zero_le _⟩
  · refine ⟨fun h => (by cases h), fun y hy h0 => ?_, hl, hm⟩
    cases hy
    obtain ⟨b, off, spot⟩ := x
    have hc := hcell 0 (by omega)
    have hspot : spot = none := by simpa [Addr.add] using World.cell?_spot hc
    subst hspot
    exact ⟨b, off, rfl⟩
end Go.Proofs.Ytmfpoecjiikblaa
