/- A row of bytes, whatever it is, behind a row of one's own. -/
import Derived.Test.YtimhkeebgogfoabDoorApp
import Derived.Laws.OwnMore
namespace Go.Proofs.YtimhkeebgogfoabDoor
open Go.RowKit Go.PlainAid
set_option linter.unusedVariables false

theorem news_of_bytes {w : World} {b off len : Nat} {f : Nat → Int} (h : Bytes w (some ⟨b, off, none⟩) len f) : ∀ j u, (((List.range len).map f).map (Value.int .u8))[j]? = some u → w.cell? ((⟨b, off, none⟩ : Addr).add j) = some u := by
  intro j u hu
  have hj : j < len := by
    by_cases hj : j < len
    · exact hj
    · rw [List.getElem?_eq_none (by simp; omega)] at hu; cases hu
  obtain ⟨b', off', e, hc⟩ := h.2 (by omega)
  cases e
  have ea : (⟨b, off, none⟩ : Addr).add j = ⟨b, off + j, none⟩ := by unfold Addr.add; split <;> simp_all
  rw [ea, hc j hj]
  simpa [hj] using hu
theorem wpl_byt (w : World) {ops : Array Oper} {rest : List Oper} {o : Oper} {a : Act} {Q : Exit → Act → World → Prop} (hgd : o.guard = none) (s x : Operand)
    (ho : o.op = .call { callee := .builtin .append, args := #[s, x], argTypes := #[37, 37] })
    (B : Nat) (v : Value) (L : List Int) (hs : a.eval s = v) (hown : OwnL 5 w B v L)
    (ad : Option Addr) (m c : Nat) (f : Nat → Int) (hx : a.eval x = .slice ad m c) (hby : Bytes w ad m f) (hn : ad = none → m = 0 ∧ c = 0)
    (hlen : L.length + m ≤ 1000000) (hB : B ≤ w.heap.size)
    (h : ∀ v' w', Hid (Laid w w' B v' (L ++ (List.range m).map f)) → wpList Tryd.prog ops Q rest (a.put o.dst v') w') : wpList Tryd.prog ops Q (o :: rest) a w := by
  cases ad with
  | none =>
    obtain ⟨rfl, rfl⟩ := hn rfl
    obtain ⟨i0, hi, hz0, hz1, hz2⟩ := info_parts Tryd.infoB
    have hr := run_append_owned_none (P := Tryd.prog) (w := w) B 37 o.type 5 i0 1 Tryd.underlying37 hi v L.length (L.map (Value.int .u8)) hown
    refine wpList_plain hgd fun K hK => ?_
    unfold Oper.wp execOp
    simp only [ho, resolve, invoke, builtin, Sem.run_bind, Sem.run_pure, Result.andThen_ok, List.map_toArray, List.map_cons, List.map_nil, hs, hx, hr]
    exact hK _ _ (h v w ⟨by simpa using hown, Below.refl _ _⟩)
  | some y =>
    by_cases h0 : m = 0
    · subst h0
      exact wpl_app w hgd s x ho B v L hs hown y 0 c ((List.range 0).map f) hx rfl (fun j u hu => by simp at hu) hlen hB h
    · obtain ⟨b, off, e, -⟩ := hby.2 (by omega)
      cases e
      exact wpl_app w hgd s x ho B v L hs hown ⟨b, off, none⟩ m c ((List.range m).map f) hx (by simp) (news_of_bytes hby) hlen hB h
end Go.Proofs.YtimhkeebgogfoabDoor
