/- copyGateway of the program. -/
import Derived.Test.YtbeehlhcckndcaaDoorJ8
import Derived.Test.YtbeehlhcckndcaaDoorJ10
namespace Go.Proofs.YtbeehlhcckndcaaDoor
open Go.RowKit Go.PlainAid Go.Proofs.YtbeehlhcckndcaaDoor.Bt Go.Sort
set_option linter.unusedVariables false
set_option maxRecDepth 20000
/-- What the walk carries: the gateway's box, the result's, and that nothing elder is written. -/
structure CB (w : World) (cs : List Value) (W : World) : Prop where
  g : Bx W w.heap.size cs
  r : Bx W (w.heap.size + 1) [.int .i64 0, .int .i64 0, .int .i64 0, .string ⟨#[]⟩, .string ⟨#[]⟩, .int .i64 0, .slice none 0 0, .slice none 0 0, .slice none 0 0, .slice none 0 0, .slice none 0 0, .slice none 0 0, .int .i64 0, .slice none 0 0, .slice none 0 0, .int .i64 0, .int .i64 0, .int .i64 0]
  b : Below w.heap.size w W
  z : w.heap.size + 2 ≤ W.heap.size
theorem CB.call {w : World} {cs : List Value} {W W' : World} (h : CB w cs W) (hb : Below W.heap.size W W') : CB w cs W' := ⟨h.g.below hb, h.r.below hb, h.b.trans (hb.mono h.b.size), Nat.le_trans h.z hb.size⟩
theorem CB.put {w : World} {cs : List Value} {W : World} (h : CB w cs W) (o : Nat) (vs : List Value) : CB w (sets cs o vs) (W.setCells w.heap.size o vs) :=
  ⟨h.g.sets vs o _ _, h.r.apartO vs (by omega), below_cells (Nat.le_refl _) vs o _ h.b, by rw [(heap_cellsA vs o W).1]; exact h.z⟩
theorem CB.row {w : World} {cs : List Value} {W W' : World} {k : Nat} (h : CB w cs W) (hg : W.grownBy W' (some k)) (hk : w.heap.size + 2 ≤ k) : CB w cs W' := by
  have kp : Rel.Keep (fun b => b < W.heap.size ∧ b ≠ k) W W' := ⟨hg.os, hg.tape, hg.output, hg.size, fun b hb => hg.block b hb.1 (fun e => hb.2 (Option.some.inj e))⟩
  have hz := h.z
  refine ⟨bx_keep h.g kp ⟨by omega, by omega⟩, bx_keep h.r kp ⟨by omega, by omega⟩, ?_, Nat.le_trans h.z hg.size⟩
  exact ⟨hg.os.trans h.b.os, hg.tape.trans h.b.tape, hg.output.trans h.b.output, Nat.le_trans h.b.size hg.size, fun b hb => (hg.block b (by have := h.b.size; omega) (fun e => by have := Option.some.inj e; omega)).trans (h.b.block b hb)⟩
theorem own_putG {α : Type} {c : α → List Value} {K : Nat} {e : TypeId} {B q : Nat} {v : Value} {xs : List α} {W : World} (h : OwnS c K e W B v xs) (hq : q < B) (o : Nat) (vs : List Value) : OwnS c K e (W.setCells q o vs) B v xs := own_cellsB hq vs o W h
theorem ro_putG {W : World} {B q : Nat} {v : Value} {L : List RoX} (h : OwnRo W B v L) (hq : q < B) (o : Nat) (vs : List Value) : OwnRo (W.setCells q o vs) B v L :=
  h.keepB (fun b hb => (heap_cellsA vs o W).2 b (by have := (h.lt b hb).1; omega))
theorem own4_putG {W : World} {B q : Nat} {vu vs vf vr : Value} {us : List UserV} {ss : List SessV} {fs : List FailV} {rs : List RecV} (h : Own4 W B vu vs vf vr us ss fs rs) (hq : q < B) (o : Nat) (cs : List Value) : Own4 (W.setCells q o cs) B vu vs vf vr us ss fs rs :=
  ⟨own_putG h.u hq o cs, own_putG h.s hq o cs, own_putG h.f hq o cs, own_putG h.r hq o cs, h.us_, h.uf, h.ur, h.sf, h.sr, h.fr⟩
/-- Roles as they lie. -/
theorem roles_lie {w : World} {B n cap : Nat} {y : Option Addr} {ros : List RoleV} {L : List RoX} (o : OwnRo w B (.slice y n cap) L) (hl : L.map (fun x => x.r) = ros) (h : Rw (RoR 0) 5 w y ros) : ∀ x, x ∈ L → RoXok x ∧ x.r.rs.length ≤ x.rc ∧ x.rc ≤ maxLen ∧ Rw RuR 6 w x.ra x.r.rs ∧ (∀ p, x.ra = some p → p.spot = none) ∧ (x.ra = none → x.r.rs.length = 0 ∧ x.rc = 0) := by
  intro x hx
  obtain ⟨i, hi⟩ := List.getElem?_of_mem hx
  have hlen := (List.getElem?_eq_some_iff.1 hi).1
  obtain ⟨g, rfl, -, -, -⟩ := o.row.form (by omega)
  have hr : ros[i]? = some x.r := by rw [← hl, List.getElem?_map, hi]; rfl
  have hrl := (List.getElem?_eq_some_iff.1 hr).1
  obtain ⟨b, off, e, _, hc⟩ := h (by omega)
  cases e
  obtain ⟨vs, hv1, ⟨a, c, hvs, h1, h2, h3, h4, _⟩, hv2⟩ := hc i x.r hr
  have c1 := (o.row.cell roG_len (j := 1) hi rfl).1
  have d1 := hv2 1 (.slice a x.r.rs.length c) (by rw [hvs]; rfl)
  have e1 : (Value.slice x.ra x.r.rs.length x.rc) = .slice a x.r.rs.length c := by
    have : some (Value.slice x.ra x.r.rs.length x.rc) = some (.slice a x.r.rs.length c) := by
      rw [← c1, ← d1]; simp
    exact Option.some.inj this
  cases e1
  have hru := o.rules x hx
  refine ⟨h1, h2, h3, h4, ?_, ?_⟩
  · intro p hp
    rcases hru.2 with ⟨e, _⟩ | ⟨g', cap', cur, e, _⟩
    · unfold RoX.sl at e; simp only [Value.slice.injEq] at e; rw [hp] at e; exact absurd e.1 (by simp)
    · unfold RoX.sl at e; simp_all
  · intro hn
    rcases hru.2 with ⟨e, e'⟩ | ⟨g', cap', cur, e, _⟩
    · unfold RoX.sl at e; simp_all
    · unfold RoX.sl at e; simp_all
theorem own_spot {α : Type} {c : α → List Value} {K n cap : Nat} {a : Option Addr} {e : TypeId} {B : Nat} {xs : List α} {w : World} (h : OwnS c K e w B (.slice a n cap) xs) : xs.length = n ∧ n ≤ cap ∧ (∀ p, a = some p → p.spot = none) ∧ (a = none → n = 0 ∧ cap = 0) := by
  have hn := h.len
  rcases h.2 with ⟨h1, h2⟩ | ⟨g, cap', cur, h1, hB, hg, h3, h4, _⟩
  · simp only [Value.slice.injEq] at h1
    obtain ⟨rfl, rfl, rfl⟩ := h1
    exact ⟨hn, Nat.le_refl _, fun p e => (by cases e), fun _ => ⟨rfl, rfl⟩⟩
  · simp only [Value.slice.injEq] at h1
    obtain ⟨rfl, h5, rfl⟩ := h1
    exact ⟨hn, by omega, fun p e => (by cases e; rfl), fun e => (by cases e)⟩
end Go.Proofs.YtbeehlhcckndcaaDoor
