/- The source of drawn choices: one byte, and one of 0 to n - 1; whatever is drawn, it lies within its bounds, and nothing but the source's own cells has turned. -/
import Derived.Test.YtdhjbbnggeamhacProg
import Derived.Test.YtdhjbbnggeamhacOwn
import Derived.BigQuiet
import Derived.BigRegion
import Derived.Deep.QuietTactic
import Derived.Deep.RegionHeld3
namespace Go.Proofs.Ytdhjbbnggeamhac
open Go.RowKit Go.PlainAid
set_option linter.unusedVariables false

/-- Nothing but block q has turned. -/
structure Only (q : Nat) (w w' : World) : Prop where
  os : w'.os = w.os
  tape : w'.tape = w.tape
  output : w'.output = w.output
  size : w'.heap.size = w.heap.size
  block : ∀ b, b ≠ q → w'.heap[b]? = w.heap[b]?
theorem Only.refl (q : Nat) (w : World) : Only q w w := ⟨rfl, rfl, rfl, rfl, fun _ _ => rfl⟩
theorem Only.trans {q : Nat} {a b c : World} (h : Only q a b) (k : Only q b c) : Only q a c :=
  ⟨k.os.trans h.os, k.tape.trans h.tape, k.output.trans h.output, k.size.trans h.size, fun i hi => (k.block i hi).trans (h.block i hi)⟩
theorem Only.drewN {q : Nat} {a b : World} (h : Only q a b) (n : Nat) : Only q a (b.drewN n) := ⟨h.os, h.tape, h.output, h.size, h.block⟩
theorem Only.drew {q : Nat} {a b : World} (h : Only q a b) : Only q a b.drew := ⟨h.os, h.tape, h.output, h.size, h.block⟩
theorem Only.setCell {q : Nat} {a b : World} (h : Only q a b) (o : Nat) (v : Value) : Only q a (b.setCell ⟨q, o, none⟩ v) :=
  ⟨h.os, h.tape, h.output, by simp [h.size], fun i hi => by rw [Below.heap_setCell _ _ _ _ (by exact hi)]; exact h.block i hi⟩
theorem Only.below {q B : Nat} {w w' : World} (h : Only q w w') (hB : B ≤ q) : Below B w w' :=
  ⟨h.os, h.tape, h.output, by rw [h.size]; exact Nat.le_refl _, fun i hi => h.block i (by omega)⟩
theorem Only.cell {q : Nat} {w w' : World} (h : Only q w w') {p : Addr} (hp : p.block ≠ q) : w'.cell? p = w.cell? p := World.cell?_of_block (h.block p.block hp)
theorem Bytes.only {q : Nat} {w w' : World} {a : Option Addr} {len : Nat} {f : Nat → Int} (h : Bytes w a len f) (ho : Only q w w') (hq : ∀ b off, 0 < len → a = some ⟨b, off, none⟩ → b ≠ q) : Bytes w' a len f := by
  refine ⟨h.1, fun h0 => ?_⟩
  obtain ⟨b, off, rfl, hc⟩ := h.2 h0
  exact ⟨b, off, rfl, fun i hi => by rw [ho.cell (p := ⟨b, off + i, none⟩) (hq b off h0 rfl)]; exact hc i hi⟩

/-- The source at block q: its code, how many were drawn, its seed. -/
structure Src (w : World) (q : Nat) (a : Option Addr) (len cap : Nat) (f : Nat → Int) (m : Nat) : Prop where
  code : w.cell? ⟨q, 0, none⟩ = some (.slice a len cap)
  at_ : w.cell? ⟨q, 1, none⟩ = some (.int .i64 m)
  seed : ∃ s : Int, 0 ≤ s ∧ s < 2147483648 ∧ w.cell? ⟨q, 2, none⟩ = some (.int .i64 s)
  free : ∀ o, o < 3 → w.frozen? ⟨q, o, none⟩ = false
  bytes : Bytes w a len f
  small : len ≤ 1048576
  apart : ∀ b off, 0 < len → a = some ⟨b, off, none⟩ → b ≠ q

theorem seed1 (s c : Int) (h0 : 0 ≤ s) (h1 : s < 2147483648) (c0 : 0 ≤ c) (c1 : c ≤ 255) : 0 ≤ (s * 31 + c + 7) % 2147483648 ∧ (s * 31 + c + 7) % 2147483648 < 2147483648 := by omega
theorem seed2 (s : Int) (h0 : 0 ≤ s) (h1 : s < 2147483648) : 0 ≤ (s * 1103515245 + 12345) % 2147483648 ∧ (s * 1103515245 + 12345) % 2147483648 < 2147483648 := by omega


/-- What a draw leaves. -/
theorem Src.next {w w1 w' : World} {q : Nat} {a : Option Addr} {len cap : Nat} {f : Nat → Int} {m : Nat} (h : Src w q a len cap f m) (t : Int) (t0 : 0 ≤ t) (t1 : t < 2147483648)
    (e1 : w1 = w.setCell ⟨q, 1, none⟩ (.int .i64 ((m : Int) + 1))) (e2 : w'.heap = (w1.setCell ⟨q, 2, none⟩ (.int .i64 t)).heap) (o : w'.os = w.os) (tp : w'.tape = w.tape) (ou : w'.output = w.output) :
    Src w' q a len cap f (m + 1) ∧ Only q w w' := by
  have eqc : ∀ p, w'.cell? p = (w1.setCell ⟨q, 2, none⟩ (.int .i64 t)).cell? p := fun p => World.cell?_of_block (by rw [e2])
  have eqf : ∀ p, w'.frozen? p = (w1.setCell ⟨q, 2, none⟩ (.int .i64 t)).frozen? p := fun p => World.frozen?_of_block (by rw [e2])
  have hO1 : Only q w (w1.setCell ⟨q, 2, none⟩ (.int .i64 t)) := by subst e1; exact ((Only.refl q w).setCell 1 _).setCell 2 _
  have hO : Only q w w' := ⟨o, tp, ou, by rw [e2]; exact hO1.size, fun b hb => by rw [e2]; exact hO1.block b hb⟩
  obtain ⟨hc, ha, ⟨s, s0, s1, hs⟩, hf, hb, hl, hap⟩ := h
  subst e1
  refine ⟨⟨?_, ?_, ⟨t, t0, t1, ?_⟩, ?_, hb.only hO hap, hl, hap⟩, hO⟩
  · rw [eqc, World.cell?_setCell_other _ _ _ _ (by simp), World.cell?_setCell_other _ _ _ _ (by simp)]; exact hc
  · rw [eqc, World.cell?_setCell_other _ _ _ _ (by simp), World.cell?_setCell_same _ _ _ ha]; simp
  · rw [eqc]; exact World.cell?_setCell_same _ _ _ (by rw [World.cell?_setCell_other _ _ _ _ (by simp)]; exact hs)
  · intro o ho; rw [eqf]; simpa using hf o ho
/-- What a draw leaves that keeps the seed. -/
theorem Src.still {w w' : World} {q : Nat} {a : Option Addr} {len cap : Nat} {f : Nat → Int} {m : Nat} (h : Src w q a len cap f m)
    (e2 : w'.heap = (w.setCell ⟨q, 1, none⟩ (.int .i64 ((m : Int) + 1))).heap) (o : w'.os = w.os) (tp : w'.tape = w.tape) (ou : w'.output = w.output) :
    Src w' q a len cap f (m + 1) ∧ Only q w w' := by
  have eqc : ∀ p, w'.cell? p = (w.setCell ⟨q, 1, none⟩ (.int .i64 ((m : Int) + 1))).cell? p := fun p => World.cell?_of_block (by rw [e2])
  have eqf : ∀ p, w'.frozen? p = (w.setCell ⟨q, 1, none⟩ (.int .i64 ((m : Int) + 1))).frozen? p := fun p => World.frozen?_of_block (by rw [e2])
  have hO1 : Only q w (w.setCell ⟨q, 1, none⟩ (.int .i64 ((m : Int) + 1))) := (Only.refl q w).setCell 1 _
  have hO : Only q w w' := ⟨o, tp, ou, by rw [e2]; exact hO1.size, fun b hb => by rw [e2]; exact hO1.block b hb⟩
  obtain ⟨hc, ha, ⟨s, s0, s1, hs⟩, hf, hb, hl, hap⟩ := h
  refine ⟨⟨?_, ?_, ⟨s, s0, s1, ?_⟩, ?_, hb.only hO hap, hl, hap⟩, hO⟩
  · rw [eqc, World.cell?_setCell_other _ _ _ _ (by simp)]; exact hc
  · rw [eqc, World.cell?_setCell_same _ _ _ ha]; simp
  · rw [eqc, World.cell?_setCell_other _ _ _ _ (by simp)]; exact hs
  · intro o ho; rw [eqf]; simpa using hf o ho

end Go.Proofs.Ytdhjbbnggeamhac
