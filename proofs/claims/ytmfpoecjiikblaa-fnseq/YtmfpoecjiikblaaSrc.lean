/- The source of drawn choices: one byte, and one of 0 to n - 1; whatever is drawn, it lies within its bounds, and nothing but the source's own cells has turned. -/
import Derived.Test.YtmfpoecjiikblaaProg
import Derived.Test.YtmfpoecjiikblaaOwn
import Derived.BigQuiet
import Derived.BigRegion
import Derived.Deep.QuietTactic
import Derived.Deep.RegionHeld3
namespace Go.Proofs.Ytmfpoecjiikblaa
open Go.RowKit Go.PlainAid
set_option linter.unusedVariables false

/-- Nothing but block q has turned. -/
structure Only (q : Nat) (w w' : World) : Prop where
  os : w'.os = w.os
  tape : w'.tape = w.tape
  output : w'.output = w.output
  size : w'.heap.size = w.heap.size
  block : ∀ b, b ≠ q → w'.heap[b]? = w.heap[b]?
theorem Only.refl (q : Nat) (w : World) : Only q w w := ⟨rfl, rfl, rfl, rfl, fun _ _ => rfl⟩
theorem Only.trans {q : Nat} {a b c : World} (h : Only q a b) (k : Only q b c) : Only q a c :=
  ⟨k.os.trans h.os, k.tape.trans h.tape, k.output.trans h.output, k.size.trans h.size, fun i hi => (k.block i hi).trans (h.block i hi)⟩
theorem Only.drewN {q : Nat} {a b : World} (h : Only q a b) (n : Nat) : Only q a (b.drewN n) := ⟨h.os, h.tape, h.output, h.size, h.block⟩
theorem Only.drew {q : Nat} {a b : World} (h : Only q a b) : Only q a b.drew := ⟨h.os, h.tape, h.output, h.size, h.block⟩
theorem Only.setCell {q : Nat} {a b : World} (h : Only q a b) (o : Nat) (v : Value) : Only q a (b.setCell ⟨q, o, none⟩ v) :=
  ⟨h.os, h.tape, h.output, by simp [h.size], fun i hi => by rw [Below.heap_setCell _ _ _ _ (by exact hi)]; exact h.block i hi⟩
theorem Only.below {q B : Nat} {w w' : World} (h : Only q w w') (hB : B ≤ q) : Below B w w' :=
  ⟨h.os, h.tape, h.output, by rw [h.size]; exact Nat.le_refl _, fun i hi => h.block i (by omega)⟩
theorem Only.cell {q : Nat} {w w' : World} (h : Only q w w') {p : Addr} (hp : p.block ≠ q) : w'.cell? p = w.cell? p := World.cell?_of_block (h.block p.block hp)
theorem Bytes.only {q : Nat} {w w' : World} {a : Option Addr} {len : Nat} {f : Nat → Int} (h : Bytes w a len f) (ho : Only q w w') (hq : ∀ b off, 0 < len → a = some ⟨b, off, none⟩ → b ≠ q) : Bytes w' a len f := by
  refine ⟨h.1, fun h0 => ?_⟩
  obtain ⟨b, off, rfl, hc⟩ := h.2 h0
  exact ⟨b, off, rfl, fun i hi => by rw [ho.cell (p := ⟨b, off + i, none⟩) (hq b off h0 rfl)]; exact hc i hi⟩

/-- The source at block q: its code, how many were drawn, its seed. -/
structure Src (w : World) (q : Nat) (a : Option Addr) (len cap : Nat) (f : Nat → Int) (m : Nat) : Prop where
  code : w.cell? ⟨q, 0, none⟩ = some (.slice a len cap)
  at_ : w.cell? ⟨q, 1, none⟩ = some (.int .i64 m)
  seed : ∃ s : Int, 0 ≤ s ∧ s < 2147483648 ∧ w.cell? ⟨q, 2, none⟩ = some (.int .i64 s)
  free : ∀ o, o < 3 → w.frozen? ⟨q, o, none⟩ = false
  bytes : Bytes w a len f
  small : len ≤ 1048576
  apart : ∀ b off, 0 < len → a = some ⟨b, off, none⟩ → b ≠ q

theorem seed1 (s c : Int) (h0 : 0 ≤ s) (h1 : s < 2147483648) (c0 : 0 ≤ c) (c1 : c ≤ 255) : 0 ≤ (s * 31 + c + 7) % 2147483648 ∧ (s * 31 + c + 7) % 2147483648 < 2147483648 := by omega
theorem seed2 (s : Int) (h0 : 0 ≤ s) (h1 : s < 2147483648) : 0 ≤ (s * 1103515245 + 12345) % 2147483648 ∧ (s * 1103515245 + 12345) % 2147483648 < 2147483648 := by omega


/-- What a draw leaves. -/
theorem Src.next {w w1 w' : World} {q : Nat} {a : Option Addr} {len cap : Nat} {f : Nat → Int} {m : Nat} (h : Src w q a len cap f m) (t : Int) (t0 : 0 ≤ t) (t1 : t < 2147483648)
    (e1 : w1 = w.setCell ⟨q, 1, none⟩ (.int .i64 ((m : Int) + 1))) (e2 : w'.heap = (w1.setCell ⟨q, 2, none⟩ (.int .i64 t)).heap) (o : w'.os = w.os) (tp : w'.tape = w.tape) (ou : w'.output = w.output) :
    Src w' q a len cap f (m + 1) ∧ Only q w w' := by
  have eqc : ∀ p, w'.cell? p = (w1.setCell ⟨q, 2, none⟩ (.int .i64 t)).cell? p := fun p => World.cell?_of_block (by rw [e2])
  have eqf : ∀ p, w'.frozen? p = (w1.setCell ⟨q, 2, none⟩ (.int .i64 t)).frozen? p := fun p => World.frozen?_of_block (by rw [e2])
  have hO1 : Only q w (w1.setCell ⟨q, 2, none⟩ (.int .i64 t)) := by subst e1; exact ((Only.refl q w).setCell 1 _).setCell 2 _
  have hO : Only q w w' := ⟨o, tp, ou, by rw [e2]; exact hO1.size, fun b hb => by rw [e2]; exact hO1.block b hb⟩
  obtain ⟨hc, ha, ⟨s, s0, s1, hs⟩, hf, hb, hl, hap⟩ := h
  subst e1
  refine ⟨⟨?_, ?_, ⟨t, t0, t1, ?_⟩, ?_, hb.only hO hap, hl, hap⟩, hO⟩
  · rw [eqc, World.cell?_setCell_other _ _ _ _ (by simp), World.cell?_setCell_other _ _ _ _ (by simp)]; exact hc
  · rw [eqc, World.cell?_setCell_other _ _ _ _ (by simp), World.cell?_setCell_same _ _ _ ha]; simp
  · rw [eqc]; exact World.cell?_setCell_same _ _ _ (by rw [World.cell?_setCell_other _ _ _ _ (by simp)]; exact hs)
  · intro o ho; rw [eqf]; simpa using hf o ho
/-- What a draw leaves that keeps the seed. -/
theorem Src.still {w w' : World} {q : Nat} {a : Option Addr} {len cap : Nat} {f : Nat → Int} {m : Nat} (h : Src w q a len cap f m)
    (e2 : w'.heap = (w.setCell ⟨q, 1, none⟩ (.int .i64 ((m : Int) + 1))).heap) (o : w'.os = w.os) (tp : w'.tape = w.tape) (ou : w'.output = w.output) :
    Src w' q a len cap f (m + 1) ∧ Only q w w' := by
  have eqc : ∀ p, w'.cell? p = (w.setCell ⟨q, 1, none⟩ (.int .i64 ((m : Int) + 1))).cell? p := fun p => World.cell?_of_block (by rw [e2])
  have eqf : ∀ p, w'.frozen? p = (w.setCell ⟨q, 1, none⟩ (.int .i64 ((m : Int) + 1))).frozen? p := fun p => World.frozen?_of_block (by rw [e2])
  have hO1 : Only q w (w.setCell ⟨q, 1, none⟩ (.int .i64 ((m : Int) + 1))) := (Only.refl q w).setCell 1 _
  have hO : Only q w w' := ⟨o, tp, ou, by rw [e2]; exact hO1.size, fun b hb => by rw [e2]; exact hO1.block b hb⟩
  obtain ⟨hc, ha, ⟨s, s0, s1, hs⟩, hf, hb, hl, hap⟩ := h
  refine ⟨⟨?_, ?_, ⟨s, s0, s1, ?_⟩, ?_, hb.only hO hap, hl, hap⟩, hO⟩
  · rw [eqc, World.cell?_setCell_other _ _ _ _ (by simp)]; exact hc
  · rw [eqc, World.cell?_setCell_same _ _ _ ha]; simp
  · rw [eqc, World.cell?_setCell_other _ _ _ _ (by simp)]; exact hs
  · intro o ho; rw [eqf]; simpa using hf o ho

set_option maxHeartbeats 1000000 in
set_option maxRecDepth 100000 in
theorem byte_any (w : World) (q : Nat) (a : Option Addr) (len cap : Nat) (f : Nat → Int) (m : Nat) (h : Src w q a len cap f m) (hm : m ≤ 1000000000) :
    Calls Try.prog 88 #[.pointer (some ⟨q, 0, none⟩)] w fun e w' => ∃ v : Int, e = .returned (.int .i64 v) ∧ 0 ≤ v ∧ v ≤ 255 ∧ Src w' q a len cap f (m + 1) ∧ Only q w w' := by
  have HH : Hid (Src w q a len cap f m) := h
  obtain ⟨hc, ha, ⟨s, s0, s1, hs⟩, hf, hb, hl, hap⟩ := h
  have f1 := hf 1 (by omega)
  have f2 := hf 2 (by omega)
  have HB : Hid (Bytes w a len f) := hb
  have HF : Hid (∀ o, o < 3 → w.frozen? ⟨q, o, none⟩ = false) := hf
  have HP : Hid (∀ b off, 0 < len → a = some ⟨b, off, none⟩ → b ≠ q) := hap
  clear hb hf hap
  have c0 : (w.setCell ⟨q, 1, none⟩ (.int .i64 ((m : Int) + 1))).cell? ⟨q, 0, none⟩ = some (.slice a len cap) := by rw [World.cell?_setCell_other _ _ _ _ (by simp)]; exact hc
  have c1 : (w.setCell ⟨q, 1, none⟩ (.int .i64 ((m : Int) + 1))).cell? ⟨q, 1, none⟩ = some (.int .i64 ((m : Int) + 1)) := World.cell?_setCell_same _ _ _ ha
  have c2 : (w.setCell ⟨q, 1, none⟩ (.int .i64 ((m : Int) + 1))).cell? ⟨q, 2, none⟩ = some (.int .i64 s) := by rw [World.cell?_setCell_other _ _ _ _ (by simp)]; exact hs
  have O1 : Hid (Only q w (w.setCell ⟨q, 1, none⟩ (.int .i64 ((m : Int) + 1)))) := (Only.refl q w).setCell 1 _
  by_cases hle : m + 1 ≤ len
  · go_enter Try.func88, Try.ntmps88
    go_wp2
    go_quiet (fail)
    go_wp2
    obtain ⟨b, off, rfl, hcode⟩ := HB.out.2 (by omega)
    have hne := HP.out b off (by omega) rfl
    have cm : (w.setCell ⟨q, 1, none⟩ (.int .i64 ((m : Int) + 1))).cell? ⟨b, off + m, none⟩ = some (.int .u8 (f m)) := by rw [O1.out.cell (p := ⟨b, off + m, none⟩) hne]; exact hcode m (by omega)
    have g2 : (w.setCell ⟨q, 1, none⟩ (.int .i64 ((m : Int) + 1))).frozen? ⟨q, 2, none⟩ = false := by simpa using f2
    have fm := HB.out.1 m
    clear hcode
    obtain ⟨W, hW⟩ : ∃ W, W = (w.setCell ⟨q, 1, none⟩ (.int .i64 ((m : Int) + 1))) := ⟨_, rfl⟩
    rw [← hW] at c0 c1 c2 O1 cm g2 ⊢
    have HW : Hid (W = (w.setCell ⟨q, 1, none⟩ (.int .i64 ((m : Int) + 1)))) := hW
    clear hW hc ha hs f1 f2
    have i0 : (0 : Int) ≤ (m : Int) := by omega
    have i1 : (m : Int) < (len : Int) := by omega
    go_region
    go_wp2
    go_quiet (fail)
    go_wp2
    go_ret
    have hse := seed1 s (f m) s0 s1 fm.1 fm.2
    exact ⟨f m, rfl, fm.1, fm.2, HH.out.next _ hse.1 hse.2 HW.out rfl O1.out.os O1.out.tape O1.out.output⟩
  · by_cases h3 : (3000 : Int) < (m : Int) + 1
    · go_enter Try.func88, Try.ntmps88
      go_wp2
      go_quiet (fail)
      go_wp2
      go_ret
      exact ⟨0, rfl, by omega, by omega, HH.out.still rfl rfl rfl rfl⟩
    · go_enter Try.func88, Try.ntmps88
      go_wp2
      go_quiet (fail)
      go_wp2
      go_ret
      have hse := seed2 s s0 s1
      refine ⟨(s * 1103515245 + 12345) % 2147483648 / 65536 % 256, rfl, by omega, by omega, ?_⟩
      exact HH.out.next _ hse.1 hse.2 rfl rfl rfl rfl rfl
end Go.Proofs.Ytmfpoecjiikblaa
