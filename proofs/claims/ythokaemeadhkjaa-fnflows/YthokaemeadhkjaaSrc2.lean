/- The source of drawn choices, further: one of 0 to n - 1; a row of drawn bytes. -/
import Derived.Test.YthokaemeadhkjaaSrc
import Derived.Test.YthokaemeadhkjaaInfo
import Derived.Deep.AppendLies
namespace Go.Proofs.Ythokaemeadhkjaa
open Go.RowKit Go.PlainAid
set_option linter.unusedVariables false
set_option maxRecDepth 20000

theorem Src.grown {w w' : World} {q : Nat} {a : Option Addr} {len cap : Nat} {f : Nat → Int} {m : Nat} {row : Option Nat} (h : Src w q a len cap f m) (hg : w.grownBy w' row) (hq : some q ≠ row)
    (hcb : ∀ b off, 0 < len → a = some ⟨b, off, none⟩ → some b ≠ row) : Src w' q a len cap f m := by
  obtain ⟨hc, ha, ⟨s, s0, s1, hs⟩, hf, hb, hl, hap⟩ := h
  have lt : q < w.heap.size := World.block_lt_of_cell? w _ hc
  have ec : ∀ o, w'.cell? ⟨q, o, none⟩ = w.cell? ⟨q, o, none⟩ := fun o => World.cell?_of_block (hg.block q lt hq)
  have ef : ∀ o, w'.frozen? ⟨q, o, none⟩ = w.frozen? ⟨q, o, none⟩ := fun o => World.frozen?_of_block (hg.block q lt hq)
  refine ⟨by rw [ec]; exact hc, by rw [ec]; exact ha, ⟨s, s0, s1, by rw [ec]; exact hs⟩, fun o ho => by rw [ef]; exact hf o ho, ⟨hb.1, fun h0 => ?_⟩, hl, hap⟩
  obtain ⟨b, off, rfl, hcc⟩ := hb.2 h0
  have lb : b < w.heap.size := by simpa using World.block_lt_of_cell? w _ (hcc 0 h0)
  exact ⟨b, off, rfl, fun i hi => by rw [World.cell?_of_block (w := w) (hg.block b lb (hcb b off h0 rfl))]; exact hcc i hi⟩
theorem Only.grownBy {q : Nat} {w w' : World} (h : Only q w w') : w.grownBy w' (some q) := ⟨h.os, h.tape, h.output, Nat.le_of_eq h.size.symm, fun k _ hk => h.block k (fun e => hk (by rw [e]))⟩
theorem grown_trans {w w1 w2 : World} {r : Option Nat} (h : w.grownBy w1 r) (k : w1.grownBy w2 r) : w.grownBy w2 r :=
  ⟨k.os.trans h.os, k.tape.trans h.tape, k.output.trans h.output, Nat.le_trans h.size k.size, fun i hi hr => (k.block i (Nat.lt_of_lt_of_le hi h.size) hr).trans (h.block i hi hr)⟩
/-- Behind a change of a block that is newer than w. -/
theorem grown_newer {w w1 w2 : World} {r r' : Option Nat} (h : w.grownBy w1 r) (k : w1.grownBy w2 r') (hn : ∀ b, r' = some b → w.heap.size ≤ b) : w.grownBy w2 r :=
  ⟨k.os.trans h.os, k.tape.trans h.tape, k.output.trans h.output, Nat.le_trans h.size k.size, fun i hi hr => (k.block i (Nat.lt_of_lt_of_le hi h.size) (fun e => by have := hn i e.symm; omega)).trans (h.block i hi hr)⟩
theorem grown_alloc {w w1 : World} {r : Option Nat} (h : w.grownBy w1 r) (o : Obj) : w.grownBy (w1.alloc o) r := grown_trans h (World.grownBy_alloc w1 o r)

set_option maxHeartbeats 1000000 in
theorem next_any (w : World) (q : Nat) (a : Option Addr) (len cap : Nat) (f : Nat → Int) (m : Nat) (n : Int) (h : Src w q a len cap f m) (hm : m ≤ 999999990) (hn : 1 ≤ n) (hn2 : n ≤ 1000000000) :
    Calls Try.prog 63 #[.pointer (some ⟨q, 0, none⟩), .int .i64 n] w fun e w' => ∃ (v : Int) (m' : Nat), e = .returned (.int .i64 v) ∧ 0 ≤ v ∧ v < n ∧ m' ≤ m + 3 ∧ Src w' q a len cap f m' ∧ Only q w w' := by
  have HH : Hid (Src w q a len cap f m) := h
  clear h
  by_cases h1 : n ≤ 1
  · go_enter Try.func63, Try.ntmps63
    go_wp2
    go_ret
    exact ⟨0, m, rfl, by omega, by omega, by omega, HH.out, Only.refl _ _⟩
  by_cases h2 : n ≤ 256
  · go_enter Try.func63, Try.ntmps63
    go_wp2_with fail
    refine (byte_any w q a len cap f m HH.out (by omega)).mono ?_
    rintro e w1 ⟨v, rfl, v0, v1, hs, ho⟩
    have X : Hid (Src w1 q a len cap f (m + 1) ∧ Only q w w1) := ⟨hs, ho⟩
    clear hs ho
    have r0 : 0 ≤ v % n := Int.emod_nonneg _ (by omega)
    have r1 : v % n < n := Int.emod_lt_of_pos _ (by omega)
    go_wp2
    go_ret
    exact ⟨v % n, m + 1, rfl, r0, r1, by omega, X.out.1, X.out.2⟩
  · go_enter Try.func63, Try.ntmps63
    go_wp2_with fail
    refine (byte_any w q a len cap f m HH.out (by omega)).mono ?_
    rintro e w1 ⟨v, rfl, v0, v1, hs, ho⟩
    have X : Hid (Src w1 q a len cap f (m + 1) ∧ Only q w w1) := ⟨hs, ho⟩
    clear hs ho
    go_wp2_with fail
    refine (byte_any w1 q a len cap f (m + 1) X.out.1 (by omega)).mono ?_
    rintro e w2 ⟨v', rfl, v0', v1', hs, ho⟩
    have X2 : Hid (Src w2 q a len cap f (m + 1 + 1) ∧ Only q w1 w2) := ⟨hs, ho⟩
    clear hs ho
    go_wp2_with fail
    refine (byte_any w2 q a len cap f (m + 1 + 1) X2.out.1 (by omega)).mono ?_
    rintro e w3 ⟨v'', rfl, v0'', v1'', hs, ho⟩
    have X3 : Hid (Src w3 q a len cap f (m + 1 + 1 + 1) ∧ Only q w2 w3) := ⟨hs, ho⟩
    clear hs ho
    have r0 : 0 ≤ (v * 65536 + v' * 256 + v'') % n := Int.emod_nonneg _ (by omega)
    have r1 : (v * 65536 + v' * 256 + v'') % n < n := Int.emod_lt_of_pos _ (by omega)
    go_wp2
    go_ret
    exact ⟨(v * 65536 + v' * 256 + v'') % n, m + 1 + 1 + 1, rfl, r0, r1, by omega, X3.out.1, (X.out.2.trans X2.out.2).trans X3.out.2⟩

/-- The values of a drawn row. -/
def AllB (L : List Int) : Prop := ∀ x ∈ L, 0 ≤ x ∧ x ≤ 255
theorem AllB.snoc {L : List Int} {x : Int} (h : AllB L) (h0 : 0 ≤ x) (h1 : x ≤ 255) : AllB (L ++ [x]) := by
  intro y hy
  rcases List.mem_append.1 hy with h' | h'
  · exact h y h'
  · simp at h'; subst h'; exact ⟨h0, h1⟩

end Go.Proofs.Ythokaemeadhkjaa
