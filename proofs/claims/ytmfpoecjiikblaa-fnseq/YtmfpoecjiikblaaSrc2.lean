/- The source of drawn choices, further: one of 0 to n - 1; a row of drawn bytes. -/
import Derived.Test.YtmfpoecjiikblaaSrc
import Derived.Test.YtmfpoecjiikblaaInfo
import Derived.Deep.AppendLies
namespace Go.Proofs.Ytmfpoecjiikblaa
open Go.RowKit Go.PlainAid
set_option linter.unusedVariables false
set_option maxRecDepth 20000

theorem Src.grown {w w' : World} {q : Nat} {a : Option Addr} {len cap : Nat} {f : Nat → Int} {m : Nat} {row : Option Nat} (h : Src w q a len cap f m) (hg : w.grownBy w' row) (hq : some q ≠ row)
    (hcb : ∀ b off, 0 < len → a = some ⟨b, off, none⟩ → some b ≠ row) : Src w' q a len cap f m := by
  obtain ⟨hc, ha, ⟨s, s0, s1, hs⟩, hf, hb, hl, hap⟩ := h
  have lt : q < w.heap.size := World.block_lt_of_cell? w _ hc
  have ec : ∀ o, w'.cell? ⟨q, o, none⟩ = w.cell? ⟨q, o, none⟩ := fun o => World.cell?_of_block (hg.block q lt hq)
  have ef : ∀ o, w'.frozen? ⟨q, o, none⟩ = w.frozen? ⟨q, o, none⟩ := fun o => World.frozen?_of_block (hg.block q lt hq)
  refine ⟨by rw [ec]; exact hc, by rw [ec]; exact ha, ⟨s, s0, s1, by rw [ec]; exact hs⟩, fun o ho => by rw [ef]; exact hf o ho, ⟨hb.1, fun h0 => ?_⟩, hl, hap⟩
  obtain ⟨b, off, rfl, hcc⟩ := hb.2 h0
  have lb : b < w.heap.size := by simpa using World.block_lt_of_cell? w _ (hcc 0 h0)
  exact ⟨b, off, rfl, fun i hi => by rw [World.cell?_of_block (w := w) (hg.block b lb (hcb b off h0 rfl))]; exact hcc i hi⟩
theorem Only.grownBy {q : Nat} {w w' : World} (h : Only q w w') : w.grownBy w' (some q) := ⟨h.os, h.tape, h.output, Nat.le_of_eq h.size.symm, fun k _ hk => h.block k (fun e => hk (by rw [e]))⟩
theorem grown_trans {w w1 w2 : World} {r : Option Nat} (h : w.grownBy w1 r) (k : w1.grownBy w2 r) : w.grownBy w2 r :=
  ⟨k.os.trans h.os, k.tape.trans h.tape, k.output.trans h.output, Nat.le_trans h.size k.size, fun i hi hr => (k.block i (Nat.lt_of_lt_of_le hi h.size) hr).trans (h.block i hi hr)⟩
/-- Behind a change of a block that is newer than w. -/
theorem grown_newer {w w1 w2 : World} {r r' : Option Nat} (h : w.grownBy w1 r) (k : w1.grownBy w2 r') (hn : ∀ b, r' = some b → w.heap.size ≤ b) : w.grownBy w2 r :=
  ⟨k.os.trans h.os, k.tape.trans h.tape, k.output.trans h.output, Nat.le_trans h.size k.size, fun i hi hr => (k.block i (Nat.lt_of_lt_of_le hi h.size) (fun e => by have := hn i e.symm; omega)).trans (h.block i hi hr)⟩
theorem grown_alloc {w w1 : World} {r : Option Nat} (h : w.grownBy w1 r) (o : Obj) : w.grownBy (w1.alloc o) r := grown_trans h (World.grownBy_alloc w1 o r)

set_option maxHeartbeats 1000000 in
theorem next_any (w : World) (q : Nat) (a : Option Addr) (len cap : Nat) (f : Nat → Int) (m : Nat) (n : Int) (h : Src w q a len cap f m) (hm : m ≤ 999999990) (hn : 1 ≤ n) (hn2 : n ≤ 1000000000) :
    Calls Try.prog 67 #[.pointer (some ⟨q, 0, none⟩), .int .i64 n] w fun e w' => ∃ (v : Int) (m' : Nat), e = .returned (.int .i64 v) ∧ 0 ≤ v ∧ v < n ∧ m' ≤ m + 3 ∧ Src w' q a len cap f m' ∧ Only q w w' := by
  have HH : Hid (Src w q a len cap f m) := h
  clear h
  by_cases h1 : n ≤ 1
  · go_enter Try.func67, Try.ntmps67
    go_wp2
    go_ret
    exact ⟨0, m, rfl, by omega, by omega, by omega, HH.out, Only.refl _ _⟩
  by_cases h2 : n ≤ 256
  · go_enter Try.func67, Try.ntmps67
    go_wp2_with fail
    refine (byte_any w q a len cap f m HH.out (by omega)).mono ?_
    rintro e w1 ⟨v, rfl, v0, v1, hs, ho⟩
    have X : Hid (Src w1 q a len cap f (m + 1) ∧ Only q w w1) := ⟨hs, ho⟩
    clear hs ho
    have r0 : 0 ≤ v % n := Int.emod_nonneg _ (by omega)
    have r1 : v % n < n := Int.emod_lt_of_pos _ (by omega)
    go_wp2
    go_ret
    exact ⟨v % n, m + 1, rfl, r0, r1, by omega, X.out.1, X.out.2⟩
  · go_enter Try.func67, Try.ntmps67
    go_wp2_with fail
    refine (byte_any w q a len cap f m HH.out (by omega)).mono ?_
    rintro e w1 ⟨v, rfl, v0, v1, hs, ho⟩
    have X : Hid (Src w1 q a len cap f (m + 1) ∧ Only q w w1) := ⟨hs, ho⟩
    clear hs ho
    go_wp2_with fail
    refine (byte_any w1 q a len cap f (m + 1) X.out.1 (by omega)).mono ?_
    rintro e w2 ⟨v', rfl, v0', v1', hs, ho⟩
    have X2 : Hid (Src w2 q a len cap f (m + 1 + 1) ∧ Only q w1 w2) := ⟨hs, ho⟩
    clear hs ho
    go_wp2_with fail
    refine (byte_any w2 q a len cap f (m + 1 + 1) X2.out.1 (by omega)).mono ?_
    rintro e w3 ⟨v'', rfl, v0'', v1'', hs, ho⟩
    have X3 : Hid (Src w3 q a len cap f (m + 1 + 1 + 1) ∧ Only q w2 w3) := ⟨hs, ho⟩
    clear hs ho
    have r0 : 0 ≤ (v * 65536 + v' * 256 + v'') % n := Int.emod_nonneg _ (by omega)
    have r1 : (v * 65536 + v' * 256 + v'') % n < n := Int.emod_lt_of_pos _ (by omega)
    go_wp2
    go_ret
    exact ⟨(v * 65536 + v' * 256 + v'') % n, m + 1 + 1 + 1, rfl, r0, r1, by omega, X3.out.1, (X.out.2.trans X2.out.2).trans X3.out.2⟩

/-- The values of a drawn row. -/
def AllB (L : List Int) : Prop := ∀ x ∈ L, 0 ≤ x ∧ x ≤ 255
theorem AllB.snoc {L : List Int} {x : Int} (h : AllB L) (h0 : 0 ≤ x) (h1 : x ≤ 255) : AllB (L ++ [x]) := by
  intro y hy
  rcases List.mem_append.1 hy with h' | h'
  · exact h y h'
  · simp at h'; subst h'; exact ⟨h0, h1⟩

set_option maxHeartbeats 1000000 in
theorem bytes_any (w : World) (q : Nat) (a : Option Addr) (len cap : Nat) (f : Nat → Int) (m : Nat) (n : Int) (h : Src w q a len cap f m) (hm : m ≤ 500000000) (hn : 0 ≤ n) (hn2 : n ≤ 100000000) :
    Calls Try.prog 51 #[.pointer (some ⟨q, 0, none⟩), .int .i64 n] w fun e w' => ∃ (g c : Nat) (L : List Int) (m' : Nat), e = .returned (.slice (some ⟨g, 0, none⟩) L.length c) ∧ OwnL 5 w' w.heap.size (.slice (some ⟨g, 0, none⟩) L.length c) L ∧ AllB L ∧ (L.length : Int) ≤ n ∧ m' ≤ m + 3 + 3 * L.length ∧ Src w' q a len cap f m' ∧ w.grownBy w' (some q) := by
  obtain ⟨i0, hi, hz0, hz1, hz2⟩ := info_parts Try.infoB
  have lq : q < w.heap.size := World.block_lt_of_cell? w _ h.code
  have hcb : Hid (∀ b off, 0 < len → a = some ⟨b, off, none⟩ → b < w.heap.size) := by
    intro b off h0 e
    obtain ⟨b', off', e', hcc⟩ := h.bytes.2 h0
    rw [e] at e'
    cases e'
    simpa using World.block_lt_of_cell? w _ (hcc 0 h0)
  have HH : Hid (Src w q a len cap f m) := h
  clear h
  go_enter Try.func51, Try.ntmps51
  go_wp2_with fail
  refine (next_any _ q a len cap f m (n + 1) (HH.out.grown (World.grownBy_alloc w _ none) (by simp) (by simp)) (by omega) (by omega) (by omega)).mono ?_
  rintro e w1 ⟨c, m1, rfl, c0, c1, hm1, hs, ho⟩
  have X : Hid (Src w1 q a len cap f m1 ∧ OwnL 5 w1 w.heap.size (.slice (some ⟨w.heap.size, 0, none⟩) 0 0) [] ∧ w.grownBy w1 (some q)) :=
    ⟨hs, World.ownsRow.kept (World.ownsRow_made w #[] 0 (Nat.le_refl _) (Nat.zero_le _) rfl) ho.grownBy (.inr (by simp [Value.ownBlock]; omega)), grown_trans (World.grownBy_alloc w _ _) ho.grownBy⟩
  clear hs ho
  obtain ⟨C, rfl⟩ := Int.eq_ofNat_of_zero_le c0
  go_wp2
  go_loopw [5, 6] (fun v i wr => ∃ (g c : Nat) (L : List Int) (r mm : Nat), v = .slice (some ⟨g, 0, none⟩) L.length c ∧ i = .int .i64 r ∧ L.length + r = C ∧ OwnL 5 wr w.heap.size v L ∧ AllB L ∧ mm ≤ m + 3 + 3 * L.length ∧ Src wr q a len cap f mm ∧ w.grownBy wr (some q)) (fun _ i _ => (intOf i).toNat)
  case atStart => exact ⟨w.heap.size, 0, [], C, m1, rfl, rfl, by simp, X.out.2.1, (fun x hx => absurd hx (by simp)), (by simp; omega), X.out.1, X.out.2.2⟩
  case round =>
    obtain ⟨g, c, L, r, mm, rfl, rfl, hLr, hown, hall, hmm, hs, hg⟩ := hrel
    have Y : Hid (OwnL 5 wr w.heap.size (.slice (some ⟨g, 0, none⟩) L.length c) L ∧ AllB L ∧ Src wr q a len cap f mm ∧ w.grownBy wr (some q)) := ⟨hown, hall, hs, hg⟩
    have HL : Hid (L.length + r = C) := hLr
    have hL1 : L.length + r ≤ C := by omega
    have hL2 : L.length ≤ 100000001 := by omega
    clear hown hall hs hg hLr
    by_cases hr : 0 < r
    · go_wp2_with fail
      refine (next_any wr q a len cap f mm 256 Y.out.2.2.1 (by omega) (by omega) (by omega)).mono ?_
      rintro e w2 ⟨x, m2, rfl, x0, x1, hm2, hs2, ho2⟩
      have Z : Hid (Src w2 q a len cap f m2 ∧ OwnL 5 w2 w.heap.size (.slice (some ⟨g, 0, none⟩) L.length c) L ∧ w.grownBy w2 (some q)) :=
        ⟨hs2, World.ownsRow.kept Y.out.1 ho2.grownBy (.inr (fun e => by have := (World.ownsRow.lt Y.out.1 q e).1; omega)), grown_trans Y.out.2.2.2 ho2.grownBy⟩
      clear hs2 ho2
      have hz2 := Z.out.2.2.size
      go_wp2_with (at_builtin; refine wpList_append_lies _ rfl _ _ 22 rfl w.heap.size 5 i0 (.int .u8 0) 1 1 Try.underlying22 hi hz0 hz1 (by assumption) rfl (by decide) (.slice (some ⟨g, 0, none⟩) L.length c) L.length (L.map (.int .u8)) rfl (World.ownsRow.alloc Z.out.2.1 _) ⟨_, 0, none⟩ 1 1 [.int .u8 x] rfl rfl (cell_one_new _ _ _) (by simp [Value.oneCell']) (by omega) (by unfold maxLen; omega) (by omega) (by simp; omega) _ rfl ?_; intro g1 cap1 w3 hown3 hgrow3 hat3 hlt3)
      have hnew : ∀ b, Value.ownBlock (.slice (some ⟨g, 0, none⟩) L.length c) = some b → w.heap.size ≤ b := fun b hb => (World.ownsRow.lt Z.out.2.1 b hb).1
      have V : Hid (OwnL 5 w3 w.heap.size (.slice (some ⟨g1, 0, none⟩) (L.length + 1) cap1) (L ++ [x]) ∧ AllB (L ++ [x]) ∧ Src w3 q a len cap f m2 ∧ w.grownBy w3 (some q)) :=
        ⟨OwnL.snoc hown3, Y.out.2.1.snoc x0 (by omega), (Z.out.1.grown (World.grownBy_alloc w2 _ none) (by simp) (by simp)).grown hgrow3 (fun e => by have := hnew q e.symm; omega) (fun b off h0 e e' => by have := hnew b e'.symm; have := hcb.out b off h0 e; omega), grown_newer (grown_alloc Z.out.2.2 _) hgrow3 hnew⟩
      clear hown3 hgrow3 hat3 hlt3 hnew
      go_wp2
      go_roundw
      case rel => exact ⟨g1, cap1, L ++ [x], r - 1, m2, by simp, by go_num, by have := HL.out; simp; omega, (by have := V.out.1; simpa using this), V.out.2.1, by simp; omega, V.out.2.2.1, V.out.2.2.2⟩
      case measure => simp [intOf]; omega
    · go_wp2
      go_ret
      exact ⟨g, c, L, mm, rfl, Y.out.1, Y.out.2.1, by omega, hmm, Y.out.2.2.1, Y.out.2.2.2⟩
end Go.Proofs.Ytmfpoecjiikblaa
