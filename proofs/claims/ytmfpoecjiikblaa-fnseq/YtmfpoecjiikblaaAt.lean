/- A row of drawn bytes out of a code; one of 0 to n - 1 out of a row of bytes. -/
import Derived.Test.YtmfpoecjiikblaaSrc2
namespace Go.Proofs.Ytmfpoecjiikblaa
open Go.RowKit Go.PlainAid
set_option linter.unusedVariables false
set_option maxRecDepth 20000

theorem l00Source_any (w : World) (a : Option Addr) (len cap : Nat) (f : Nat → Int) (h : Bytes w a len f) (hl : len ≤ 1048576) (hlt : ∀ b off, 0 < len → a = some ⟨b, off, none⟩ → b < w.heap.size) :
    Calls Try.prog 36 #[.slice a len cap] w fun e w' => e = .returned (.pointer (some ⟨w.heap.size, 0, none⟩)) ∧ Src w' w.heap.size a len cap f 0 ∧ w.grownBy w' none ∧ w'.heap.size = w.heap.size + 1 := by
  have HB : Hid (Bytes w a len f) := h
  have HL : Hid (∀ b off, 0 < len → a = some ⟨b, off, none⟩ → b < w.heap.size) := hlt
  clear h hlt
  go_enter Try.func36, Try.ntmps36
  go_wp2
  go_ret
  refine ⟨rfl, ⟨by simp, by simp, ⟨(len : Int) % 1000, by omega, by omega, by simp⟩, fun o _ => by simp, HB.out.below (B := w.heap.size) ((Below.refl _ _).alloc (Nat.le_refl _) _) HL.out, hl, fun b off h0 e => by have := HL.out b off h0 e; omega⟩, World.grownBy_alloc w _ none, by simp⟩

theorem BytesOf_any (w : World) (a : Option Addr) (len cap : Nat) (f : Nat → Int) (n : Int) (h : Bytes w a len f) (hl : len ≤ 1048576) (hlt : ∀ b off, 0 < len → a = some ⟨b, off, none⟩ → b < w.heap.size) (hn : 0 ≤ n) (hn2 : n ≤ 1000000) :
    Calls Try.prog 17 #[.slice a len cap, .int .i64 n] w fun e w' => ∃ (g c : Nat) (L : List Int), e = .returned (.slice (some ⟨g, 0, none⟩) L.length c) ∧ OwnL 5 w' w.heap.size (.slice (some ⟨g, 0, none⟩) L.length c) L ∧ AllB L ∧ (L.length : Int) ≤ n ∧ Below w.heap.size w w' := by
  have HB : Hid (Bytes w a len f) := h
  have HL : Hid (∀ b off, 0 < len → a = some ⟨b, off, none⟩ → b < w.heap.size) := hlt
  clear h hlt
  go_enter Try.func17, Try.ntmps17
  go_wp2_with fail
  refine (l00Source_any w a len cap f HB.out hl HL.out).mono ?_
  rintro e w1 ⟨rfl, hs, hg, hz⟩
  have X : Hid (Src w1 w.heap.size a len cap f 0 ∧ w.grownBy w1 none ∧ w1.heap.size = w.heap.size + 1) := ⟨hs, hg, hz⟩
  clear hs hg hz
  go_wp2_with fail
  refine (bytes_any w1 w.heap.size a len cap f 0 n X.out.1 (by omega) hn (by omega)).mono ?_
  rintro e w2 ⟨g, c, L, m', rfl, hown, hall, hlen, hm', hs2, hg2⟩
  have Y : Hid (OwnL 5 w2 w1.heap.size (.slice (some ⟨g, 0, none⟩) L.length c) L ∧ AllB L ∧ w1.grownBy w2 (some w.heap.size)) := ⟨hown, hall, hg2⟩
  clear hown hall hs2 hg2
  go_wp2
  go_ret
  have hz := X.out.2.2
  have hB : Below w.heap.size w w2 := ((Below.refl w.heap.size w).grown X.out.2.1 (Nat.le_refl _) (by simp)).grown Y.out.2.2 (by omega) (by intro k hk; cases hk; exact Nat.le_refl _)
  refine ⟨g, c, L, rfl, ⟨Y.out.1.1, ?_⟩, Y.out.2.1, hlen, hB⟩
  rcases Y.out.1.2 with hn | ⟨g', cap, cur, h1, h2, rest⟩
  · exact .inl hn
  · exact .inr ⟨g', cap, cur, h1, by omega, rest⟩

set_option maxHeartbeats 1000000 in
theorem at_any (w : World) (a : Option Addr) (len cap : Nat) (f : Nat → Int) (i : Nat) (n : Int) (h : Bytes w a len f) (hl : len ≤ 1048576) (hi : i ≤ 100000) (hn : 1 ≤ n) (hn2 : n ≤ 1000000000) :
    Calls Try.prog 18 #[.slice a len cap, .int .i64 i, .int .i64 n] w fun e w' => ∃ v : Int, e = .returned (.int .i64 v) ∧ 0 ≤ v ∧ v < n ∧ ∃ k, w' = w.drewN k := by
  by_cases h1 : n ≤ 1
  · go_enter Try.func18, Try.ntmps18
    go_wp2
    go_ret
    exact ⟨0, rfl, by omega, by omega, 0, rfl⟩
  by_cases h0 : len = 0
  · subst h0
    have r0 : 0 ≤ (i : Int) * 7 % n := Int.emod_nonneg _ (by omega)
    have r1 : (i : Int) * 7 % n < n := Int.emod_lt_of_pos _ (by omega)
    go_enter Try.func18, Try.ntmps18
    go_wp2
    go_ret
    exact ⟨(i : Int) * 7 % n, rfl, r0, r1, 0, rfl⟩
  · obtain ⟨b, off, rfl, hc⟩ := h.2 (by omega)
    have b1 : 0 ≤ (i : Int) % (len : Int) := Int.emod_nonneg _ (by omega)
    have b2 : (i : Int) % (len : Int) < (len : Int) := Int.emod_lt_of_pos _ (by omega)
    have b3 : 0 ≤ ((i : Int) + 1) % (len : Int) := Int.emod_nonneg _ (by omega)
    have b4 : ((i : Int) + 1) % (len : Int) < (len : Int) := Int.emod_lt_of_pos _ (by omega)
    have c1 := hc (i % len) (Nat.mod_lt _ (by omega))
    have c2 := hc ((i + 1) % len) (Nat.mod_lt _ (by omega))
    have f1 := h.1 (i % len)
    have f2 := h.1 ((i + 1) % len)
    have d1 : 0 ≤ (i : Int) / (len : Int) := Int.ediv_nonneg (by omega) (by omega)
    have d2 : (i : Int) / (len : Int) ≤ (i : Int) := Int.ediv_le_self _ (by omega)
    have hne : ((len : Int) == 0) = false := by simp; omega
    have hp : (1 : Int) ≤ (len : Int) := by omega
    have hq : ¬ (len : Int) = 0 := by omega
    have hnq : ¬ n = 0 := by omega
    clear hc h
    go_enter Try.func18, Try.ntmps18
    go_wp2
    go_quiet (fail)
    go_wp2
    go_ret
    exact ⟨_, rfl, Int.emod_nonneg _ hnq, Int.emod_lt_of_pos _ (by omega), _, rfl⟩
end Go.Proofs.Ytmfpoecjiikblaa
