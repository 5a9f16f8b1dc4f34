/- laws.at: its value by the bytes it reads. -/
import Derived.Test.YtmfpoecjiikblaaAt
namespace Go.Proofs.Ytmfpoecjiikblaa
open Go.RowKit Go.PlainAid
set_option linter.unusedVariables false
set_option maxRecDepth 20000

def atV (f : Nat → Int) (len i : Nat) (n : Int) : Int := if n ≤ 1 then 0 else if len = 0 then (i : Int) * 7 % n else (f (i % len) * 31 + f ((i + 1) % len) + (i : Int) / (len : Int)) % n
theorem atV_bd (f : Nat → Int) (len i : Nat) (n : Int) (hn : 1 ≤ n) : 0 ≤ atV f len i n ∧ atV f len i n < n := by
  unfold atV
  split
  · omega
  · split
    · exact ⟨Int.emod_nonneg _ (by omega), Int.emod_lt_of_pos _ (by omega)⟩
    · exact ⟨Int.emod_nonneg _ (by omega), Int.emod_lt_of_pos _ (by omega)⟩
theorem at_val (w : World) (a : Option Addr) (len cap : Nat) (f : Nat → Int) (i : Nat) (n : Int) (h : Bytes w a len f) (hl : len ≤ 1048576) (hi : i ≤ 100000) (hn : 1 ≤ n) (hn2 : n ≤ 1000000000) :
    Calls Try.prog 18 #[.slice a len cap, .int .i64 i, .int .i64 n] w fun e w' => e = .returned (.int .i64 (atV f len i n)) ∧ ∃ k, w' = w.drewN k := by
  by_cases h1 : n ≤ 1
  · have e : atV f len i n = 0 := if_pos h1
    rw [e]
    clear e
    go_enter Try.func18, Try.ntmps18
    go_wp2
    go_ret
    exact ⟨rfl, 0, rfl⟩
  by_cases h0 : len = 0
  · have e : atV f len i n = (i : Int) * 7 % n := by unfold atV; rw [if_neg h1, if_pos h0]
    rw [e]
    clear e
    subst h0
    have r0 : 0 ≤ (i : Int) * 7 % n := Int.emod_nonneg _ (by omega)
    go_enter Try.func18, Try.ntmps18
    go_wp2
    go_ret
    exact ⟨rfl, 0, rfl⟩
  · have e : atV f len i n = (f (i % len) * 31 + f ((i + 1) % len) + (i : Int) / (len : Int)) % n := by unfold atV; rw [if_neg h1, if_neg h0]
    rw [e]
    clear e
    obtain ⟨b, off, rfl, hc⟩ := h.2 (by omega)
    have b1 : 0 ≤ (i : Int) % (len : Int) := Int.emod_nonneg _ (by omega)
    have b2 : (i : Int) % (len : Int) < (len : Int) := Int.emod_lt_of_pos _ (by omega)
    have b3 : 0 ≤ ((i : Int) + 1) % (len : Int) := Int.emod_nonneg _ (by omega)
    have b4 : ((i : Int) + 1) % (len : Int) < (len : Int) := Int.emod_lt_of_pos _ (by omega)
    have c1 := hc (i % len) (Nat.mod_lt _ (by omega))
    have c2 := hc ((i + 1) % len) (Nat.mod_lt _ (by omega))
    have f1 := h.1 (i % len)
    have f2 := h.1 ((i + 1) % len)
    have d1 : 0 ≤ (i : Int) / (len : Int) := Int.ediv_nonneg (by omega) (by omega)
    have d2 : (i : Int) / (len : Int) ≤ (i : Int) := Int.ediv_le_self _ (by omega)
    have hne : ((len : Int) == 0) = false := by simp; omega
    have hp : (1 : Int) ≤ (len : Int) := by omega
    have hq : ¬ (len : Int) = 0 := by omega
    have hnq : ¬ n = 0 := by omega
    clear hc h
    go_enter Try.func18, Try.ntmps18
    go_wp2
    go_quiet (fail)
    go_wp2
    go_ret
    exact ⟨rfl, _, rfl⟩
end Go.Proofs.Ytmfpoecjiikblaa
