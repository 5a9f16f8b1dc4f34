/- Rows of numbers and of timers in the laws: sameInts, sameTimers. -/
import Derived.Test.YtbbjelkicenbhaaTimU
import Derived.Test.YtbbjelkicenbhaaGrw
namespace Go.Proofs.Ytbbjelkicenbhaa
open Go.RowKit Go.PlainAid Go.Sort
set_option linter.unusedVariables false
set_option maxRecDepth 20000

/-- The numbers L lie at a. -/
def Ints (w : World) (a : Option Addr) (L : List Int) : Prop :=
  0 < L.length → ∃ b, a = some ⟨b, 0, none⟩ ∧ b < w.heap.size ∧ ∀ i, i < L.length → w.cell? ⟨b, i, none⟩ = some (.int .i64 (L.getD i 0))
theorem OwnI.slice {e : TypeId} {w : World} {B : Nat} {v : Value} {L : List Int} (h : OwnI e w B v L) : ∃ a cap, v = .slice a L.length cap ∧ Ints w a L := by
  rcases h.2 with ⟨h1, h2⟩ | ⟨g, cap, cur, h1, hB, hg, hle, hm, hs, ht⟩
  · have e0 : L = [] := by simpa using h2
    subst e0
    exact ⟨none, 0, by simpa using h1, fun h => absurd h (by simp)⟩
  · have hgl : g < w.heap.size := (World.ownsRow.lt h g (by rw [h1]; rfl)).2
    refine ⟨some ⟨g, 0, none⟩, cap, h1, fun h0 => ⟨g, rfl, hgl, fun i hi => ?_⟩⟩
    have hc := World.ownsRow.cells h (g := g) (by rw [h1]; rfl) i (.int .i64 (L.getD i 0)) (by simp [hi])
    rw [add_none, Nat.zero_add] at hc
    exact hc
theorem own_ints {e : TypeId} {w : World} {B n cap : Nat} {a : Option Addr} {L : List Int} (h : OwnI e w B (.slice a n cap) L) : Ints w a L := by
  obtain ⟨a', cap', e1, hp⟩ := h.slice
  cases e1
  exact hp
theorem Ints.cells {w w' : World} {a : Option Addr} {L : List Int} (h : Ints w a L) (hb : Below w.heap.size w w') {k : Nat} (hk : k < L.length) :
    ∃ b, a = some ⟨b, 0, none⟩ ∧ b < w.heap.size ∧ w'.cell? ⟨b, k, none⟩ = some (.int .i64 (L.getD k 0)) := by
  obtain ⟨b, rfl, hlt, hc⟩ := h (by omega)
  exact ⟨b, rfl, hlt, by rw [hb.cell (p := ⟨b, k, none⟩) hlt]; exact hc k hk⟩
theorem own_grownI {e : TypeId} {w w' : World} {B : Nat} {v : Value} {L : List Int} {r : Option Nat} (h : OwnI e w B v L) (hg : w.grownBy w' r) (hne : v.ownBlock = none ∨ v.ownBlock ≠ r) : OwnI e w' B v L := World.ownsRow.kept h hg hne

set_option maxHeartbeats 1000000 in
theorem sameInts_yes (a a' : Option Addr) (n cap cap' : Nat) (L : List Int) (w : World) (h : Ints w a L) (h' : Ints w a' L) (hl : L.length = n) (hlen : n ≤ 1048576) :
    Calls Try.prog 24 #[.slice a n cap, .slice a' n cap'] w fun e w' => e = .returned (.bool true) ∧ Grw w w' := by
  have hne : ((n : Int) != (n : Int)) = false := by simp
  have H : Hid (Ints w a L) := h
  have H' : Hid (Ints w a' L) := h'
  clear h h'
  go_enter Try.func24, Try.ntmps24
  go_wp2
  go_loopw [5] (fun i wr => ∃ k : Nat, k ≤ n ∧ i = .int .i64 k ∧ Hid (Grw w wr)) (fun i _ => n - (intOf i).toNat)
  case atStart => exact ⟨0, Nat.zero_le _, rfl, Grw.refl w⟩
  case round =>
    obtain ⟨k, hk, rfl, HG⟩ := hrel
    by_cases hlt2 : k < n
    · obtain ⟨b, rfl, hb, p0⟩ := H.out.cells HG.out.below (k := k) (by omega)
      obtain ⟨b', rfl, hb', p1⟩ := H'.out.cells HG.out.below (k := k) (by omega)
      generalize L.getD k 0 = x0 at p0 p1
      have hltz : (k : Int) < (n : Int) := by omega
      have hq : (x0 != x0) = false := by simp
      go_wp2
      go_big_quiet (fail)
      have HG2 : Hid (Grw w (wr.drewN nq)) := HG.out.trans ⟨nq, #[], by rw [grow_empty]⟩
      clear p0 p1 HG
      go_wp2
      go_roundw
      case rel => exact ⟨k + 1, by omega, by go_num, HG2⟩
      case measure => simp [intOf]; omega
    · obtain rfl : k = n := by omega
      go_wp2
      go_ret
      exact ⟨rfl, HG.out⟩

/-- Timers compared. -/
theorem neq_timer (x0 x1 : Int) (w : World) : (binOp .neq 44 (.agg #[.int .i64 x0, .int .i64 x1]) (.agg #[.int .i64 x0, .int .i64 x1])).run Try.prog w = .ok (.bool false) w := by
  have u3 := Try.underlying3
  have a3 := Try.isAgg3
  have z3 := Try.sizeOf3
  have hS : Try.prog.underlying 44 = some (.struct (Try.prog.fieldsOf 44)) := by kernel_rfl
  have hp : Try.prog.stoodInHeld 44 = false := by kernel_rfl
  rw [run_neq_struct, show (10000 : Nat) = 9999 + 1 from rfl, run_equalIn_agg w 9999 44 _ _ hS hp]
  simp only [Program.fieldsOf, Try.underlying44]
  go_simp
  try simp

set_option maxHeartbeats 1000000 in
theorem sameTimers_yes (a a' : Option Addr) (len cap cap' : Nat) (zs : List (Int × Int)) (w : World) (h : Prs w a zs) (h' : Prs w a' zs) (hl : zs.length = len) (hlen : len ≤ 1048576) :
    Calls Try.prog 23 #[.slice a len cap, .slice a' len cap'] w fun e w' => e = .returned (.bool true) ∧ Grw w w' := by
  have hne : ((len : Int) != (len : Int)) = false := by simp
  have hmix : Try.prog.follows .mixedOrders = true := by kernel_rfl
  have H : Hid (Prs w a zs) := h
  have H' : Hid (Prs w a' zs) := h'
  clear h h'
  go_enter Try.func23, Try.ntmps23
  go_wp2
  go_loopw [5] (fun i wr => ∃ k : Nat, k ≤ len ∧ i = .int .i64 k ∧ Hid (Grw w wr)) (fun i _ => len - (intOf i).toNat)
  case atStart => exact ⟨0, Nat.zero_le _, rfl, Grw.refl w⟩
  case round =>
    obtain ⟨k, hk, rfl, HG⟩ := hrel
    by_cases hlt2 : k < len
    · obtain ⟨b, off, rfl, hb, p0, p1⟩ := H.out.cells HG.out.below (k := k) (by omega)
      obtain ⟨b', off', rfl, hb', p2, p3⟩ := H'.out.cells HG.out.below (k := k) (by omega)
      have q0 := grown_cell hb HG.out p0
      have q1 := grown_cell hb HG.out p1
      have q2 := grown_cell hb' HG.out p2
      have q3 := grown_cell hb' HG.out p3
      generalize (zs.getD k (0, 0)).1 = x0 at q0 q2
      generalize (zs.getD k (0, 0)).2 = x1 at q1 q3
      have he : ∀ w, (binOp .neq 44 (.agg #[.int .i64 x0, .int .i64 x1]) (.agg #[.int .i64 x0, .int .i64 x1])).run Try.prog w = .ok (.bool false) w := fun w => neq_timer x0 x1 w
      have hltz : (k : Int) < (len : Int) := by omega
      clear p0 p1 p2 p3
      go_wp2_with fail
      refine wp_region_quiet_grown (by assumption) (by kernel_rfl) ?_
      repeat (go_big_quiet_step (first | fail | fail))
      refine wpQuiet_nil ?_
      intro _ hw'
      obtain ⟨⟨nq, osq⟩, hw''⟩ := hw'
      subst hw''
      have HG2 : Hid (Grw w (grow (wr.drewN nq) osq)) := HG.out.trans ⟨nq, osq, rfl⟩
      clear q0 q1 q2 q3 HG
      go_wp2
      go_roundw
      case rel => exact ⟨k + 1, by omega, by go_num, HG2⟩
      case measure => simp [intOf]; omega
    · obtain rfl : k = len := by omega
      go_wp2
      go_ret
      exact ⟨rfl, HG.out⟩
end Go.Proofs.Ytbbjelkicenbhaa
