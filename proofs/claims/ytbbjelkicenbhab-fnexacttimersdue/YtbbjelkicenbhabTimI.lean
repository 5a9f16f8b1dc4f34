/- Rows of numbers in the laws: eqIntS, markIntS, heldIntS. -/
import Derived.Test.YtbbjelkicenbhabTimU
import Derived.Test.YtbbjelkicenbhabTimM
namespace Go.Proofs.Ytbbjelkicenbhab
open Go.RowKit Go.PlainAid Go.Sort
set_option linter.unusedVariables false
set_option maxRecDepth 20000

/-- The numbers L lie at a. -/
def Ints (w : World) (a : Option Addr) (L : List Int) : Prop :=
  0 < L.length → ∃ b, a = some ⟨b, 0, none⟩ ∧ b < w.heap.size ∧ ∀ i, i < L.length → w.cell? ⟨b, i, none⟩ = some (.int .i64 (L.getD i 0))
theorem OwnI.slice {e : TypeId} {w : World} {B : Nat} {v : Value} {L : List Int} (h : OwnI e w B v L) : ∃ a cap, v = .slice a L.length cap ∧ Ints w a L := by
  rcases h.2 with ⟨h1, h2⟩ | ⟨g, cap, cur, h1, hB, hg, hle, hm, hs, ht⟩
  · have e0 : L = [] := by simpa using h2
    subst e0
    exact ⟨none, 0, by simpa using h1, fun h => absurd h (by simp)⟩
  · have hgl : g < w.heap.size := (World.ownsRow.lt h g (by rw [h1]; rfl)).2
    refine ⟨some ⟨g, 0, none⟩, cap, h1, fun h0 => ⟨g, rfl, hgl, fun i hi => ?_⟩⟩
    have hc := World.ownsRow.cells h (g := g) (by rw [h1]; rfl) i (.int .i64 (L.getD i 0)) (by simp [hi])
    rw [add_none, Nat.zero_add] at hc
    exact hc
theorem own_ints {e : TypeId} {w : World} {B n cap : Nat} {a : Option Addr} {L : List Int} (h : OwnI e w B (.slice a n cap) L) : Ints w a L := by
  obtain ⟨a', cap', e1, hp⟩ := h.slice
  cases e1
  exact hp
theorem Ints.cells {w w' : World} {a : Option Addr} {L : List Int} (h : Ints w a L) (hb : Below w.heap.size w w') {k : Nat} (hk : k < L.length) :
    ∃ b, a = some ⟨b, 0, none⟩ ∧ b < w.heap.size ∧ w'.cell? ⟨b, k, none⟩ = some (.int .i64 (L.getD k 0)) := by
  obtain ⟨b, rfl, hlt, hc⟩ := h (by omega)
  exact ⟨b, rfl, hlt, by rw [hb.cell (p := ⟨b, k, none⟩) hlt]; exact hc k hk⟩
theorem own_grownI {e : TypeId} {w w' : World} {B : Nat} {v : Value} {L : List Int} {r : Option Nat} (h : OwnI e w B v L) (hg : w.grownBy w' r) (hne : v.ownBlock = none ∨ v.ownBlock ≠ r) : OwnI e w' B v L := World.ownsRow.kept h hg hne

set_option maxHeartbeats 1000000 in
theorem eqIntS_yes (a a' : Option Addr) (n cap cap' : Nat) (L : List Int) (w : World) (h : Ints w a L) (h' : Ints w a' L) (hl : L.length = n) (hlen : n ≤ 1048576) :
    Calls Try.prog 25 #[.slice a n cap, .slice a' n cap'] w fun e w' => e = .returned (.bool true) ∧ Grw w w' := by
  have hne : ((n : Int) != (n : Int)) = false := by simp
  have H : Hid (Ints w a L) := h
  have H' : Hid (Ints w a' L) := h'
  clear h h'
  go_enter Try.func25, Try.ntmps25
  go_wp2
  go_loopw [5] (fun i wr => ∃ k : Nat, k ≤ n ∧ i = .int .i64 k ∧ Hid (Grw w wr)) (fun i _ => n - (intOf i).toNat)
  case atStart => exact ⟨0, Nat.zero_le _, rfl, Grw.refl w⟩
  case round =>
    obtain ⟨k, hk, rfl, HG⟩ := hrel
    by_cases hlt2 : k < n
    · obtain ⟨b, rfl, hb, p0⟩ := H.out.cells HG.out.below (k := k) (by omega)
      obtain ⟨b', rfl, hb', p1⟩ := H'.out.cells HG.out.below (k := k) (by omega)
      generalize L.getD k 0 = x0 at p0 p1
      have hltz : (k : Int) < (n : Int) := by omega
      have hq : (x0 != x0) = false := by simp
      go_wp2
      go_big_quiet (fail)
      have HG2 : Hid (Grw w (wr.drewN nq)) := HG.out.trans ⟨nq, #[], by rw [grow_empty]⟩
      clear p0 p1 HG
      go_wp2
      go_roundw
      case rel => exact ⟨k + 1, by omega, by go_num, HG2⟩
      case measure => simp [intOf]; omega
    · obtain rfl : k = n := by omega
      go_wp2
      go_ret
      exact ⟨rfl, HG.out⟩

def imarks (n s : Nat) : List Int := (List.range n).map fun i : Nat => (s : Int) + (i : Int)
theorem imarks_len (n s : Nat) : (imarks n s).length = n := by simp [imarks]
theorem imarks_at (n s i : Nat) (h : i < n) : (imarks n s).getD i 0 = (s : Int) + (i : Int) := by
  rw [List.getD_eq_getElem?_getD, imarks, List.getElem?_map, List.getElem?_range h]; rfl
theorem OwnI.set {e : TypeId} {w : World} {B g cap n : Nat} {L : List Int} (h : OwnI e w B (.slice (some ⟨g, 0, none⟩) n cap) L) (hn : L.length = n) (i : Nat) (x : Int) :
    OwnI e (w.setCell ⟨g, i, none⟩ (.int .i64 x)) B (.slice (some ⟨g, 0, none⟩) n cap) (L.set i x) ∧ w.grownBy (w.setCell ⟨g, i, none⟩ (.int .i64 x)) (some g) := by
  subst hn
  have := World.ownsRow.stored h i (.int .i64 x)
  refine ⟨?_, this.2⟩
  unfold OwnI
  rw [List.map_set, List.length_set]
  exact this.1
theorem itake_set {L zs : List Int} {k : Nat} (hl : L.length = zs.length) (hk : k < zs.length) (h : L.take k = zs.take k) : (L.set k (zs.getD k 0)).take (k + 1) = zs.take (k + 1) := by
  have e1 : (L.set k (zs.getD k 0)).take (k + 1) = (L.set k (zs.getD k 0)).take k ++ [zs.getD k 0] := by
    rw [List.take_add_one, List.getElem?_set_self (by omega)]; rfl
  have e2 : zs.take (k + 1) = zs.take k ++ [zs.getD k 0] := by
    rw [List.take_add_one, List.getD_eq_getElem?_getD, List.getElem?_eq_getElem hk]; rfl
  rw [e1, e2, List.take_set_of_le (Nat.le_refl _), h]

set_option maxHeartbeats 1000000 in
theorem markIntS_any (a : Option Addr) (n cap B s : Nat) (L : List Int) (w : World) (h : OwnI 3 w B (.slice a n cap) L) (hn : L.length = n) (hlen : n ≤ 1048576) (hs : s ≤ 9000000) :
    Calls Try.prog 26 #[.slice a n cap, .int .i64 s] w fun e w' => e = .returned (.int .i64 ((s : Int) + (n : Int))) ∧ OwnI 3 w' B (.slice a n cap) (imarks n s) ∧ w.grownBy w' (Value.slice a n cap).ownBlock := by
  have H : Hid (OwnI 3 w B (.slice a n cap) L) := h
  clear h
  go_enter Try.func26, Try.ntmps26
  go_wp2
  go_loopw [1, 5] (fun m i wr => ∃ (k : Nat) (L' : List Int), k ≤ n ∧ i = .int .i64 k ∧ m = .int .i64 ((s : Int) + (k : Int)) ∧ Hid (OwnI 3 wr B (.slice a n cap) L' ∧ L'.length = n ∧ L'.take k = (imarks n s).take k ∧ w.grownBy wr (Value.slice a n cap).ownBlock)) (fun _ i _ => n - (intOf i).toNat)
  case atStart => exact ⟨0, L, Nat.zero_le _, rfl, by simp, H.out, hn, rfl, grown_refl w _⟩
  case round =>
    obtain ⟨k, L', hk, rfl, rfl, X⟩ := hrel
    by_cases hlt : k < n
    · obtain ⟨g, ea, hBg, hc⟩ := own_ints X.out.1 (by rw [X.out.2.1]; omega)
      subst ea
      have hcc := hc k (by rw [X.out.2.1]; omega)
      have e0 := X.out.2.1
      have hfz : wr.frozen? ⟨g, k, none⟩ = false := by
        have h1 := X.out.1
        unfold OwnI at h1
        rw [e0] at h1
        exact World.ownsRow.frozenAt h1 k
      have hltz : (k : Int) < (n : Int) := by omega
      have s1 := X.out.1.set X.out.2.1 k ((s : Int) + (k : Int))
      have Y : Hid (OwnI 3 (wr.setCell ⟨g, k, none⟩ (.int .i64 ((s : Int) + (k : Int)))) B (.slice (some ⟨g, 0, none⟩) n cap) (L'.set k ((s : Int) + (k : Int))) ∧ (L'.set k ((s : Int) + (k : Int))).length = n ∧ (L'.set k ((s : Int) + (k : Int))).take (k + 1) = (imarks n s).take (k + 1) ∧ w.grownBy (wr.setCell ⟨g, k, none⟩ (.int .i64 ((s : Int) + (k : Int)))) (some g)) := by
        refine ⟨s1.1, by rw [List.length_set]; exact X.out.2.1, ?_, grown_trans X.out.2.2.2 s1.2⟩
        have := itake_set (L := L') (zs := imarks n s) (by rw [X.out.2.1, imarks_len]) (by rw [imarks_len]; exact hlt) X.out.2.2.1
        rwa [imarks_at n s k hlt] at this
      clear s1 X hc e0 hBg
      generalize L'.getD k 0 = y0 at hcc
      go_wp2
      go_roundw
      case rel => exact ⟨k + 1, _, by omega, by go_num, by go_num, Y⟩
      case measure => simp [intOf]; omega
    · obtain rfl : k = n := by omega
      have e1 : L' = imarks k s := by
        have := X.out.2.2.1
        rwa [List.take_of_length_le (by rw [X.out.2.1]; exact Nat.le_refl _), List.take_of_length_le (by rw [imarks_len]; exact Nat.le_refl _)] at this
      subst e1
      go_wp2
      go_ret
      exact ⟨rfl, X.out.1, X.out.2.2.2⟩

set_option maxHeartbeats 1000000 in
theorem heldIntS_any (a : Option Addr) (n cap s : Nat) (w : World) (h : Ints w a (imarks n s)) (hlen : n ≤ 1048576) (hs : s ≤ 9000000) :
    Calls Try.prog 27 #[.slice a n cap, .int .i64 s] w fun e w' => e = .returned (.int .i64 ((s : Int) + (n : Int))) ∧ Grw w w' := by
  have H : Hid (Ints w a (imarks n s)) := h
  clear h
  go_enter Try.func27, Try.ntmps27
  go_wp2
  go_loopw [1, 5] (fun m i wr => ∃ k : Nat, k ≤ n ∧ i = .int .i64 k ∧ m = .int .i64 ((s : Int) + (k : Int)) ∧ Hid (Grw w wr)) (fun _ i _ => n - (intOf i).toNat)
  case atStart => exact ⟨0, Nat.zero_le _, rfl, by simp, Grw.refl w⟩
  case round =>
    obtain ⟨k, hk, rfl, rfl, HG⟩ := hrel
    by_cases hlt : k < n
    · obtain ⟨b, rfl, hb, p0⟩ := H.out.cells HG.out.below (k := k) (by rw [imarks_len]; omega)
      rw [imarks_at n s k hlt] at p0
      have hltz : (k : Int) < (n : Int) := by omega
      have hn1 : (((s : Int) + (k : Int)) != ((s : Int) + (k : Int))) = false := by simp
      go_wp2
      go_roundw
      case rel => exact ⟨k + 1, by omega, by go_num, by go_num, HG⟩
      case measure => simp [intOf]; omega
    · obtain rfl : k = n := by omega
      go_wp2
      go_ret
      exact ⟨rfl, HG.out⟩
end Go.Proofs.Ytbbjelkicenbhab
