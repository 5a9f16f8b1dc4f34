/- Rows of timers marked and held: laws.markTimerS, laws.heldTimerS. -/
import Derived.Test.YtbbjelkicenbhabPairT
namespace Go.Proofs.Ytbbjelkicenbhab
open Go.RowKit Go.PlainAid Go.Sort
set_option linter.unusedVariables false
set_option maxRecDepth 20000

/-- What is marked. -/
def marks (n : Nat) : List (Int × Int) := (List.range n).map fun i : Nat => (1 + 2 * (i : Int), 1 + 2 * (i : Int) + 1)
theorem marks_len (n : Nat) : (marks n).length = n := by simp [marks]
theorem marks_at (n i : Nat) (h : i < n) : (marks n).getD i (0, 0) = (1 + 2 * (i : Int), 1 + 2 * (i : Int) + 1) := by
  rw [List.getD_eq_getElem?_getD, marks, List.getElem?_map, List.getElem?_range h]; rfl
theorem grown_refl (w : World) (r : Option Nat) : w.grownBy w r := ⟨rfl, rfl, rfl, Nat.le_refl _, fun _ _ _ => rfl⟩
theorem grown_trans {w w1 w2 : World} {r : Option Nat} (h1 : w.grownBy w1 r) (h2 : w1.grownBy w2 r) : w.grownBy w2 r :=
  ⟨h2.os.trans h1.os, h2.tape.trans h1.tape, h2.output.trans h1.output, Nat.le_trans h1.size h2.size, fun k hk hr => (h2.block k (Nat.lt_of_lt_of_le hk h1.size) hr).trans (h1.block k hk hr)⟩
theorem own_form {e : TypeId} {w : World} {B n cap : Nat} {a : Option Addr} {L : List (Int × Int)} (h : OwnP e w B (.slice a n cap) L) (h0 : 0 < L.length) : ∃ g, a = some ⟨g, 0, none⟩ ∧ B ≤ g ∧ L.length = n := by
  rcases h.2 with ⟨h1, h2⟩ | ⟨g, c, cur, h1, hB, _⟩
  · omega
  · cases h1
    exact ⟨g, rfl, hB, rfl⟩

set_option maxHeartbeats 1000000 in
theorem markTimerS_any (a : Option Addr) (n cap B : Nat) (L : List (Int × Int)) (w : World) (h : OwnP 45 w B (.slice a n cap) L) (hn : L.length = n) (hlen : n ≤ 1048576) :
    Calls Try.prog 21 #[.slice a n cap, .int .i64 1] w fun e w' => e = .returned (.int .i64 (1 + 2 * (n : Int))) ∧ OwnP 45 w' B (.slice a n cap) (marks n) ∧ w.grownBy w' (Value.slice a n cap).ownBlock := by
  have H : Hid (OwnP 45 w B (.slice a n cap) L) := h
  clear h
  go_enter Try.func21, Try.ntmps21
  go_wp2
  go_loopw [1, 5] (fun m i wr => ∃ (k : Nat) (L' : List (Int × Int)), k ≤ n ∧ i = .int .i64 k ∧ m = .int .i64 (1 + 2 * (k : Int)) ∧ Hid (OwnP 45 wr B (.slice a n cap) L' ∧ L'.length = n ∧ L'.take k = (marks n).take k ∧ w.grownBy wr (Value.slice a n cap).ownBlock)) (fun _ i _ => n - (intOf i).toNat)
  case atStart => exact ⟨0, L, Nat.zero_le _, rfl, rfl, H.out, hn, rfl, grown_refl w _⟩
  case round =>
    obtain ⟨k, L', hk, rfl, rfl, X⟩ := hrel
    by_cases hlt : k < n
    · obtain ⟨g, rfl, hBg, -⟩ := own_form X.out.1 (by rw [X.out.2.1]; omega)
      obtain ⟨c0, c1, z0, z1, hg⟩ := X.out.1.cell X.out.2.1 hlt
      have hltz : (k : Int) < (n : Int) := by omega
      have s1 := X.out.1.set1 X.out.2.1 hlt (1 + 2 * (k : Int))
      have d1 := s1.1.cell (by rw [List.length_set]; exact X.out.2.1) hlt
      have s2 := s1.1.set2 (by rw [List.length_set]; exact X.out.2.1) hlt (1 + 2 * (k : Int) + 1)
      have Y : Hid (OwnP 45 ((wr.setCell ⟨g, k * 2, none⟩ (.int .i64 (1 + 2 * (k : Int)))).setCell ⟨g, k * 2 + 1, none⟩ (.int .i64 (1 + 2 * (k : Int) + 1))) B (.slice (some ⟨g, 0, none⟩) n cap) (L'.set k (1 + 2 * (k : Int), 1 + 2 * (k : Int) + 1)) ∧ (L'.set k (1 + 2 * (k : Int), 1 + 2 * (k : Int) + 1)).length = n ∧ (L'.set k (1 + 2 * (k : Int), 1 + 2 * (k : Int) + 1)).take (k + 1) = (marks n).take (k + 1) ∧ w.grownBy ((wr.setCell ⟨g, k * 2, none⟩ (.int .i64 (1 + 2 * (k : Int)))).setCell ⟨g, k * 2 + 1, none⟩ (.int .i64 (1 + 2 * (k : Int) + 1))) (some g)) := by
        refine ⟨(X.out.1.set X.out.2.1 hBg hg hlt _ _).1, by rw [List.length_set]; exact X.out.2.1, ?_, grown_trans (grown_trans X.out.2.2.2 s1.2) s2.2⟩
        have := take_set (L := L') (zs := marks n) (by rw [X.out.2.1, marks_len]) (by rw [marks_len]; exact hlt) X.out.2.2.1
        rwa [marks_at n k hlt] at this
      obtain ⟨-, e1, -, y1, -⟩ := d1
      clear s1 s2 X
      go_wp2
      go_roundw
      case rel => exact ⟨k + 1, _, by omega, by go_num, by go_num, Y⟩
      case measure => simp [intOf]; omega
    · obtain rfl : k = n := by omega
      have e1 : L' = marks k := by
        have := X.out.2.2.1
        rwa [List.take_of_length_le (by rw [X.out.2.1]; exact Nat.le_refl _), List.take_of_length_le (by rw [marks_len]; exact Nat.le_refl _)] at this
      subst e1
      go_wp2
      go_ret
      exact ⟨rfl, X.out.1, X.out.2.2.2⟩

set_option maxHeartbeats 1000000 in
theorem heldTimerS_any (a : Option Addr) (n cap : Nat) (w : World) (h : Prs w a (marks n)) (hlen : n ≤ 1048576) :
    Calls Try.prog 22 #[.slice a n cap, .int .i64 1] w fun e w' => e = .returned (.int .i64 (1 + 2 * (n : Int))) ∧ Grw w w' := by
  have H : Hid (Prs w a (marks n)) := h
  clear h
  go_enter Try.func22, Try.ntmps22
  go_wp2
  go_loopw [1, 5] (fun m i wr => ∃ k : Nat, k ≤ n ∧ i = .int .i64 k ∧ m = .int .i64 (1 + 2 * (k : Int)) ∧ Hid (Grw w wr)) (fun _ i _ => n - (intOf i).toNat)
  case atStart => exact ⟨0, Nat.zero_le _, rfl, rfl, Grw.refl w⟩
  case round =>
    obtain ⟨k, hk, rfl, rfl, HG⟩ := hrel
    by_cases hlt : k < n
    · obtain ⟨b, off, rfl, hb, p0, p1⟩ := H.out.cells HG.out.below (k := k) (by rw [marks_len]; omega)
      rw [marks_at n k hlt] at p0 p1
      have hltz : (k : Int) < (n : Int) := by omega
      have hn1 : ((1 + 2 * (k : Int)) != (1 + 2 * (k : Int))) = false := by simp
      have hn2 : ((1 + 2 * (k : Int) + 1) != (1 + 2 * (k : Int) + 1)) = false := by simp
      go_wp2
      go_roundw
      case rel => exact ⟨k + 1, by omega, by go_num, by go_num, HG⟩
      case measure => simp [intOf]; omega
    · obtain rfl : k = n := by omega
      go_wp2
      go_ret
      exact ⟨rfl, HG.out⟩
end Go.Proofs.Ytbbjelkicenbhab
