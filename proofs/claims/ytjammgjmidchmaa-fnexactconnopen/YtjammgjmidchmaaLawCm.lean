/- Lists of segments in the laws, marked and held. -/
import Derived.Test.YtjammgjmidchmaaLawC
import Derived.Test.YtjammgjmidchmaaMarkT
import Derived.Test.YtjammgjmidchmaaOwnT
namespace Go.Proofs.Ytjammgjmidchmaa
open Go.RowKit Go.PlainAid Go.Proofs.Ytjammgjmidchmaa.Bt Go.Sort
set_option linter.unusedVariables false
set_option maxRecDepth 20000
/-- What is marked. -/
def mkSeg (k : Nat) : SegV := ⟨1 + 7 * (k : Int), 1 + 7 * (k : Int) + 1, 1 + 7 * (k : Int) + 1 + 1, 1 + 7 * (k : Int) + 1 + 1 + 1, 1 + 7 * (k : Int) + 1 + 1 + 1 + 1, 1 + 7 * (k : Int) + 1 + 1 + 1 + 1 + 1, mtS (1 + 7 * k + 6)⟩
def mk7 (n : Nat) : List SegV := (List.range n).map mkSeg
theorem mk7_len (n : Nat) : (mk7 n).length = n := by simp [mk7]
theorem mk7_at (n i : Nat) (h : i < n) : (mk7 n)[i]? = some (mkSeg i) := by rw [mk7, List.getElem?_map, List.getElem?_range h]; rfl
theorem mkSeg_ok (k : Nat) (h : k ≤ 1048576) : SgRok (mkSeg k) := by
  unfold SgRok mkSeg
  dsimp only
  exact ⟨int_wf9 (by omega) (by omega), int_wf9 (by omega) (by omega), int_wf9 (by omega) (by omega), int_wf9 (by omega) (by omega), int_wf9 (by omega) (by omega), int_wf9 (by omega) (by omega), Nat.le_trans (mtS_len _ (by omega)) (by unfold maxLen; omega)⟩
theorem mk7_ok (n : Nat) (h : n ≤ 1048576) : ∀ x, x ∈ mk7 n → SgRok x := by
  intro x hx
  unfold mk7 at hx
  simp at hx
  obtain ⟨i, hi, rfl⟩ := hx
  exact mkSeg_ok i (by omega)
set_option maxHeartbeats 4000000 in
theorem markSegmentS_any (a : Option Addr) (n cap B : Nat) (L : List SegV) (w : World) (h : OwnS sgG 7 27 w B (.slice a n cap) L) (hlen : n ≤ 1048576) :
    Calls Try.prog 28 #[.slice a n cap, .int .i64 1] w fun e w' => e = .returned (.int .i64 (1 + 7 * (n : Int))) ∧ OwnS sgG 7 27 w' B (.slice a n cap) (mk7 n) ∧ w.grownBy w' (Value.slice a n cap).ownBlock := by
  have H : Hid (OwnS sgG 7 27 w B (.slice a n cap) L) := h
  have hn := h.len
  clear h
  go_enter Try.func28, Try.ntmps28
  go_wp2
  go_loopw [1, 5] (fun m i wr => ∃ (k : Nat) (L' : List SegV), k ≤ n ∧ i = .int .i64 k ∧ m = .int .i64 (1 + 7 * (k : Int)) ∧ Hid (OwnS sgG 7 27 wr B (.slice a n cap) L' ∧ L'.length = n ∧ L'.take k = (mk7 n).take k ∧ w.grownBy wr (Value.slice a n cap).ownBlock)) (fun _ i _ => n - (intOf i).toNat)
  case atStart => exact ⟨0, L, Nat.zero_le _, rfl, rfl, H.out, hn, rfl, grown_refl w _⟩
  case round =>
    obtain ⟨k, L', hk, rfl, rfl, X⟩ := hrel
    by_cases hlt : k < n
    · obtain ⟨g, rfl, hBg, hg, -⟩ := X.out.1.form (by rw [X.out.2.1]; omega)
      obtain ⟨x, hx⟩ := at_of (k := k) X.out.2.1 hlt
      have hltz : (k : Int) < (n : Int) := by omega
      obtain ⟨c0, z0⟩ := X.out.1.cell sgG_len (j := 0) hx rfl
      obtain ⟨c1, z1⟩ := X.out.1.cell sgG_len (j := 1) hx rfl
      obtain ⟨c2, z2⟩ := X.out.1.cell sgG_len (j := 2) hx rfl
      obtain ⟨c3, z3⟩ := X.out.1.cell sgG_len (j := 3) hx rfl
      obtain ⟨c4, z4⟩ := X.out.1.cell sgG_len (j := 4) hx rfl
      obtain ⟨c5, z5⟩ := X.out.1.cell sgG_len (j := 5) hx rfl
      replace c0 : wr.cell? ⟨g, k * 7, none⟩ = some (.int .i64 x.sp) := c0
      replace z0 : wr.frozen? ⟨g, k * 7, none⟩ = false := z0
      have s0 := X.out.1.set1 sgG_len (j := 0) (y := { x with sp := 1 + 7 * (k : Int) }) hx (by omega) rfl
      have hx0 : (L'.set k { x with sp := 1 + 7 * (k : Int) })[k]? = some { x with sp := 1 + 7 * (k : Int) } := List.getElem?_set_self (by rw [X.out.2.1]; exact hlt)
      have s1 := s0.1.set1 sgG_len (j := 1) (y := { x with sp := 1 + 7 * (k : Int), dp := 1 + 7 * (k : Int) + 1 }) hx0 (by omega) rfl
      rw [List.set_set] at s1
      have hx1 : (L'.set k { x with sp := 1 + 7 * (k : Int), dp := 1 + 7 * (k : Int) + 1 })[k]? = some { x with sp := 1 + 7 * (k : Int), dp := 1 + 7 * (k : Int) + 1 } := List.getElem?_set_self (by rw [X.out.2.1]; exact hlt)
      have s2 := s1.1.set1 sgG_len (j := 2) (y := { x with sp := 1 + 7 * (k : Int), dp := 1 + 7 * (k : Int) + 1, sq := 1 + 7 * (k : Int) + 1 + 1 }) hx1 (by omega) rfl
      rw [List.set_set] at s2
      have hx2 : (L'.set k { x with sp := 1 + 7 * (k : Int), dp := 1 + 7 * (k : Int) + 1, sq := 1 + 7 * (k : Int) + 1 + 1 })[k]? = some { x with sp := 1 + 7 * (k : Int), dp := 1 + 7 * (k : Int) + 1, sq := 1 + 7 * (k : Int) + 1 + 1 } := List.getElem?_set_self (by rw [X.out.2.1]; exact hlt)
      have s3 := s2.1.set1 sgG_len (j := 3) (y := { x with sp := 1 + 7 * (k : Int), dp := 1 + 7 * (k : Int) + 1, sq := 1 + 7 * (k : Int) + 1 + 1, ac := 1 + 7 * (k : Int) + 1 + 1 + 1 }) hx2 (by omega) rfl
      rw [List.set_set] at s3
      have hx3 : (L'.set k { x with sp := 1 + 7 * (k : Int), dp := 1 + 7 * (k : Int) + 1, sq := 1 + 7 * (k : Int) + 1 + 1, ac := 1 + 7 * (k : Int) + 1 + 1 + 1 })[k]? = some { x with sp := 1 + 7 * (k : Int), dp := 1 + 7 * (k : Int) + 1, sq := 1 + 7 * (k : Int) + 1 + 1, ac := 1 + 7 * (k : Int) + 1 + 1 + 1 } := List.getElem?_set_self (by rw [X.out.2.1]; exact hlt)
      have s4 := s3.1.set1 sgG_len (j := 4) (y := { x with sp := 1 + 7 * (k : Int), dp := 1 + 7 * (k : Int) + 1, sq := 1 + 7 * (k : Int) + 1 + 1, ac := 1 + 7 * (k : Int) + 1 + 1 + 1, fl := 1 + 7 * (k : Int) + 1 + 1 + 1 + 1 }) hx3 (by omega) rfl
      rw [List.set_set] at s4
      have hx4 : (L'.set k { x with sp := 1 + 7 * (k : Int), dp := 1 + 7 * (k : Int) + 1, sq := 1 + 7 * (k : Int) + 1 + 1, ac := 1 + 7 * (k : Int) + 1 + 1 + 1, fl := 1 + 7 * (k : Int) + 1 + 1 + 1 + 1 })[k]? = some { x with sp := 1 + 7 * (k : Int), dp := 1 + 7 * (k : Int) + 1, sq := 1 + 7 * (k : Int) + 1 + 1, ac := 1 + 7 * (k : Int) + 1 + 1 + 1, fl := 1 + 7 * (k : Int) + 1 + 1 + 1 + 1 } := List.getElem?_set_self (by rw [X.out.2.1]; exact hlt)
      have s5 := s4.1.set1 sgG_len (j := 5) (y := { x with sp := 1 + 7 * (k : Int), dp := 1 + 7 * (k : Int) + 1, sq := 1 + 7 * (k : Int) + 1 + 1, ac := 1 + 7 * (k : Int) + 1 + 1 + 1, fl := 1 + 7 * (k : Int) + 1 + 1 + 1 + 1, wi := 1 + 7 * (k : Int) + 1 + 1 + 1 + 1 + 1 }) hx4 (by omega) rfl
      rw [List.set_set] at s5
      have hx5 : (L'.set k { x with sp := 1 + 7 * (k : Int), dp := 1 + 7 * (k : Int) + 1, sq := 1 + 7 * (k : Int) + 1 + 1, ac := 1 + 7 * (k : Int) + 1 + 1 + 1, fl := 1 + 7 * (k : Int) + 1 + 1 + 1 + 1, wi := 1 + 7 * (k : Int) + 1 + 1 + 1 + 1 + 1 })[k]? = some { x with sp := 1 + 7 * (k : Int), dp := 1 + 7 * (k : Int) + 1, sq := 1 + 7 * (k : Int) + 1 + 1, ac := 1 + 7 * (k : Int) + 1 + 1 + 1, fl := 1 + 7 * (k : Int) + 1 + 1 + 1 + 1, wi := 1 + 7 * (k : Int) + 1 + 1 + 1 + 1 + 1 } := List.getElem?_set_self (by rw [X.out.2.1]; exact hlt)
      have HM : Hid (∀ w, Calls Try.prog 60 #[.int .i64 (1 + 7 * (k : Int) + 1 + 1 + 1 + 1 + 1 + 1)] w fun e w' => e = .returned (.string (mtS (1 + 7 * k + 6))) ∧ Grw w w') := fun w => by
        have := markText_any (1 + 7 * k + 6) w (by omega) (by omega)
        rw [show (((1 + 7 * k + 6 : Nat)) : Int) = 1 + 7 * (k : Int) + 1 + 1 + 1 + 1 + 1 + 1 by omega] at this
        exact this
      have Y0 : ∀ W1, W1 = ((((((wr.setCell ⟨g, k * 7, none⟩ (.int .i64 (1 + 7 * (k : Int)))).setCell ⟨g, k * 7 + 1, none⟩ (.int .i64 (1 + 7 * (k : Int) + 1))).setCell ⟨g, k * 7 + 2, none⟩ (.int .i64 (1 + 7 * (k : Int) + 1 + 1))).setCell ⟨g, k * 7 + 3, none⟩ (.int .i64 (1 + 7 * (k : Int) + 1 + 1 + 1))).setCell ⟨g, k * 7 + 4, none⟩ (.int .i64 (1 + 7 * (k : Int) + 1 + 1 + 1 + 1))).setCell ⟨g, k * 7 + 5, none⟩ (.int .i64 (1 + 7 * (k : Int) + 1 + 1 + 1 + 1 + 1))) → OwnS sgG 7 27 W1 B (.slice (some ⟨g, 0, none⟩) n cap) (L'.set k { x with sp := 1 + 7 * (k : Int), dp := 1 + 7 * (k : Int) + 1, sq := 1 + 7 * (k : Int) + 1 + 1, ac := 1 + 7 * (k : Int) + 1 + 1 + 1, fl := 1 + 7 * (k : Int) + 1 + 1 + 1 + 1, wi := 1 + 7 * (k : Int) + 1 + 1 + 1 + 1 + 1 }) ∧ w.grownBy W1 (some g) := by
        intro W1 hW1
        subst hW1
        exact ⟨s5.1, grown_tr (grown_tr (grown_tr (grown_tr (grown_tr (grown_tr X.out.2.2.2 s0.2) s1.2) s2.2) s3.2) s4.2) s5.2⟩
      have Y1 : Hid (OwnS sgG 7 27 (((((((wr.setCell ⟨g, k * 7, none⟩ (.int .i64 (1 + 7 * (k : Int)))).setCell ⟨g, k * 7 + 1, none⟩ (.int .i64 (1 + 7 * (k : Int) + 1))).setCell ⟨g, k * 7 + 2, none⟩ (.int .i64 (1 + 7 * (k : Int) + 1 + 1))).setCell ⟨g, k * 7 + 3, none⟩ (.int .i64 (1 + 7 * (k : Int) + 1 + 1 + 1))).setCell ⟨g, k * 7 + 4, none⟩ (.int .i64 (1 + 7 * (k : Int) + 1 + 1 + 1 + 1))).setCell ⟨g, k * 7 + 5, none⟩ (.int .i64 (1 + 7 * (k : Int) + 1 + 1 + 1 + 1 + 1)))) B (.slice (some ⟨g, 0, none⟩) n cap) (L'.set k { x with sp := 1 + 7 * (k : Int), dp := 1 + 7 * (k : Int) + 1, sq := 1 + 7 * (k : Int) + 1 + 1, ac := 1 + 7 * (k : Int) + 1 + 1 + 1, fl := 1 + 7 * (k : Int) + 1 + 1 + 1 + 1, wi := 1 + 7 * (k : Int) + 1 + 1 + 1 + 1 + 1 }) ∧ w.grownBy (((((((wr.setCell ⟨g, k * 7, none⟩ (.int .i64 (1 + 7 * (k : Int)))).setCell ⟨g, k * 7 + 1, none⟩ (.int .i64 (1 + 7 * (k : Int) + 1))).setCell ⟨g, k * 7 + 2, none⟩ (.int .i64 (1 + 7 * (k : Int) + 1 + 1))).setCell ⟨g, k * 7 + 3, none⟩ (.int .i64 (1 + 7 * (k : Int) + 1 + 1 + 1))).setCell ⟨g, k * 7 + 4, none⟩ (.int .i64 (1 + 7 * (k : Int) + 1 + 1 + 1 + 1))).setCell ⟨g, k * 7 + 5, none⟩ (.int .i64 (1 + 7 * (k : Int) + 1 + 1 + 1 + 1 + 1)))) (some g)) := Y0 _ rfl
      have hT : Hid (L'.length = n ∧ L'.take k = (mk7 n).take k) := ⟨X.out.2.1, X.out.2.2.1⟩
      have hx6 : Hid ((L'.set k { x with sp := 1 + 7 * (k : Int), dp := 1 + 7 * (k : Int) + 1, sq := 1 + 7 * (k : Int) + 1 + 1, ac := 1 + 7 * (k : Int) + 1 + 1 + 1, fl := 1 + 7 * (k : Int) + 1 + 1 + 1 + 1, wi := 1 + 7 * (k : Int) + 1 + 1 + 1 + 1 + 1 })[k]? = some { x with sp := 1 + 7 * (k : Int), dp := 1 + 7 * (k : Int) + 1, sq := 1 + 7 * (k : Int) + 1 + 1, ac := 1 + 7 * (k : Int) + 1 + 1 + 1, fl := 1 + 7 * (k : Int) + 1 + 1 + 1 + 1, wi := 1 + 7 * (k : Int) + 1 + 1 + 1 + 1 + 1 }) := hx5
      clear s0 s1 s2 s3 s4 s5 hx0 hx1 hx2 hx3 hx4 hx5 X Y0 hx
      go_wp2_with fail
      refine (HM.out _).mono ?_
      rintro e w3 ⟨rfl, g3⟩
      have o3 := Y1.out.1.now g3.below
      obtain ⟨c6, z6⟩ := o3.cell sgG_len (j := 6) hx6.out rfl
      have Y : Hid (OwnS sgG 7 27 (w3.setCell ⟨g, k * 7 + 6, none⟩ (.string (mtS (1 + 7 * k + 6)))) B (.slice (some ⟨g, 0, none⟩) n cap) (L'.set k (mkSeg k)) ∧ (L'.set k (mkSeg k)).length = n ∧ (L'.set k (mkSeg k)).take (k + 1) = (mk7 n).take (k + 1) ∧ w.grownBy (w3.setCell ⟨g, k * 7 + 6, none⟩ (.string (mtS (1 + 7 * k + 6)))) (some g)) := by
        have h2 := o3.set1 sgG_len (j := 6) (y := mkSeg k) (u := .string (mtS (1 + 7 * k + 6))) hx6.out (by omega) rfl
        rw [List.set_set] at h2
        exact ⟨h2.1, by rw [List.length_set]; exact hT.out.1, takeS_set (by rw [hT.out.1, mk7_len]) (mk7_at n k hlt) hT.out.2, grown_tr (grown_tr Y1.out.2 (g3.grown _)) h2.2⟩
      clear Y1 o3 hx6 g3 hT HM c0 z0 c1 z1 c2 z2 c3 z3 c4 z4 c5 z5
      go_wp2
      go_roundw
      case rel => exact ⟨k + 1, _, by omega, by go_num, by go_num, Y⟩
      case measure => simp [intOf]; omega
    · obtain rfl : k = n := by omega
      have e1 : L' = mk7 k := by
        have := X.out.2.2.1
        rwa [List.take_of_length_le (by rw [X.out.2.1]; exact Nat.le_refl _), List.take_of_length_le (by rw [mk7_len]; exact Nat.le_refl _)] at this
      subst e1
      go_wp2
      go_ret
      exact ⟨rfl, X.out.1, X.out.2.2.2⟩
set_option maxHeartbeats 4000000 in
theorem heldSegmentS_any (a : Option Addr) (n cap : Nat) (w : World) (h : Rw SgR 7 w a (mk7 n)) (hlen : n ≤ 1048576) :
    Calls Try.prog 29 #[.slice a n cap, .int .i64 1] w fun e w' => e = .returned (.int .i64 (1 + 7 * (n : Int))) ∧ Grw w w' := by
  have H : Hid (Rw SgR 7 w a (mk7 n)) := h
  clear h
  have hmix : Try.prog.follows .mixedOrders = true := by kernel_rfl
  go_enter Try.func29, Try.ntmps29
  go_wp2
  go_loopw [1, 5] (fun m i wr => ∃ k : Nat, k ≤ n ∧ i = .int .i64 k ∧ m = .int .i64 (1 + 7 * (k : Int)) ∧ Hid (Grw w wr)) (fun _ i _ => n - (intOf i).toNat)
  case atStart => exact ⟨0, Nat.zero_le _, rfl, rfl, Grw.refl w⟩
  case round =>
    obtain ⟨k, hk, rfl, rfl, HG⟩ := hrel
    by_cases hlt : k < n
    · obtain ⟨b, off, vs, rfl, hb, hvl, hR, hc⟩ := H.out.at FR.kp HG.out.below (mk7_at n k hlt)
      obtain ⟨rfl, -⟩ := hR
      have q0 : wr.cell? ⟨b, off + k * 7, none⟩ = some (.int .i64 (1 + 7 * (k : Int))) := hc 0 _ rfl
      have q1 : wr.cell? ⟨b, off + k * 7 + 1, none⟩ = some (.int .i64 (1 + 7 * (k : Int) + 1)) := hc 1 _ rfl
      have q2 : wr.cell? ⟨b, off + k * 7 + 2, none⟩ = some (.int .i64 (1 + 7 * (k : Int) + 1 + 1)) := hc 2 _ rfl
      have q3 : wr.cell? ⟨b, off + k * 7 + 3, none⟩ = some (.int .i64 (1 + 7 * (k : Int) + 1 + 1 + 1)) := hc 3 _ rfl
      have q4 : wr.cell? ⟨b, off + k * 7 + 4, none⟩ = some (.int .i64 (1 + 7 * (k : Int) + 1 + 1 + 1 + 1)) := hc 4 _ rfl
      have q5 : wr.cell? ⟨b, off + k * 7 + 5, none⟩ = some (.int .i64 (1 + 7 * (k : Int) + 1 + 1 + 1 + 1 + 1)) := hc 5 _ rfl
      have q6 : wr.cell? ⟨b, off + k * 7 + 6, none⟩ = some (.string (mtS (1 + 7 * k + 6))) := hc 6 _ rfl
      have y6 : ∀ n os, (grow (wr.drewN n) os).cell? ⟨b, off + k * 7 + 6, none⟩ = some (.string (mtS (1 + 7 * k + 6))) := fun n os => bkeep (Grw.below ⟨n, os, rfl⟩) q6
      have hn0 : ((1 + 7 * (k : Int)) != (1 + 7 * (k : Int))) = false := by simp
      have hn1 : ((1 + 7 * (k : Int) + 1) != (1 + 7 * (k : Int) + 1)) = false := by simp
      have hn2 : ((1 + 7 * (k : Int) + 1 + 1) != (1 + 7 * (k : Int) + 1 + 1)) = false := by simp
      have hn3 : ((1 + 7 * (k : Int) + 1 + 1 + 1) != (1 + 7 * (k : Int) + 1 + 1 + 1)) = false := by simp
      have hn4 : ((1 + 7 * (k : Int) + 1 + 1 + 1 + 1) != (1 + 7 * (k : Int) + 1 + 1 + 1 + 1)) = false := by simp
      have hn5 : ((1 + 7 * (k : Int) + 1 + 1 + 1 + 1 + 1) != (1 + 7 * (k : Int) + 1 + 1 + 1 + 1 + 1)) = false := by simp
      have HM : Hid (∀ w, Calls Try.prog 60 #[.int .i64 (1 + 7 * (k : Int) + 1 + 1 + 1 + 1 + 1 + 1)] w fun e w' => e = .returned (.string (mtS (1 + 7 * k + 6))) ∧ Grw w w') := fun w => by
        have := markText_any (1 + 7 * k + 6) w (by omega) (by omega)
        rw [show (((1 + 7 * k + 6 : Nat)) : Int) = 1 + 7 * (k : Int) + 1 + 1 + 1 + 1 + 1 + 1 by omega] at this
        exact this
      generalize mtS (1 + 7 * k + 6) = T at *
      have hT : (T.toList == T.toList) = true := by simp
      have hltz : (k : Int) < (n : Int) := by omega
      clear hc hvl
      go_wp2_with fail
      refine wp_region_quiet_grown (by assumption) (by kernel_rfl) ?_
      repeat (go_big_quiet_step (first | fail | (go_at_call 60; exact Calls.grown_of (HM.out _))))
      refine wpQuiet_nil ?_
      intro _ hw'
      obtain ⟨⟨nq, osq⟩, hw''⟩ := hw'
      subst hw''
      have HG2 : Hid (Grw w (grow (wr.drewN nq) osq)) := HG.out.trans ⟨nq, osq, rfl⟩
      clear y6 q0 q1 q2 q3 q4 q5 q6 HG HM
      generalize (grow (wr.drewN nq) osq) = w5 at *
      go_wp2
      go_roundw
      case rel => exact ⟨k + 1, by omega, by go_num, by go_num, HG2⟩
      case measure => simp [intOf]; omega
    · obtain rfl : k = n := by omega
      go_wp2
      go_ret
      exact ⟨rfl, HG.out⟩
end Go.Proofs.Ytjammgjmidchmaa
