/- Pairs and lists of them in the laws: measured, copied, compared. -/
import Derived.Test.YtbpdfkngkkopbaaOpenP
import Derived.Test.YtbpdfkngkkopbaaGrw
import Derived.Test.YtbpdfkngkkopbaaKeeps
import Derived.Test.YtbpdfkngkkopbaaInfo
import Derived.Test.YtbpdfkngkkopbaaRoom
import Derived.Test.YtbpdfkngkkopbaaTests
namespace Go.Proofs.Ytbpdfkngkkopbaa
open Go.RowKit Go.PlainAid Go.Proofs.Ytbpdfkngkkopbaa.Bt Go.Sort
set_option linter.unusedVariables false
set_option maxRecDepth 20000
set_option maxHeartbeats 2000000 in
theorem toPair_any (ke va : ByteArray) (w : World) :
    Calls Try.prog 12 #[.agg #[.string ke, .string va]] w fun e w' => e = .returned (.agg #[.string ke, .string va]) ∧ Grw w w' := by
  go_enter Try.func12, Try.ntmps12
  go_wp2
  (try simp only [Exit.inBlock, Exit.then])
  refine bodyPost_ret (v := .agg #[.string ke, .string va]) (by simp [results, Try.results12, go_sem]; try rfl) rfl ?_
  exact ⟨rfl, ((((Grw.refl _).alloc _).alloc _).alloc _)⟩
set_option maxHeartbeats 1000000 in
theorem eqPair_any (ke va : ByteArray) (w : World) :
    Calls Try.prog 15 #[.agg #[.string ke, .string va], .agg #[.string ke, .string va]] w fun e w' => e = .returned (.bool true) ∧ Grw w w' := by
  have h0 : (ke.toList == ke.toList) = true := by simp
  have h1 : (va.toList == va.toList) = true := by simp
  go_enter Try.func15, Try.ntmps15
  go_wp2
  go_ret
  exact ⟨rfl, ((Grw.refl _).alloc _).alloc _⟩
theorem infoPair : (Try.prog.info? 34).map (fun i => (i.zero, i.size, i.bytes)) = some (some (.agg #[.string ⟨#[]⟩, .string ⟨#[]⟩]), 2, 32) := by kernel_rfl
theorem zPair : (#[.string ⟨#[]⟩, .string ⟨#[]⟩] : Array Value).toList = pvG default := rfl
set_option maxHeartbeats 2000000 in
theorem toPairS_any (a : Option Addr) (len cap : Nat) (xs : List PairV) (w : World) (h : Rw PrR 2 w a xs) (hl : xs.length = len) (hc : len ≤ 1048576) :
    Calls Try.prog 6 #[.slice a len cap] w fun e w' => e = .returned (.slice (some ⟨w.heap.size, 0, none⟩) len len) ∧ OwnS pvG 2 34 w' w.heap.size (.slice (some ⟨w.heap.size, 0, none⟩) len len) xs ∧ (∀ x, x ∈ xs → PrRok x) ∧ Below w.heap.size w w' := by
  have RW : Hid (Rw PrR 2 w a xs) := h
  have HK : Hid (∀ x, x ∈ xs → PrRok x) := by
    intro x hx
    obtain ⟨i, hi⟩ := List.getElem?_of_mem hx
    obtain ⟨b, off, vs, _, _, _, h2, _⟩ := h.at FR.kp (Below.refl _ _) hi
    exact h2.2
  clear h
  obtain ⟨i0, hi, hz0, hz1, hz2⟩ := info_parts infoPair
  have hmk := run_make (P := Try.prog) w 26 34 i0 (.agg #[.string ⟨#[]⟩, .string ⟨#[]⟩]) Try.underlying26 hi hz0 .i64 .i64 len len (by omega) (Int.le_refl _) (by rw [hz2]; omega) (by omega)
  rw [hz1, Int.toNat_natCast] at hmk
  have HM : Hid (OwnS pvG 2 34 (w.alloc (.cells (madeCells #[.string ⟨#[]⟩, .string ⟨#[]⟩] (len * 2)) 34)) w.heap.size (.slice (some ⟨w.heap.size, 0, none⟩) len len) (List.replicate len default) ∧ Below w.heap.size w (w.alloc (.cells (madeCells #[.string ⟨#[]⟩, .string ⟨#[]⟩] (len * 2)) 34))) := ⟨OwnS.made w _ _ len default _ zPair rfl (by omega) (Nat.le_refl _) (by unfold maxLen; omega), (Below.refl _ _).alloc (Nat.le_refl _) _⟩
  have hmk2 : (Instr.makeSlice 26 (.int .i64 (len : Int)) (.int .i64 (len : Int))).run Try.prog w = .ok (.slice (some ⟨w.heap.size, 0, none⟩) len len) (w.alloc (.cells (madeCells #[.string ⟨#[]⟩, .string ⟨#[]⟩] (len * 2)) 34)) := hmk
  clear hmk hi hz0 hz1 hz2
  obtain ⟨W, hW⟩ : ∃ W, W = w.alloc (.cells (madeCells #[.string ⟨#[]⟩, .string ⟨#[]⟩] (len * 2)) 34) := ⟨_, rfl⟩
  rw [← hW] at HM hmk2
  clear hW
  go_enter Try.func6, Try.ntmps6
  go_wp2
  go_loopw [4] (fun i wr => ∃ (k : Nat) (L : List PairV), k ≤ len ∧ i = .int .i64 k ∧ Hid (OwnS pvG 2 34 wr w.heap.size (.slice (some ⟨w.heap.size, 0, none⟩) len len) L ∧ L.length = len ∧ L.take k = xs.take k ∧ Below w.heap.size w wr)) (fun i _ => len - (intOf i).toNat)
  case atStart => exact ⟨0, _, Nat.zero_le _, rfl, HM.out.1, List.length_replicate .., rfl, HM.out.2⟩
  case round =>
    obtain ⟨k, L, hk, rfl, X⟩ := hrel
    by_cases hlt : k < len
    · obtain ⟨x, hx⟩ := at_of hl hlt
      obtain ⟨b, off, vs, rfl, hb, hvl, hR, hc⟩ := RW.out.at FR.kp X.out.2.2.2 hx
      have TS : Hid ((L.set k x).take (k + 1) = xs.take (k + 1)) := takeS_set (by rw [X.out.2.1, hl]) hx X.out.2.2.1
      obtain ⟨ke, va⟩ := x
      obtain ⟨rfl, hok⟩ := hR
      clear hok
      have q0 : wr.cell? ⟨b, off + k * 2, none⟩ = some (.string ke) := hc 0 _ rfl
      have q1 : wr.cell? ⟨b, off + k * 2 + 1, none⟩ = some (.string va) := hc 1 _ rfl
      have HT : Hid (∀ w, Calls Try.prog 12 #[.agg #[.string ke, .string va]] w fun e w' => e = .returned (.agg #[.string ke, .string va]) ∧ Grw w w') := fun w => toPair_any ke va w
      have hltz : (k : Int) < (len : Int) := by omega
      clear hc
      go_wp2_with fail
      refine (HT.out _).mono ?_
      rintro e w1 ⟨rfl, g1⟩
      have b1 := g1.below
      have o1 := X.out.1.now b1
      obtain ⟨y, hy⟩ := at_of (k := k) X.out.2.1 hlt
      obtain ⟨c0, z0⟩ := o1.cell pvG_len (j := 0) hy rfl
      obtain ⟨c1, z1⟩ := o1.cell pvG_len (j := 1) hy rfl
      replace c0 : w1.cell? ⟨w.heap.size, k * 2, none⟩ = some (.string y.ke) := c0
      replace z0 : w1.frozen? ⟨w.heap.size, k * 2, none⟩ = false := z0
      have Y0 : ∀ W1, W1 = (w1.setCell ⟨w.heap.size, k * 2, none⟩ (.string ke)).setCell ⟨w.heap.size, k * 2 + 1, none⟩ (.string va) → OwnS pvG 2 34 W1 w.heap.size (.slice (some ⟨w.heap.size, 0, none⟩) len len) (L.set k ⟨ke, va⟩) ∧ (L.set k ⟨ke, va⟩).length = len ∧ (L.set k ⟨ke, va⟩).take (k + 1) = xs.take (k + 1) ∧ Below w.heap.size w W1 := by
        intro W1 hW1
        have h2 := o1.store pvG_len hlt ⟨ke, va⟩
        have e3 : W1 = wsets w1 w.heap.size (k * 2) (pvG ⟨ke, va⟩) := hW1
        rw [← e3] at h2
        exact ⟨h2.1, by rw [List.length_set]; exact X.out.2.1, TS.out, (X.out.2.2.2.trans (b1.mono X.out.2.2.2.size)).trans (below_row h2.2 (Nat.le_refl _) (Nat.le_trans X.out.2.2.2.size b1.size))⟩
      have Y : Hid (OwnS pvG 2 34 ((w1.setCell ⟨w.heap.size, k * 2, none⟩ (.string ke)).setCell ⟨w.heap.size, k * 2 + 1, none⟩ (.string va)) w.heap.size (.slice (some ⟨w.heap.size, 0, none⟩) len len) (L.set k ⟨ke, va⟩) ∧ (L.set k ⟨ke, va⟩).length = len ∧ (L.set k ⟨ke, va⟩).take (k + 1) = xs.take (k + 1) ∧ Below w.heap.size w ((w1.setCell ⟨w.heap.size, k * 2, none⟩ (.string ke)).setCell ⟨w.heap.size, k * 2 + 1, none⟩ (.string va))) := Y0 _ rfl
      clear Y0
      clear o1 b1 g1 q0 q1 HT X HM hmk2 hx hy TS
      go_wp2
      go_roundw
      case rel => exact ⟨k + 1, _, by omega, by go_num, Y⟩
      case measure => simp [intOf]; omega
    · obtain rfl : k = len := by omega
      have e1 : L = xs := by
        have := X.out.2.2.1
        rw [List.take_of_length_le (by rw [X.out.2.1]; exact Nat.le_refl _), List.take_of_length_le (by omega)] at this
        exact this
      subst e1
      go_wp2
      go_ret
      exact ⟨rfl, X.out.1, HK.out, X.out.2.2.2⟩
set_option maxHeartbeats 2000000 in
theorem eqPairS_yes (a a' : Option Addr) (len cap cap' : Nat) (xs : List PairV) (w : World) (h : Rw PrR 2 w a xs) (h' : Rw PrR 2 w a' xs) (hl : xs.length = len) (hlen : len ≤ 9223372036854775807) :
    Calls Try.prog 8 #[.slice a len cap, .slice a' len cap'] w fun e w' => e = .returned (.bool true) ∧ Grw w w' := by
  have hne : ((len : Int) != (len : Int)) = false := by simp
  have hmix : Try.prog.follows .mixedOrders = true := by kernel_rfl
  have RW : Hid (Rw PrR 2 w a xs) := h
  have RW' : Hid (Rw PrR 2 w a' xs) := h'
  clear h h'
  go_enter Try.func8, Try.ntmps8
  go_wp2
  go_loopw [5] (fun i wr => ∃ k : Nat, k ≤ len ∧ i = .int .i64 k ∧ Hid (Grw w wr)) (fun i _ => len - (intOf i).toNat)
  case atStart => exact ⟨0, Nat.zero_le _, rfl, Grw.refl w⟩
  case round =>
    obtain ⟨k, hk, rfl, HG⟩ := hrel
    by_cases hlt : k < len
    · obtain ⟨x, hx⟩ := at_of hl hlt
      obtain ⟨b, off, vs, rfl, hb, hvl, hR, hc⟩ := RW.out.at FR.kp HG.out.below hx
      obtain ⟨b', off', vs', rfl, hb', hvl', hR', hc'⟩ := RW'.out.at FR.kp HG.out.below hx
      obtain ⟨ke, va⟩ := x
      obtain ⟨rfl, -⟩ := hR
      obtain ⟨rfl, -⟩ := hR'
      have q0 : ∀ n os, (grow (wr.drewN n) os).cell? ⟨b, off + k * 2, none⟩ = some (.string ke) := fun n os => grown_cell hb HG.out (hc 0 _ rfl) n os
      have q1 : ∀ n os, (grow (wr.drewN n) os).cell? ⟨b, off + k * 2 + 1, none⟩ = some (.string va) := fun n os => grown_cell hb HG.out (hc 1 _ rfl) n os
      have r0 : ∀ n os, (grow (wr.drewN n) os).cell? ⟨b', off' + k * 2, none⟩ = some (.string ke) := fun n os => grown_cell hb' HG.out (hc' 0 _ rfl) n os
      have r1 : ∀ n os, (grow (wr.drewN n) os).cell? ⟨b', off' + k * 2 + 1, none⟩ = some (.string va) := fun n os => grown_cell hb' HG.out (hc' 1 _ rfl) n os
      have HE : Hid (∀ w, Calls Try.prog 15 #[.agg #[.string ke, .string va], .agg #[.string ke, .string va]] w fun e w' => e = .returned (.bool true) ∧ Grw w w') := fun w => eqPair_any ke va w
      have hltz : (k : Int) < (len : Int) := by omega
      clear hc hc'
      go_wp2_with fail
      refine wp_region_quiet_grown (by assumption) (by kernel_rfl) ?_
      repeat (go_big_quiet_step (first | fail | (go_at_call 15; exact Calls.grown_of (HE.out _))))
      refine wpQuiet_nil ?_
      intro _ hw'
      obtain ⟨⟨nq, osq⟩, hw''⟩ := hw'
      subst hw''
      have HG2 : Hid (Grw w (grow (wr.drewN nq) osq)) := HG.out.trans ⟨nq, osq, rfl⟩
      clear q0 q1 r0 r1 HG HE
      go_wp2
      go_roundw
      case rel => exact ⟨k + 1, by omega, by go_num, HG2⟩
      case measure => simp [intOf]; omega
    · obtain rfl : k = len := by omega
      go_wp2
      go_ret
      exact ⟨rfl, HG.out⟩

set_option maxHeartbeats 1000000 in
theorem szPair_any (ke va : ByteArray) (l : Int) (w : World) (hk : ke.size ≤ 9223372036854775807) (hv : va.size ≤ 9223372036854775807) (h0 : 0 ≤ l) (h1 : l ≤ 1048576) :
    Calls Try.prog 9 #[.agg #[.string ke, .string va], .int .i64 l] w fun e w' => ∃ r : Int, e = .returned (.int .i64 r) ∧ (0 ≤ r → r ≤ l ∧ (ke.size : Int) ≤ l ∧ (va.size : Int) ≤ l) ∧ -1 ≤ r ∧ r ≤ 1048576 ∧ Grw w w' := by
  by_cases hx0 : l - (ke.size : Int) < 0
  · go_enter Try.func9, Try.ntmps9
    go_wp2
    go_ret
    exact ⟨-1, rfl, fun h => absurd h (by omega), by omega, by omega, (Grw.refl _).alloc _⟩
  by_cases hx1 : l - (ke.size : Int) - (va.size : Int) < 0
  · go_enter Try.func9, Try.ntmps9
    go_wp2
    go_ret
    exact ⟨-1, rfl, fun h => absurd h (by omega), by omega, by omega, (Grw.refl _).alloc _⟩
  go_enter Try.func9, Try.ntmps9
  go_wp2
  go_ret
  exact ⟨_, rfl, fun _ => ⟨by omega, by omega, by omega⟩, by omega, by omega, (Grw.refl _).alloc _⟩
set_option maxHeartbeats 2000000 in
theorem szPairS_any (a : Option Addr) (len cap : Nat) (xs : List PairV) (l : Int) (w : World) (h : Rw PrR 2 w a xs) (hl : xs.length = len) (hlm : len ≤ 9223372036854775807) (h0 : 0 ≤ l) (h1 : l ≤ 1048576) :
    Calls Try.prog 4 #[.slice a len cap, .int .i64 l] w fun e w' => ∃ r : Int, e = .returned (.int .i64 r) ∧ (0 ≤ r → (len : Int) ≤ l ∧ r ≤ l ∧ ∀ x, x ∈ xs → (x.ke.size : Int) ≤ 1048576 ∧ (x.va.size : Int) ≤ 1048576) ∧ -1 ≤ r ∧ r ≤ 1048576 ∧ Grw w w' := by
  have RW : Hid (Rw PrR 2 w a xs) := h
  clear h
  by_cases hle : (len : Int) ≤ l
  rotate_left
  · go_enter Try.func4, Try.ntmps4
    go_wp2
    go_ret
    exact ⟨-1, rfl, fun h => absurd h (by omega), by omega, by omega, Grw.refl _⟩
  go_enter Try.func4, Try.ntmps4
  go_wp2
  go_loopw [1, 5] (fun p x wr => ∃ (k : Nat) (r : Int), k ≤ len ∧ x = .int .i64 k ∧ p = .int .i64 r ∧ 0 ≤ r ∧ r ≤ l ∧ Hid (∀ x, x ∈ xs.take k → (x.ke.size : Int) ≤ 1048576 ∧ (x.va.size : Int) ≤ 1048576) ∧ Hid (Grw w wr)) (fun _ x _ => len - (intOf x).toNat)
  case atStart => exact ⟨0, l - len, Nat.zero_le _, rfl, rfl, by omega, by omega, (fun x hx => by simp at hx), Grw.refl _⟩
  case round =>
    obtain ⟨k, r, hk, rfl, rfl, hr0, hr1, HR, HG⟩ := hrel
    by_cases hlt : k < len
    · obtain ⟨x, hx⟩ := at_of hl hlt
      obtain ⟨b, off, vs, rfl, hb, hvl, hR, hc⟩ := RW.out.at FR.kp HG.out.below hx
      have HS : Hid (xs.take (k + 1) = xs.take k ++ [x]) := takeS_next hx
      obtain ⟨ke, va⟩ := x
      obtain ⟨rfl, hok⟩ := hR
      have q0 : wr.cell? ⟨b, off + k * 2, none⟩ = some (.string ke) := hc 0 _ rfl
      have q1 : wr.cell? ⟨b, off + k * 2 + 1, none⟩ = some (.string va) := hc 1 _ rfl
      have HN : Hid (∀ w, Calls Try.prog 9 #[.agg #[.string ke, .string va], .int .i64 r] w fun e w' => ∃ r' : Int, e = .returned (.int .i64 r') ∧ (0 ≤ r' → r' ≤ r ∧ (ke.size : Int) ≤ r ∧ (va.size : Int) ≤ r) ∧ -1 ≤ r' ∧ r' ≤ 1048576 ∧ Grw w w') := fun w => by
        unfold PrRok maxLen at hok; dsimp only at hok
        exact szPair_any ke va r w (by omega) (by omega) hr0 (by omega)
      have hltz : (k : Int) < (len : Int) := by omega
      clear hc hvl hx hok
      go_wp2_with fail
      refine (HN.out _).mono ?_
      rintro e w1 ⟨r', rfl, hr', hr2, hr3, g1⟩
      have HG1 : Hid (Grw w w1) := HG.out.trans g1
      clear q0 q1 HN g1 HG
      by_cases hneg : r' < 0
      · go_wp2
        go_ret
        exact ⟨-1, rfl, fun h => absurd h (by omega), by omega, by omega, HG1.out⟩
      · have h2 := hr' (by omega)
        have HR' : Hid (∀ x, x ∈ xs.take (k + 1) → (x.ke.size : Int) ≤ 1048576 ∧ (x.va.size : Int) ≤ 1048576) := by
          intro x hx
          rw [HS.out] at hx
          rcases List.mem_append.1 hx with h | h
          · exact HR.out x h
          · simp at h
            subst h
            show (ke.size : Int) ≤ 1048576 ∧ (va.size : Int) ≤ 1048576
            omega
        have h3 : r' ≤ l := by omega
        clear HR HS hr' h2
        go_wp2
        go_roundw
        case rel => exact ⟨k + 1, r', by omega, by go_num, rfl, by omega, h3, HR', HG1⟩
        case measure => simp [intOf]; omega
    · obtain rfl : k = len := by omega
      have hfin : Hid (∀ x, x ∈ xs → (x.ke.size : Int) ≤ 1048576 ∧ (x.va.size : Int) ≤ 1048576) := by
        have e1 := HR.out
        rw [List.take_of_length_le (by omega)] at e1
        exact e1
      go_wp2
      go_ret
      exact ⟨r, rfl, fun _ => ⟨by omega, by omega, hfin.out⟩, by omega, by omega, HG.out⟩

end Go.Proofs.Ytbpdfkngkkopbaa
