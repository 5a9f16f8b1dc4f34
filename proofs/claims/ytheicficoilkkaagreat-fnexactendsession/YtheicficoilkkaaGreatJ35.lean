/- Lists of users, sessions, fails and records copied by the laws into rows of one's own. Append and slices.Clone of users, sessions, fails and records. -/
import Derived.Test.YtheicficoilkkaaGreatJ34
namespace Go.Proofs.YtheicficoilkkaaGreat
open Go.RowKit Go.PlainAid Go.Proofs.YtheicficoilkkaaGreat.Bt Go.Sort
set_option linter.unusedVariables false
set_option maxRecDepth 20000
theorem zUser : #[.string ⟨#[]⟩, .string ⟨#[]⟩, .string ⟨#[]⟩, .string ⟨#[]⟩, .int .i64 0, .int .i64 0].toList = uvG default := rfl
set_option maxHeartbeats 4000000 in
theorem toUserS_own (a : Option Addr) (len cap : Nat) (xs : List UserV) (w : World) (h : Rw UsR 6 w a xs) (hl : xs.length = len) (hc : len ≤ 1048576) :
    Calls Tryz.prog 45 #[.slice a len cap] w fun e w' => e = .returned (.slice (some ⟨w.heap.size, 0, none⟩) len len) ∧ OwnS uvG 6 111 w' w.heap.size (.slice (some ⟨w.heap.size, 0, none⟩) len len) xs ∧ (∀ x, x ∈ xs → UsRok x) ∧ Below w.heap.size w w' := by
  have RW : Hid (Rw UsR 6 w a xs) := h
  have HK : Hid (∀ x, x ∈ xs → UsRok x) := by
    intro x hx
    obtain ⟨i, hi⟩ := List.getElem?_of_mem hx
    obtain ⟨b, off, vs, _, _, _, h2, _⟩ := h.at UsR.kp (Below.refl _ _) hi
    exact h2.2
  clear h
  obtain ⟨i0, hi, hz0, hz1, hz2⟩ := info_parts infoUser
  have hmk := run_make (P := Tryz.prog) w 43 111 i0 (.agg #[.string ⟨#[]⟩, .string ⟨#[]⟩, .string ⟨#[]⟩, .string ⟨#[]⟩, .int .i64 0, .int .i64 0]) Tryz.underlying43 hi hz0 .i64 .i64 len len (by omega) (Int.le_refl _) (by rw [hz2]; omega) (by omega)
  rw [hz1, Int.toNat_natCast] at hmk
  have HM : Hid (OwnS uvG 6 111 (w.alloc (.cells (madeCells #[.string ⟨#[]⟩, .string ⟨#[]⟩, .string ⟨#[]⟩, .string ⟨#[]⟩, .int .i64 0, .int .i64 0] (len * 6)) 111)) w.heap.size (.slice (some ⟨w.heap.size, 0, none⟩) len len) (List.replicate len default) ∧ Below w.heap.size w (w.alloc (.cells (madeCells #[.string ⟨#[]⟩, .string ⟨#[]⟩, .string ⟨#[]⟩, .string ⟨#[]⟩, .int .i64 0, .int .i64 0] (len * 6)) 111))) := ⟨OwnS.made w _ _ len default _ zUser rfl (by omega) (Nat.le_refl _) (by unfold maxLen; omega), (Below.refl _ _).alloc (Nat.le_refl _) _⟩
  have hmk2 : (Instr.makeSlice 43 (.int .i64 (len : Int)) (.int .i64 (len : Int))).run Tryz.prog w = .ok (.slice (some ⟨w.heap.size, 0, none⟩) len len) (w.alloc (.cells (madeCells #[.string ⟨#[]⟩, .string ⟨#[]⟩, .string ⟨#[]⟩, .string ⟨#[]⟩, .int .i64 0, .int .i64 0] (len * 6)) 111)) := hmk
  clear hmk hi hz0 hz1 hz2
  obtain ⟨W, hW⟩ : ∃ W, W = (w.alloc (.cells (madeCells #[.string ⟨#[]⟩, .string ⟨#[]⟩, .string ⟨#[]⟩, .string ⟨#[]⟩, .int .i64 0, .int .i64 0] (len * 6)) 111)) := ⟨_, rfl⟩
  rw [← hW] at HM hmk2
  clear hW
  go_enter Tryz.func45, Tryz.ntmps45
  go_wp2
  go_loopw [4] (fun i wr => ∃ (k : Nat) (L : List UserV), k ≤ len ∧ i = .int .i64 k ∧ Hid (OwnS uvG 6 111 wr w.heap.size (.slice (some ⟨w.heap.size, 0, none⟩) len len) L ∧ L.length = len ∧ L.take k = xs.take k ∧ Below w.heap.size w wr)) (fun i _ => len - (intOf i).toNat)
  case atStart => exact ⟨0, _, Nat.zero_le _, rfl, HM.out.1, List.length_replicate .., rfl, HM.out.2⟩
  case round =>
    obtain ⟨k, L, hk, rfl, X⟩ := hrel
    by_cases hlt : k < len
    · obtain ⟨x, hx⟩ := at_of hl hlt
      obtain ⟨b, off, vs, rfl, hb, hvl, hR, hc⟩ := RW.out.at UsR.kp X.out.2.2.2 hx
      have TS : Hid ((L.set k x).take (k + 1) = xs.take (k + 1)) := takeS_set (by rw [X.out.2.1, hl]) hx X.out.2.2.1
      obtain ⟨nm, sa, ha, ro, bl, lg⟩ := x
      obtain ⟨rfl, hok⟩ := hR
      clear hok
      have q0 : wr.cell? ⟨b, off + k * 6, none⟩ = some (.string nm) := hc 0 _ rfl
      have q1 : wr.cell? ⟨b, off + k * 6 + 1, none⟩ = some (.string sa) := hc 1 _ rfl
      have q2 : wr.cell? ⟨b, off + k * 6 + 2, none⟩ = some (.string ha) := hc 2 _ rfl
      have q3 : wr.cell? ⟨b, off + k * 6 + 3, none⟩ = some (.string ro) := hc 3 _ rfl
      have q4 : wr.cell? ⟨b, off + k * 6 + 4, none⟩ = some (.int .i64 bl) := hc 4 _ rfl
      have q5 : wr.cell? ⟨b, off + k * 6 + 5, none⟩ = some (.int .i64 lg) := hc 5 _ rfl
      have HT : Hid (∀ w, Calls Tryz.prog 99 #[.agg #[.string nm, .string sa, .string ha, .string ro, .int .i64 bl, .int .i64 lg]] w fun e w' => e = .returned (.agg #[.string nm, .string sa, .string ha, .string ro, .int .i64 bl, .int .i64 lg]) ∧ Below w.heap.size w w') := fun w => toUser_any nm sa ha ro bl lg w
      have hltz : (k : Int) < (len : Int) := by omega
      clear hc
      go_wp2_with fail
      refine (HT.out _).mono ?_
      rintro e w1 ⟨rfl, b1⟩
      have o1 := X.out.1.now b1
      obtain ⟨y, hy⟩ := at_of (k := k) X.out.2.1 hlt
      obtain ⟨c0, z0⟩ := o1.cell uvG_len (j := 0) hy rfl
      obtain ⟨c1, z1⟩ := o1.cell uvG_len (j := 1) hy rfl
      obtain ⟨c2, z2⟩ := o1.cell uvG_len (j := 2) hy rfl
      obtain ⟨c3, z3⟩ := o1.cell uvG_len (j := 3) hy rfl
      obtain ⟨c4, z4⟩ := o1.cell uvG_len (j := 4) hy rfl
      obtain ⟨c5, z5⟩ := o1.cell uvG_len (j := 5) hy rfl
      replace c0 : w1.cell? ⟨w.heap.size, k * 6, none⟩ = some (.string y.nm) := c0
      replace z0 : w1.frozen? ⟨w.heap.size, k * 6, none⟩ = false := z0
      have Y0 : ∀ W1, W1 = ((((((w1.setCell ⟨w.heap.size, k * 6, none⟩ (.string nm)).setCell ⟨w.heap.size, k * 6 + 1, none⟩ (.string sa)).setCell ⟨w.heap.size, k * 6 + 2, none⟩ (.string ha)).setCell ⟨w.heap.size, k * 6 + 3, none⟩ (.string ro)).setCell ⟨w.heap.size, k * 6 + 4, none⟩ (.int .i64 bl)).setCell ⟨w.heap.size, k * 6 + 5, none⟩ (.int .i64 lg)) → OwnS uvG 6 111 W1 w.heap.size (.slice (some ⟨w.heap.size, 0, none⟩) len len) (L.set k ⟨nm, sa, ha, ro, bl, lg⟩) ∧ (L.set k ⟨nm, sa, ha, ro, bl, lg⟩).length = len ∧ (L.set k ⟨nm, sa, ha, ro, bl, lg⟩).take (k + 1) = xs.take (k + 1) ∧ Below w.heap.size w W1 := by
        intro W1 hW1
        have h2 := o1.store uvG_len hlt ⟨nm, sa, ha, ro, bl, lg⟩
        have e3 : W1 = wsets w1 w.heap.size (k * 6) (uvG ⟨nm, sa, ha, ro, bl, lg⟩) := hW1
        rw [← e3] at h2
        exact ⟨h2.1, by rw [List.length_set]; exact X.out.2.1, TS.out, (X.out.2.2.2.trans (b1.mono X.out.2.2.2.size)).trans (below_row h2.2 (Nat.le_refl _) (Nat.le_trans X.out.2.2.2.size b1.size))⟩
      have Y : Hid (OwnS uvG 6 111 ((((((w1.setCell ⟨w.heap.size, k * 6, none⟩ (.string nm)).setCell ⟨w.heap.size, k * 6 + 1, none⟩ (.string sa)).setCell ⟨w.heap.size, k * 6 + 2, none⟩ (.string ha)).setCell ⟨w.heap.size, k * 6 + 3, none⟩ (.string ro)).setCell ⟨w.heap.size, k * 6 + 4, none⟩ (.int .i64 bl)).setCell ⟨w.heap.size, k * 6 + 5, none⟩ (.int .i64 lg)) w.heap.size (.slice (some ⟨w.heap.size, 0, none⟩) len len) (L.set k ⟨nm, sa, ha, ro, bl, lg⟩) ∧ (L.set k ⟨nm, sa, ha, ro, bl, lg⟩).length = len ∧ (L.set k ⟨nm, sa, ha, ro, bl, lg⟩).take (k + 1) = xs.take (k + 1) ∧ Below w.heap.size w ((((((w1.setCell ⟨w.heap.size, k * 6, none⟩ (.string nm)).setCell ⟨w.heap.size, k * 6 + 1, none⟩ (.string sa)).setCell ⟨w.heap.size, k * 6 + 2, none⟩ (.string ha)).setCell ⟨w.heap.size, k * 6 + 3, none⟩ (.string ro)).setCell ⟨w.heap.size, k * 6 + 4, none⟩ (.int .i64 bl)).setCell ⟨w.heap.size, k * 6 + 5, none⟩ (.int .i64 lg))) := Y0 _ rfl
      clear Y0
      clear o1 b1 q0 q1 q2 q3 q4 q5 HT X HM hmk2 hx hy TS
      go_wp2
      go_roundw
      case rel => exact ⟨k + 1, _, by omega, by go_num, Y⟩
      case measure => simp [intOf]; omega
    · obtain rfl : k = len := by omega
      have e1 : L = xs := by
        have := X.out.2.2.1
        rw [List.take_of_length_le (by rw [X.out.2.1]; exact Nat.le_refl _), List.take_of_length_le (by omega)] at this
        exact this
      subst e1
      go_wp2
      go_ret
      exact ⟨rfl, X.out.1, HK.out, X.out.2.2.2⟩
theorem zSession : #[.int .i64 0, .int .i64 0, .string ⟨#[]⟩, .int .i64 0, .int .i64 0, .int .i64 0, .int .i64 0, .int .i64 0, .int .i64 0, .int .i64 0].toList = svG default := rfl
set_option maxHeartbeats 4000000 in
theorem toSessionS_own (a : Option Addr) (len cap : Nat) (xs : List SessV) (w : World) (h : Rw SeR 10 w a xs) (hl : xs.length = len) (hc : len ≤ 1048576) :
    Calls Tryz.prog 46 #[.slice a len cap] w fun e w' => e = .returned (.slice (some ⟨w.heap.size, 0, none⟩) len len) ∧ OwnS svG 10 76 w' w.heap.size (.slice (some ⟨w.heap.size, 0, none⟩) len len) xs ∧ (∀ x, x ∈ xs → SeRok x) ∧ Below w.heap.size w w' := by
  have RW : Hid (Rw SeR 10 w a xs) := h
  have HK : Hid (∀ x, x ∈ xs → SeRok x) := by
    intro x hx
    obtain ⟨i, hi⟩ := List.getElem?_of_mem hx
    obtain ⟨b, off, vs, _, _, _, h2, _⟩ := h.at SeR.kp (Below.refl _ _) hi
    exact h2.2
  clear h
  obtain ⟨i0, hi, hz0, hz1, hz2⟩ := info_parts infoSession
  have hmk := run_make (P := Tryz.prog) w 44 76 i0 (.agg #[.int .i64 0, .int .i64 0, .string ⟨#[]⟩, .int .i64 0, .int .i64 0, .int .i64 0, .int .i64 0, .int .i64 0, .int .i64 0, .int .i64 0]) Tryz.underlying44 hi hz0 .i64 .i64 len len (by omega) (Int.le_refl _) (by rw [hz2]; omega) (by omega)
  rw [hz1, Int.toNat_natCast] at hmk
  have HM : Hid (OwnS svG 10 76 (w.alloc (.cells (madeCells #[.int .i64 0, .int .i64 0, .string ⟨#[]⟩, .int .i64 0, .int .i64 0, .int .i64 0, .int .i64 0, .int .i64 0, .int .i64 0, .int .i64 0] (len * 10)) 76)) w.heap.size (.slice (some ⟨w.heap.size, 0, none⟩) len len) (List.replicate len default) ∧ Below w.heap.size w (w.alloc (.cells (madeCells #[.int .i64 0, .int .i64 0, .string ⟨#[]⟩, .int .i64 0, .int .i64 0, .int .i64 0, .int .i64 0, .int .i64 0, .int .i64 0, .int .i64 0] (len * 10)) 76))) := ⟨OwnS.made w _ _ len default _ zSession rfl (by omega) (Nat.le_refl _) (by unfold maxLen; omega), (Below.refl _ _).alloc (Nat.le_refl _) _⟩
  have hmk2 : (Instr.makeSlice 44 (.int .i64 (len : Int)) (.int .i64 (len : Int))).run Tryz.prog w = .ok (.slice (some ⟨w.heap.size, 0, none⟩) len len) (w.alloc (.cells (madeCells #[.int .i64 0, .int .i64 0, .string ⟨#[]⟩, .int .i64 0, .int .i64 0, .int .i64 0, .int .i64 0, .int .i64 0, .int .i64 0, .int .i64 0] (len * 10)) 76)) := hmk
  clear hmk hi hz0 hz1 hz2
  obtain ⟨W, hW⟩ : ∃ W, W = (w.alloc (.cells (madeCells #[.int .i64 0, .int .i64 0, .string ⟨#[]⟩, .int .i64 0, .int .i64 0, .int .i64 0, .int .i64 0, .int .i64 0, .int .i64 0, .int .i64 0] (len * 10)) 76)) := ⟨_, rfl⟩
  rw [← hW] at HM hmk2
  clear hW
  go_enter Tryz.func46, Tryz.ntmps46
  go_wp2
  go_loopw [4] (fun i wr => ∃ (k : Nat) (L : List SessV), k ≤ len ∧ i = .int .i64 k ∧ Hid (OwnS svG 10 76 wr w.heap.size (.slice (some ⟨w.heap.size, 0, none⟩) len len) L ∧ L.length = len ∧ L.take k = xs.take k ∧ Below w.heap.size w wr)) (fun i _ => len - (intOf i).toNat)
  case atStart => exact ⟨0, _, Nat.zero_le _, rfl, HM.out.1, List.length_replicate .., rfl, HM.out.2⟩
  case round =>
    obtain ⟨k, L, hk, rfl, X⟩ := hrel
    by_cases hlt : k < len
    · obtain ⟨x, hx⟩ := at_of hl hlt
      obtain ⟨b, off, vs, rfl, hb, hvl, hR, hc⟩ := RW.out.at SeR.kp X.out.2.2.2 hx
      have TS : Hid ((L.set k x).take (k + 1) = xs.take (k + 1)) := takeS_set (by rw [X.out.2.1, hl]) hx X.out.2.2.1
      obtain ⟨id, us, mc, ip, be, la, ud, qu, un, il⟩ := x
      obtain ⟨rfl, hok⟩ := hR
      clear hok
      have q0 : wr.cell? ⟨b, off + k * 10, none⟩ = some (.int .i64 id) := hc 0 _ rfl
      have q1 : wr.cell? ⟨b, off + k * 10 + 1, none⟩ = some (.int .i64 us) := hc 1 _ rfl
      have q2 : wr.cell? ⟨b, off + k * 10 + 2, none⟩ = some (.string mc) := hc 2 _ rfl
      have q3 : wr.cell? ⟨b, off + k * 10 + 3, none⟩ = some (.int .i64 ip) := hc 3 _ rfl
      have q4 : wr.cell? ⟨b, off + k * 10 + 4, none⟩ = some (.int .i64 be) := hc 4 _ rfl
      have q5 : wr.cell? ⟨b, off + k * 10 + 5, none⟩ = some (.int .i64 la) := hc 5 _ rfl
      have q6 : wr.cell? ⟨b, off + k * 10 + 6, none⟩ = some (.int .i64 ud) := hc 6 _ rfl
      have q7 : wr.cell? ⟨b, off + k * 10 + 7, none⟩ = some (.int .i64 qu) := hc 7 _ rfl
      have q8 : wr.cell? ⟨b, off + k * 10 + 8, none⟩ = some (.int .i64 un) := hc 8 _ rfl
      have q9 : wr.cell? ⟨b, off + k * 10 + 9, none⟩ = some (.int .i64 il) := hc 9 _ rfl
      have HT : Hid (∀ w, Calls Tryz.prog 100 #[.agg #[.int .i64 id, .int .i64 us, .string mc, .int .i64 ip, .int .i64 be, .int .i64 la, .int .i64 ud, .int .i64 qu, .int .i64 un, .int .i64 il]] w fun e w' => e = .returned (.agg #[.int .i64 id, .int .i64 us, .string mc, .int .i64 ip, .int .i64 be, .int .i64 la, .int .i64 ud, .int .i64 qu, .int .i64 un, .int .i64 il]) ∧ Below w.heap.size w w') := fun w => toSession_any id us mc ip be la ud qu un il w
      have hltz : (k : Int) < (len : Int) := by omega
      clear hc
      go_wp2_with fail
      refine (HT.out _).mono ?_
      rintro e w1 ⟨rfl, b1⟩
      have o1 := X.out.1.now b1
      obtain ⟨y, hy⟩ := at_of (k := k) X.out.2.1 hlt
      obtain ⟨c0, z0⟩ := o1.cell svG_len (j := 0) hy rfl
      obtain ⟨c1, z1⟩ := o1.cell svG_len (j := 1) hy rfl
      obtain ⟨c2, z2⟩ := o1.cell svG_len (j := 2) hy rfl
      obtain ⟨c3, z3⟩ := o1.cell svG_len (j := 3) hy rfl
      obtain ⟨c4, z4⟩ := o1.cell svG_len (j := 4) hy rfl
      obtain ⟨c5, z5⟩ := o1.cell svG_len (j := 5) hy rfl
      obtain ⟨c6, z6⟩ := o1.cell svG_len (j := 6) hy rfl
      obtain ⟨c7, z7⟩ := o1.cell svG_len (j := 7) hy rfl
      obtain ⟨c8, z8⟩ := o1.cell svG_len (j := 8) hy rfl
      obtain ⟨c9, z9⟩ := o1.cell svG_len (j := 9) hy rfl
      replace c0 : w1.cell? ⟨w.heap.size, k * 10, none⟩ = some (.int .i64 y.id) := c0
      replace z0 : w1.frozen? ⟨w.heap.size, k * 10, none⟩ = false := z0
      have Y0 : ∀ W1, W1 = ((((((((((w1.setCell ⟨w.heap.size, k * 10, none⟩ (.int .i64 id)).setCell ⟨w.heap.size, k * 10 + 1, none⟩ (.int .i64 us)).setCell ⟨w.heap.size, k * 10 + 2, none⟩ (.string mc)).setCell ⟨w.heap.size, k * 10 + 3, none⟩ (.int .i64 ip)).setCell ⟨w.heap.size, k * 10 + 4, none⟩ (.int .i64 be)).setCell ⟨w.heap.size, k * 10 + 5, none⟩ (.int .i64 la)).setCell ⟨w.heap.size, k * 10 + 6, none⟩ (.int .i64 ud)).setCell ⟨w.heap.size, k * 10 + 7, none⟩ (.int .i64 qu)).setCell ⟨w.heap.size, k * 10 + 8, none⟩ (.int .i64 un)).setCell ⟨w.heap.size, k * 10 + 9, none⟩ (.int .i64 il)) → OwnS svG 10 76 W1 w.heap.size (.slice (some ⟨w.heap.size, 0, none⟩) len len) (L.set k ⟨id, us, mc, ip, be, la, ud, qu, un, il⟩) ∧ (L.set k ⟨id, us, mc, ip, be, la, ud, qu, un, il⟩).length = len ∧ (L.set k ⟨id, us, mc, ip, be, la, ud, qu, un, il⟩).take (k + 1) = xs.take (k + 1) ∧ Below w.heap.size w W1 := by
        intro W1 hW1
        have h2 := o1.store svG_len hlt ⟨id, us, mc, ip, be, la, ud, qu, un, il⟩
        have e3 : W1 = wsets w1 w.heap.size (k * 10) (svG ⟨id, us, mc, ip, be, la, ud, qu, un, il⟩) := hW1
        rw [← e3] at h2
        exact ⟨h2.1, by rw [List.length_set]; exact X.out.2.1, TS.out, (X.out.2.2.2.trans (b1.mono X.out.2.2.2.size)).trans (below_row h2.2 (Nat.le_refl _) (Nat.le_trans X.out.2.2.2.size b1.size))⟩
      have Y : Hid (OwnS svG 10 76 ((((((((((w1.setCell ⟨w.heap.size, k * 10, none⟩ (.int .i64 id)).setCell ⟨w.heap.size, k * 10 + 1, none⟩ (.int .i64 us)).setCell ⟨w.heap.size, k * 10 + 2, none⟩ (.string mc)).setCell ⟨w.heap.size, k * 10 + 3, none⟩ (.int .i64 ip)).setCell ⟨w.heap.size, k * 10 + 4, none⟩ (.int .i64 be)).setCell ⟨w.heap.size, k * 10 + 5, none⟩ (.int .i64 la)).setCell ⟨w.heap.size, k * 10 + 6, none⟩ (.int .i64 ud)).setCell ⟨w.heap.size, k * 10 + 7, none⟩ (.int .i64 qu)).setCell ⟨w.heap.size, k * 10 + 8, none⟩ (.int .i64 un)).setCell ⟨w.heap.size, k * 10 + 9, none⟩ (.int .i64 il)) w.heap.size (.slice (some ⟨w.heap.size, 0, none⟩) len len) (L.set k ⟨id, us, mc, ip, be, la, ud, qu, un, il⟩) ∧ (L.set k ⟨id, us, mc, ip, be, la, ud, qu, un, il⟩).length = len ∧ (L.set k ⟨id, us, mc, ip, be, la, ud, qu, un, il⟩).take (k + 1) = xs.take (k + 1) ∧ Below w.heap.size w ((((((((((w1.setCell ⟨w.heap.size, k * 10, none⟩ (.int .i64 id)).setCell ⟨w.heap.size, k * 10 + 1, none⟩ (.int .i64 us)).setCell ⟨w.heap.size, k * 10 + 2, none⟩ (.string mc)).setCell ⟨w.heap.size, k * 10 + 3, none⟩ (.int .i64 ip)).setCell ⟨w.heap.size, k * 10 + 4, none⟩ (.int .i64 be)).setCell ⟨w.heap.size, k * 10 + 5, none⟩ (.int .i64 la)).setCell ⟨w.heap.size, k * 10 + 6, none⟩ (.int .i64 ud)).setCell ⟨w.heap.size, k * 10 + 7, none⟩ (.int .i64 qu)).setCell ⟨w.heap.size, k * 10 + 8, none⟩ (.int .i64 un)).setCell ⟨w.heap.size, k * 10 + 9, none⟩ (.int .i64 il))) := Y0 _ rfl
      clear Y0
      clear o1 b1 q0 q1 q2 q3 q4 q5 q6 q7 q8 q9 HT X HM hmk2 hx hy TS
      go_wp2
      go_roundw
      case rel => exact ⟨k + 1, _, by omega, by go_num, Y⟩
      case measure => simp [intOf]; omega
    · obtain rfl : k = len := by omega
      have e1 : L = xs := by
        have := X.out.2.2.1
        rw [List.take_of_length_le (by rw [X.out.2.1]; exact Nat.le_refl _), List.take_of_length_le (by omega)] at this
        exact this
      subst e1
      go_wp2
      go_ret
      exact ⟨rfl, X.out.1, HK.out, X.out.2.2.2⟩
theorem zFail : #[.string ⟨#[]⟩, .int .i64 0, .int .i64 0].toList = fvG default := rfl
set_option maxHeartbeats 4000000 in
theorem toFailS_own (a : Option Addr) (len cap : Nat) (xs : List FailV) (w : World) (h : Rw FaR 3 w a xs) (hl : xs.length = len) (hc : len ≤ 1048576) :
    Calls Tryz.prog 47 #[.slice a len cap] w fun e w' => e = .returned (.slice (some ⟨w.heap.size, 0, none⟩) len len) ∧ OwnS fvG 3 81 w' w.heap.size (.slice (some ⟨w.heap.size, 0, none⟩) len len) xs ∧ (∀ x, x ∈ xs → FaRok x) ∧ Below w.heap.size w w' := by
  have RW : Hid (Rw FaR 3 w a xs) := h
  have HK : Hid (∀ x, x ∈ xs → FaRok x) := by
    intro x hx
    obtain ⟨i, hi⟩ := List.getElem?_of_mem hx
    obtain ⟨b, off, vs, _, _, _, h2, _⟩ := h.at FaR.kp (Below.refl _ _) hi
    exact h2.2
  clear h
  obtain ⟨i0, hi, hz0, hz1, hz2⟩ := info_parts infoFail
  have hmk := run_make (P := Tryz.prog) w 45 81 i0 (.agg #[.string ⟨#[]⟩, .int .i64 0, .int .i64 0]) Tryz.underlying45 hi hz0 .i64 .i64 len len (by omega) (Int.le_refl _) (by rw [hz2]; omega) (by omega)
  rw [hz1, Int.toNat_natCast] at hmk
  have HM : Hid (OwnS fvG 3 81 (w.alloc (.cells (madeCells #[.string ⟨#[]⟩, .int .i64 0, .int .i64 0] (len * 3)) 81)) w.heap.size (.slice (some ⟨w.heap.size, 0, none⟩) len len) (List.replicate len default) ∧ Below w.heap.size w (w.alloc (.cells (madeCells #[.string ⟨#[]⟩, .int .i64 0, .int .i64 0] (len * 3)) 81))) := ⟨OwnS.made w _ _ len default _ zFail rfl (by omega) (Nat.le_refl _) (by unfold maxLen; omega), (Below.refl _ _).alloc (Nat.le_refl _) _⟩
  have hmk2 : (Instr.makeSlice 45 (.int .i64 (len : Int)) (.int .i64 (len : Int))).run Tryz.prog w = .ok (.slice (some ⟨w.heap.size, 0, none⟩) len len) (w.alloc (.cells (madeCells #[.string ⟨#[]⟩, .int .i64 0, .int .i64 0] (len * 3)) 81)) := hmk
  clear hmk hi hz0 hz1 hz2
  obtain ⟨W, hW⟩ : ∃ W, W = (w.alloc (.cells (madeCells #[.string ⟨#[]⟩, .int .i64 0, .int .i64 0] (len * 3)) 81)) := ⟨_, rfl⟩
  rw [← hW] at HM hmk2
  clear hW
  go_enter Tryz.func47, Tryz.ntmps47
  go_wp2
  go_loopw [4] (fun i wr => ∃ (k : Nat) (L : List FailV), k ≤ len ∧ i = .int .i64 k ∧ Hid (OwnS fvG 3 81 wr w.heap.size (.slice (some ⟨w.heap.size, 0, none⟩) len len) L ∧ L.length = len ∧ L.take k = xs.take k ∧ Below w.heap.size w wr)) (fun i _ => len - (intOf i).toNat)
  case atStart => exact ⟨0, _, Nat.zero_le _, rfl, HM.out.1, List.length_replicate .., rfl, HM.out.2⟩
  case round =>
    obtain ⟨k, L, hk, rfl, X⟩ := hrel
    by_cases hlt : k < len
    · obtain ⟨x, hx⟩ := at_of hl hlt
      obtain ⟨b, off, vs, rfl, hb, hvl, hR, hc⟩ := RW.out.at FaR.kp X.out.2.2.2 hx
      have TS : Hid ((L.set k x).take (k + 1) = xs.take (k + 1)) := takeS_set (by rw [X.out.2.1, hl]) hx X.out.2.2.1
      obtain ⟨mc, ct, un⟩ := x
      obtain ⟨rfl, hok⟩ := hR
      clear hok
      have q0 : wr.cell? ⟨b, off + k * 3, none⟩ = some (.string mc) := hc 0 _ rfl
      have q1 : wr.cell? ⟨b, off + k * 3 + 1, none⟩ = some (.int .i64 ct) := hc 1 _ rfl
      have q2 : wr.cell? ⟨b, off + k * 3 + 2, none⟩ = some (.int .i64 un) := hc 2 _ rfl
      have HT : Hid (∀ w, Calls Tryz.prog 101 #[.agg #[.string mc, .int .i64 ct, .int .i64 un]] w fun e w' => e = .returned (.agg #[.string mc, .int .i64 ct, .int .i64 un]) ∧ Below w.heap.size w w') := fun w => toFail_any mc ct un w
      have hltz : (k : Int) < (len : Int) := by omega
      clear hc
      go_wp2_with fail
      refine (HT.out _).mono ?_
      rintro e w1 ⟨rfl, b1⟩
      have o1 := X.out.1.now b1
      obtain ⟨y, hy⟩ := at_of (k := k) X.out.2.1 hlt
      obtain ⟨c0, z0⟩ := o1.cell fvG_len (j := 0) hy rfl
      obtain ⟨c1, z1⟩ := o1.cell fvG_len (j := 1) hy rfl
      obtain ⟨c2, z2⟩ := o1.cell fvG_len (j := 2) hy rfl
      replace c0 : w1.cell? ⟨w.heap.size, k * 3, none⟩ = some (.string y.mc) := c0
      replace z0 : w1.frozen? ⟨w.heap.size, k * 3, none⟩ = false := z0
      have Y0 : ∀ W1, W1 = (((w1.setCell ⟨w.heap.size, k * 3, none⟩ (.string mc)).setCell ⟨w.heap.size, k * 3 + 1, none⟩ (.int .i64 ct)).setCell ⟨w.heap.size, k * 3 + 2, none⟩ (.int .i64 un)) → OwnS fvG 3 81 W1 w.heap.size (.slice (some ⟨w.heap.size, 0, none⟩) len len) (L.set k ⟨mc, ct, un⟩) ∧ (L.set k ⟨mc, ct, un⟩).length = len ∧ (L.set k ⟨mc, ct, un⟩).take (k + 1) = xs.take (k + 1) ∧ Below w.heap.size w W1 := by
        intro W1 hW1
        have h2 := o1.store fvG_len hlt ⟨mc, ct, un⟩
        have e3 : W1 = wsets w1 w.heap.size (k * 3) (fvG ⟨mc, ct, un⟩) := hW1
        rw [← e3] at h2
        exact ⟨h2.1, by rw [List.length_set]; exact X.out.2.1, TS.out, (X.out.2.2.2.trans (b1.mono X.out.2.2.2.size)).trans (below_row h2.2 (Nat.le_refl _) (Nat.le_trans X.out.2.2.2.size b1.size))⟩
      have Y : Hid (OwnS fvG 3 81 (((w1.setCell ⟨w.heap.size, k * 3, none⟩ (.string mc)).setCell ⟨w.heap.size, k * 3 + 1, none⟩ (.int .i64 ct)).setCell ⟨w.heap.size, k * 3 + 2, none⟩ (.int .i64 un)) w.heap.size (.slice (some ⟨w.heap.size, 0, none⟩) len len) (L.set k ⟨mc, ct, un⟩) ∧ (L.set k ⟨mc, ct, un⟩).length = len ∧ (L.set k ⟨mc, ct, un⟩).take (k + 1) = xs.take (k + 1) ∧ Below w.heap.size w (((w1.setCell ⟨w.heap.size, k * 3, none⟩ (.string mc)).setCell ⟨w.heap.size, k * 3 + 1, none⟩ (.int .i64 ct)).setCell ⟨w.heap.size, k * 3 + 2, none⟩ (.int .i64 un))) := Y0 _ rfl
      clear Y0
      clear o1 b1 q0 q1 q2 HT X HM hmk2 hx hy TS
      go_wp2
      go_roundw
      case rel => exact ⟨k + 1, _, by omega, by go_num, Y⟩
      case measure => simp [intOf]; omega
    · obtain rfl : k = len := by omega
      have e1 : L = xs := by
        have := X.out.2.2.1
        rw [List.take_of_length_le (by rw [X.out.2.1]; exact Nat.le_refl _), List.take_of_length_le (by omega)] at this
        exact this
      subst e1
      go_wp2
      go_ret
      exact ⟨rfl, X.out.1, HK.out, X.out.2.2.2⟩
theorem zRecord : #[.int .i64 0, .int .i64 0, .int .i64 0, .int .i64 0, .bool false].toList = evG default := rfl
set_option maxHeartbeats 4000000 in
theorem toRecordS_own (a : Option Addr) (len cap : Nat) (xs : List RecV) (w : World) (h : Rw ReR 5 w a xs) (hl : xs.length = len) (hc : len ≤ 1048576) :
    Calls Tryz.prog 48 #[.slice a len cap] w fun e w' => e = .returned (.slice (some ⟨w.heap.size, 0, none⟩) len len) ∧ OwnS evG 5 83 w' w.heap.size (.slice (some ⟨w.heap.size, 0, none⟩) len len) xs ∧ (∀ x, x ∈ xs → ReRok x) ∧ Below w.heap.size w w' := by
  have RW : Hid (Rw ReR 5 w a xs) := h
  have HK : Hid (∀ x, x ∈ xs → ReRok x) := by
    intro x hx
    obtain ⟨i, hi⟩ := List.getElem?_of_mem hx
    obtain ⟨b, off, vs, _, _, _, h2, _⟩ := h.at ReR.kp (Below.refl _ _) hi
    exact h2.2
  clear h
  obtain ⟨i0, hi, hz0, hz1, hz2⟩ := info_parts infoRecord
  have hmk := run_make (P := Tryz.prog) w 46 83 i0 (.agg #[.int .i64 0, .int .i64 0, .int .i64 0, .int .i64 0, .bool false]) Tryz.underlying46 hi hz0 .i64 .i64 len len (by omega) (Int.le_refl _) (by rw [hz2]; omega) (by omega)
  rw [hz1, Int.toNat_natCast] at hmk
  have HM : Hid (OwnS evG 5 83 (w.alloc (.cells (madeCells #[.int .i64 0, .int .i64 0, .int .i64 0, .int .i64 0, .bool false] (len * 5)) 83)) w.heap.size (.slice (some ⟨w.heap.size, 0, none⟩) len len) (List.replicate len default) ∧ Below w.heap.size w (w.alloc (.cells (madeCells #[.int .i64 0, .int .i64 0, .int .i64 0, .int .i64 0, .bool false] (len * 5)) 83))) := ⟨OwnS.made w _ _ len default _ zRecord rfl (by omega) (Nat.le_refl _) (by unfold maxLen; omega), (Below.refl _ _).alloc (Nat.le_refl _) _⟩
  have hmk2 : (Instr.makeSlice 46 (.int .i64 (len : Int)) (.int .i64 (len : Int))).run Tryz.prog w = .ok (.slice (some ⟨w.heap.size, 0, none⟩) len len) (w.alloc (.cells (madeCells #[.int .i64 0, .int .i64 0, .int .i64 0, .int .i64 0, .bool false] (len * 5)) 83)) := hmk
  clear hmk hi hz0 hz1 hz2
  obtain ⟨W, hW⟩ : ∃ W, W = (w.alloc (.cells (madeCells #[.int .i64 0, .int .i64 0, .int .i64 0, .int .i64 0, .bool false] (len * 5)) 83)) := ⟨_, rfl⟩
  rw [← hW] at HM hmk2
  clear hW
  go_enter Tryz.func48, Tryz.ntmps48
  go_wp2
  go_loopw [4] (fun i wr => ∃ (k : Nat) (L : List RecV), k ≤ len ∧ i = .int .i64 k ∧ Hid (OwnS evG 5 83 wr w.heap.size (.slice (some ⟨w.heap.size, 0, none⟩) len len) L ∧ L.length = len ∧ L.take k = xs.take k ∧ Below w.heap.size w wr)) (fun i _ => len - (intOf i).toNat)
  case atStart => exact ⟨0, _, Nat.zero_le _, rfl, HM.out.1, List.length_replicate .., rfl, HM.out.2⟩
  case round =>
    obtain ⟨k, L, hk, rfl, X⟩ := hrel
    by_cases hlt : k < len
    · obtain ⟨x, hx⟩ := at_of hl hlt
      obtain ⟨b, off, vs, rfl, hb, hvl, hR, hc⟩ := RW.out.at ReR.kp X.out.2.2.2 hx
      have TS : Hid ((L.set k x).take (k + 1) = xs.take (k + 1)) := takeS_set (by rw [X.out.2.1, hl]) hx X.out.2.2.1
      obtain ⟨id, tm, ca, bt, st⟩ := x
      obtain ⟨rfl, hok⟩ := hR
      clear hok
      have q0 : wr.cell? ⟨b, off + k * 5, none⟩ = some (.int .i64 id) := hc 0 _ rfl
      have q1 : wr.cell? ⟨b, off + k * 5 + 1, none⟩ = some (.int .i64 tm) := hc 1 _ rfl
      have q2 : wr.cell? ⟨b, off + k * 5 + 2, none⟩ = some (.int .i64 ca) := hc 2 _ rfl
      have q3 : wr.cell? ⟨b, off + k * 5 + 3, none⟩ = some (.int .i64 bt) := hc 3 _ rfl
      have q4 : wr.cell? ⟨b, off + k * 5 + 4, none⟩ = some (.bool st) := hc 4 _ rfl
      have HT : Hid (∀ w, Calls Tryz.prog 102 #[.agg #[.int .i64 id, .int .i64 tm, .int .i64 ca, .int .i64 bt, .bool st]] w fun e w' => e = .returned (.agg #[.int .i64 id, .int .i64 tm, .int .i64 ca, .int .i64 bt, .bool st]) ∧ Below w.heap.size w w') := fun w => toRecord_any id tm ca bt st w
      have hltz : (k : Int) < (len : Int) := by omega
      clear hc
      go_wp2_with fail
      refine (HT.out _).mono ?_
      rintro e w1 ⟨rfl, b1⟩
      have o1 := X.out.1.now b1
      obtain ⟨y, hy⟩ := at_of (k := k) X.out.2.1 hlt
      obtain ⟨c0, z0⟩ := o1.cell evG_len (j := 0) hy rfl
      obtain ⟨c1, z1⟩ := o1.cell evG_len (j := 1) hy rfl
      obtain ⟨c2, z2⟩ := o1.cell evG_len (j := 2) hy rfl
      obtain ⟨c3, z3⟩ := o1.cell evG_len (j := 3) hy rfl
      obtain ⟨c4, z4⟩ := o1.cell evG_len (j := 4) hy rfl
      replace c0 : w1.cell? ⟨w.heap.size, k * 5, none⟩ = some (.int .i64 y.id) := c0
      replace z0 : w1.frozen? ⟨w.heap.size, k * 5, none⟩ = false := z0
      have Y0 : ∀ W1, W1 = (((((w1.setCell ⟨w.heap.size, k * 5, none⟩ (.int .i64 id)).setCell ⟨w.heap.size, k * 5 + 1, none⟩ (.int .i64 tm)).setCell ⟨w.heap.size, k * 5 + 2, none⟩ (.int .i64 ca)).setCell ⟨w.heap.size, k * 5 + 3, none⟩ (.int .i64 bt)).setCell ⟨w.heap.size, k * 5 + 4, none⟩ (.bool st)) → OwnS evG 5 83 W1 w.heap.size (.slice (some ⟨w.heap.size, 0, none⟩) len len) (L.set k ⟨id, tm, ca, bt, st⟩) ∧ (L.set k ⟨id, tm, ca, bt, st⟩).length = len ∧ (L.set k ⟨id, tm, ca, bt, st⟩).take (k + 1) = xs.take (k + 1) ∧ Below w.heap.size w W1 := by
        intro W1 hW1
        have h2 := o1.store evG_len hlt ⟨id, tm, ca, bt, st⟩
        have e3 : W1 = wsets w1 w.heap.size (k * 5) (evG ⟨id, tm, ca, bt, st⟩) := hW1
        rw [← e3] at h2
        exact ⟨h2.1, by rw [List.length_set]; exact X.out.2.1, TS.out, (X.out.2.2.2.trans (b1.mono X.out.2.2.2.size)).trans (below_row h2.2 (Nat.le_refl _) (Nat.le_trans X.out.2.2.2.size b1.size))⟩
      have Y : Hid (OwnS evG 5 83 (((((w1.setCell ⟨w.heap.size, k * 5, none⟩ (.int .i64 id)).setCell ⟨w.heap.size, k * 5 + 1, none⟩ (.int .i64 tm)).setCell ⟨w.heap.size, k * 5 + 2, none⟩ (.int .i64 ca)).setCell ⟨w.heap.size, k * 5 + 3, none⟩ (.int .i64 bt)).setCell ⟨w.heap.size, k * 5 + 4, none⟩ (.bool st)) w.heap.size (.slice (some ⟨w.heap.size, 0, none⟩) len len) (L.set k ⟨id, tm, ca, bt, st⟩) ∧ (L.set k ⟨id, tm, ca, bt, st⟩).length = len ∧ (L.set k ⟨id, tm, ca, bt, st⟩).take (k + 1) = xs.take (k + 1) ∧ Below w.heap.size w (((((w1.setCell ⟨w.heap.size, k * 5, none⟩ (.int .i64 id)).setCell ⟨w.heap.size, k * 5 + 1, none⟩ (.int .i64 tm)).setCell ⟨w.heap.size, k * 5 + 2, none⟩ (.int .i64 ca)).setCell ⟨w.heap.size, k * 5 + 3, none⟩ (.int .i64 bt)).setCell ⟨w.heap.size, k * 5 + 4, none⟩ (.bool st))) := Y0 _ rfl
      clear Y0
      clear o1 b1 q0 q1 q2 q3 q4 HT X HM hmk2 hx hy TS
      go_wp2
      go_roundw
      case rel => exact ⟨k + 1, _, by omega, by go_num, Y⟩
      case measure => simp [intOf]; omega
    · obtain rfl : k = len := by omega
      have e1 : L = xs := by
        have := X.out.2.2.1
        rw [List.take_of_length_le (by rw [X.out.2.1]; exact Nat.le_refl _), List.take_of_length_le (by omega)] at this
        exact this
      subst e1
      go_wp2
      go_ret
      exact ⟨rfl, X.out.1, HK.out, X.out.2.2.2⟩
end Go.Proofs.YtheicficoilkkaaGreat

namespace Go.Proofs.YtheicficoilkkaaGreat
open Go.RowKit Go.PlainAid Go.Proofs.YtheicficoilkkaaGreat.Bt Go.Sort
set_option linter.unusedVariables false
set_option maxRecDepth 20000
theorem oneUser (ys : List UserV) : ∀ u ∈ flatS uvG ys, u.oneCell' = true := by
  intro u hu
  unfold flatS at hu
  rw [List.mem_flatMap] at hu
  obtain ⟨f, _, hf⟩ := hu
  simp [uvG] at hf
  rcases hf with rfl | rfl | rfl | rfl | rfl | rfl <;> rfl
/-- 'append(row, ys...)'. -/
theorem wpl_User (w : World) {ops : Array Oper} {rest : List Oper} {o : Oper} {a : Act} {Q : Exit → Act → World → Prop} (hgd : o.guard = none) (s x : Operand)
    (ho : o.op = .call { callee := .builtin .append, args := #[s, x], argTypes := #[43, 43] })
    (B : Nat) (v : Value) (L ys : List UserV) (hs : a.eval s = v) (hown : OwnS uvG 6 111 w B v L)
    (g off m c : Nat) (hm : ys.length = m) (hx : a.eval x = .slice (some ⟨g, off, none⟩) m c) (hc : ∀ j u, (flatS uvG ys)[j]? = some u → w.cell? ⟨g, off + j, none⟩ = some u)
    (hlen : L.length + m ≤ 2000000) (hB : B ≤ w.heap.size)
    (h : ∀ v' w', Hid (OwnS uvG 6 111 w' B v' (L ++ ys) ∧ Below B w w') → w.grownBy w' v.ownBlock → wpList Tryz.prog ops Q rest (a.put o.dst v') w') : wpList Tryz.prog ops Q (o :: rest) a w := by
  obtain ⟨i0, hi, hz0, hz1, hz2⟩ := info_parts infoUser
  refine wpList_append_own w hgd s x 43 ho B 111 i0 (.agg #[.string ⟨#[]⟩, .string ⟨#[]⟩, .string ⟨#[]⟩, .string ⟨#[]⟩, .int .i64 0, .int .i64 0]) 6 80 Tryz.underlying43 hi hz0 hz1 hz2 rfl (by decide) v L.length (flatS uvG L) hs hown ⟨g, off, none⟩ m c (flatS uvG ys) hx (by rw [flatS_len uvG_len, hm]) ?_
    (oneUser ys) (by unfold maxLen; omega) (by omega) hB ?_
  · intro j u hu
    rw [addn]
    exact hc j u hu
  · intro v' w' h2 h3 _
    subst hm
    exact h v' w' (hown.join hB h2 h3) h3
/-- The same, of what may be nil. -/
theorem wpl_UserS (w : World) {ops : Array Oper} {rest : List Oper} {o : Oper} {a : Act} {Q : Exit → Act → World → Prop} (hgd : o.guard = none) (s x : Operand)
    (ho : o.op = .call { callee := .builtin .append, args := #[s, x], argTypes := #[43, 43] })
    (B : Nat) (v : Value) (L ys : List UserV) (hs : a.eval s = v) (hown : OwnS uvG 6 111 w B v L)
    (p : Option Addr) (m c : Nat) (hrw : Rw UsR 6 w p ys) (hm : ys.length = m) (hsp : ∀ q, p = some q → q.spot = none) (hnil : p = none → m = 0 ∧ c = 0) (hx : a.eval x = .slice p m c)
    (hlen : L.length + m ≤ 2000000) (hB : B ≤ w.heap.size)
    (h : ∀ v' w', Hid (OwnS uvG 6 111 w' B v' (L ++ ys) ∧ Below B w w') → w.grownBy w' v.ownBlock → wpList Tryz.prog ops Q rest (a.put o.dst v') w') : wpList Tryz.prog ops Q (o :: rest) a w := by
  cases p with
  | some q =>
    obtain ⟨b, off, pt⟩ := q
    obtain rfl : pt = none := hsp _ rfl
    have h' : Rw (FR uvG UsRok) 6 w (some ⟨b, off, none⟩) ys := hrw
    exact wpl_User w hgd s x ho B v L ys hs hown b off m c hm hx (flat_rw h' uvG_len (by omega)) hlen hB h
  | none =>
    obtain ⟨rfl, rfl⟩ := hnil rfl
    obtain rfl : ys = [] := List.length_eq_zero_iff.1 hm
    obtain ⟨i0, hi, hz0, hz1, hz2⟩ := info_parts infoUser
    refine wpList_append_own_none hgd s x 43 ho B 111 i0 6 Tryz.underlying43 hi v L.length (flatS uvG L) hs hown hx (h v w ?_ (grown_refl w _))
    rw [List.append_nil]
    exact ⟨hown, Below.refl _ _⟩
/-- slices.Clone. -/
theorem cloneUser_some (b off len cap : Nat) (xs : List UserV) (w : World) (h : Rw UsR 6 w (some ⟨b, off, none⟩) xs) (hl : xs.length = len) (hm : len ≤ 1048576) (hc : len ≤ cap) :
    Calls Tryz.prog 120 #[.slice (some ⟨b, off, none⟩) len cap] w fun e w' => ∃ v, e = .returned v ∧ OwnS uvG 6 111 w' w.heap.size v xs ∧ Below w.heap.size w w' := by
  have h' : Rw (FR uvG UsRok) 6 w (some ⟨b, off, none⟩) xs := h
  have RC : Hid (∀ j u, (flatS uvG xs)[j]? = some u → w.cell? ⟨b, off + j, none⟩ = some u) := flat_rw h' uvG_len (by omega)
  have q22 : (binOp .eql 43 (.slice (some ⟨b, off, none⟩) len cap) (.slice none 0 0)).run Tryz.prog w = .ok (.bool false) w := Lib.run_eql_slice_nil w _ _ (some ⟨b, off, none⟩) len cap 0 0 Tryz.underlying43
  clear h h'
  go_enter Tryz.func120, Tryz.ntmps120
  go_wp2_with (at_builtin; refine wpl_User _ rfl (.tmp 5) (.tmp 6) rfl w.heap.size _ [] xs rfl (OwnS.lit w _ (Nat.le_refl _)) b off len cap hl rfl (fun j u hu => acell (RC.out j u hu) _) (by simp; omega) (by simp) ?_; intro v' w3 Y _)
  have Y2 : Hid (OwnS uvG 6 111 w3 w.heap.size v' xs ∧ Below w.heap.size w w3) := ⟨Y.out.1, ((Below.refl _ _).alloc (Nat.le_refl _) _).trans Y.out.2⟩
  clear Y
  go_wp2
  go_ret
  exact ⟨_, rfl, Y2.out.1, Y2.out.2⟩
theorem cloneUser_any (a : Option Addr) (len cap : Nat) (xs : List UserV) (w : World) (h : Rw UsR 6 w a xs) (hl : xs.length = len) (hm : len ≤ 1048576) (hc : len ≤ cap) (ha : ∀ p, a = some p → p.spot = none) (hn : a = none → len = 0 ∧ cap = 0) :
    Calls Tryz.prog 120 #[.slice a len cap] w fun e w' => ∃ v, e = .returned v ∧ OwnS uvG 6 111 w' w.heap.size v xs ∧ Below w.heap.size w w' := by
  cases a with
  | some p =>
    obtain ⟨b, off, pt⟩ := p
    obtain rfl : pt = none := ha _ rfl
    exact cloneUser_some b off len cap xs w h hl hm hc
  | none =>
    obtain ⟨rfl, rfl⟩ := hn rfl
    obtain rfl : xs = [] := List.length_eq_zero_iff.1 hl
    have q22 : (binOp .eql 43 (.slice none 0 0) (.slice none 0 0)).run Tryz.prog w = .ok (.bool true) w := Lib.run_eql_slice_nil w _ _ none 0 0 0 0 Tryz.underlying43
    go_enter Tryz.func120, Tryz.ntmps120
    go_wp2
    go_ret
    exact ⟨_, rfl, OwnS.nil _ _, Below.refl _ _⟩
theorem oneSession (ys : List SessV) : ∀ u ∈ flatS svG ys, u.oneCell' = true := by
  intro u hu
  unfold flatS at hu
  rw [List.mem_flatMap] at hu
  obtain ⟨f, _, hf⟩ := hu
  simp [svG] at hf
  rcases hf with rfl | rfl | rfl | rfl | rfl | rfl | rfl | rfl | rfl | rfl <;> rfl
/-- 'append(row, ys...)'. -/
theorem wpl_Session (w : World) {ops : Array Oper} {rest : List Oper} {o : Oper} {a : Act} {Q : Exit → Act → World → Prop} (hgd : o.guard = none) (s x : Operand)
    (ho : o.op = .call { callee := .builtin .append, args := #[s, x], argTypes := #[44, 44] })
    (B : Nat) (v : Value) (L ys : List SessV) (hs : a.eval s = v) (hown : OwnS svG 10 76 w B v L)
    (g off m c : Nat) (hm : ys.length = m) (hx : a.eval x = .slice (some ⟨g, off, none⟩) m c) (hc : ∀ j u, (flatS svG ys)[j]? = some u → w.cell? ⟨g, off + j, none⟩ = some u)
    (hlen : L.length + m ≤ 2000000) (hB : B ≤ w.heap.size)
    (h : ∀ v' w', Hid (OwnS svG 10 76 w' B v' (L ++ ys) ∧ Below B w w') → w.grownBy w' v.ownBlock → wpList Tryz.prog ops Q rest (a.put o.dst v') w') : wpList Tryz.prog ops Q (o :: rest) a w := by
  obtain ⟨i0, hi, hz0, hz1, hz2⟩ := info_parts infoSession
  refine wpList_append_own w hgd s x 44 ho B 76 i0 (.agg #[.int .i64 0, .int .i64 0, .string ⟨#[]⟩, .int .i64 0, .int .i64 0, .int .i64 0, .int .i64 0, .int .i64 0, .int .i64 0, .int .i64 0]) 10 88 Tryz.underlying44 hi hz0 hz1 hz2 rfl (by decide) v L.length (flatS svG L) hs hown ⟨g, off, none⟩ m c (flatS svG ys) hx (by rw [flatS_len svG_len, hm]) ?_
    (oneSession ys) (by unfold maxLen; omega) (by omega) hB ?_
  · intro j u hu
    rw [addn]
    exact hc j u hu
  · intro v' w' h2 h3 _
    subst hm
    exact h v' w' (hown.join hB h2 h3) h3
/-- The same, of what may be nil. -/
theorem wpl_SessionS (w : World) {ops : Array Oper} {rest : List Oper} {o : Oper} {a : Act} {Q : Exit → Act → World → Prop} (hgd : o.guard = none) (s x : Operand)
    (ho : o.op = .call { callee := .builtin .append, args := #[s, x], argTypes := #[44, 44] })
    (B : Nat) (v : Value) (L ys : List SessV) (hs : a.eval s = v) (hown : OwnS svG 10 76 w B v L)
    (p : Option Addr) (m c : Nat) (hrw : Rw SeR 10 w p ys) (hm : ys.length = m) (hsp : ∀ q, p = some q → q.spot = none) (hnil : p = none → m = 0 ∧ c = 0) (hx : a.eval x = .slice p m c)
    (hlen : L.length + m ≤ 2000000) (hB : B ≤ w.heap.size)
    (h : ∀ v' w', Hid (OwnS svG 10 76 w' B v' (L ++ ys) ∧ Below B w w') → w.grownBy w' v.ownBlock → wpList Tryz.prog ops Q rest (a.put o.dst v') w') : wpList Tryz.prog ops Q (o :: rest) a w := by
  cases p with
  | some q =>
    obtain ⟨b, off, pt⟩ := q
    obtain rfl : pt = none := hsp _ rfl
    have h' : Rw (FR svG SeRok) 10 w (some ⟨b, off, none⟩) ys := hrw
    exact wpl_Session w hgd s x ho B v L ys hs hown b off m c hm hx (flat_rw h' svG_len (by omega)) hlen hB h
  | none =>
    obtain ⟨rfl, rfl⟩ := hnil rfl
    obtain rfl : ys = [] := List.length_eq_zero_iff.1 hm
    obtain ⟨i0, hi, hz0, hz1, hz2⟩ := info_parts infoSession
    refine wpList_append_own_none hgd s x 44 ho B 76 i0 10 Tryz.underlying44 hi v L.length (flatS svG L) hs hown hx (h v w ?_ (grown_refl w _))
    rw [List.append_nil]
    exact ⟨hown, Below.refl _ _⟩
/-- slices.Clone. -/
theorem cloneSession_some (b off len cap : Nat) (xs : List SessV) (w : World) (h : Rw SeR 10 w (some ⟨b, off, none⟩) xs) (hl : xs.length = len) (hm : len ≤ 1048576) (hc : len ≤ cap) :
    Calls Tryz.prog 121 #[.slice (some ⟨b, off, none⟩) len cap] w fun e w' => ∃ v, e = .returned v ∧ OwnS svG 10 76 w' w.heap.size v xs ∧ Below w.heap.size w w' := by
  have h' : Rw (FR svG SeRok) 10 w (some ⟨b, off, none⟩) xs := h
  have RC : Hid (∀ j u, (flatS svG xs)[j]? = some u → w.cell? ⟨b, off + j, none⟩ = some u) := flat_rw h' svG_len (by omega)
  have q22 : (binOp .eql 44 (.slice (some ⟨b, off, none⟩) len cap) (.slice none 0 0)).run Tryz.prog w = .ok (.bool false) w := Lib.run_eql_slice_nil w _ _ (some ⟨b, off, none⟩) len cap 0 0 Tryz.underlying44
  clear h h'
  go_enter Tryz.func121, Tryz.ntmps121
  go_wp2_with (at_builtin; refine wpl_Session _ rfl (.tmp 5) (.tmp 6) rfl w.heap.size _ [] xs rfl (OwnS.lit w _ (Nat.le_refl _)) b off len cap hl rfl (fun j u hu => acell (RC.out j u hu) _) (by simp; omega) (by simp) ?_; intro v' w3 Y _)
  have Y2 : Hid (OwnS svG 10 76 w3 w.heap.size v' xs ∧ Below w.heap.size w w3) := ⟨Y.out.1, ((Below.refl _ _).alloc (Nat.le_refl _) _).trans Y.out.2⟩
  clear Y
  go_wp2
  go_ret
  exact ⟨_, rfl, Y2.out.1, Y2.out.2⟩
theorem cloneSession_any (a : Option Addr) (len cap : Nat) (xs : List SessV) (w : World) (h : Rw SeR 10 w a xs) (hl : xs.length = len) (hm : len ≤ 1048576) (hc : len ≤ cap) (ha : ∀ p, a = some p → p.spot = none) (hn : a = none → len = 0 ∧ cap = 0) :
    Calls Tryz.prog 121 #[.slice a len cap] w fun e w' => ∃ v, e = .returned v ∧ OwnS svG 10 76 w' w.heap.size v xs ∧ Below w.heap.size w w' := by
  cases a with
  | some p =>
    obtain ⟨b, off, pt⟩ := p
    obtain rfl : pt = none := ha _ rfl
    exact cloneSession_some b off len cap xs w h hl hm hc
  | none =>
    obtain ⟨rfl, rfl⟩ := hn rfl
    obtain rfl : xs = [] := List.length_eq_zero_iff.1 hl
    have q22 : (binOp .eql 44 (.slice none 0 0) (.slice none 0 0)).run Tryz.prog w = .ok (.bool true) w := Lib.run_eql_slice_nil w _ _ none 0 0 0 0 Tryz.underlying44
    go_enter Tryz.func121, Tryz.ntmps121
    go_wp2
    go_ret
    exact ⟨_, rfl, OwnS.nil _ _, Below.refl _ _⟩
theorem oneFail (ys : List FailV) : ∀ u ∈ flatS fvG ys, u.oneCell' = true := by
  intro u hu
  unfold flatS at hu
  rw [List.mem_flatMap] at hu
  obtain ⟨f, _, hf⟩ := hu
  simp [fvG] at hf
  rcases hf with rfl | rfl | rfl <;> rfl
/-- 'append(row, ys...)'. -/
theorem wpl_Fail (w : World) {ops : Array Oper} {rest : List Oper} {o : Oper} {a : Act} {Q : Exit → Act → World → Prop} (hgd : o.guard = none) (s x : Operand)
    (ho : o.op = .call { callee := .builtin .append, args := #[s, x], argTypes := #[45, 45] })
    (B : Nat) (v : Value) (L ys : List FailV) (hs : a.eval s = v) (hown : OwnS fvG 3 81 w B v L)
    (g off m c : Nat) (hm : ys.length = m) (hx : a.eval x = .slice (some ⟨g, off, none⟩) m c) (hc : ∀ j u, (flatS fvG ys)[j]? = some u → w.cell? ⟨g, off + j, none⟩ = some u)
    (hlen : L.length + m ≤ 2000000) (hB : B ≤ w.heap.size)
    (h : ∀ v' w', Hid (OwnS fvG 3 81 w' B v' (L ++ ys) ∧ Below B w w') → w.grownBy w' v.ownBlock → wpList Tryz.prog ops Q rest (a.put o.dst v') w') : wpList Tryz.prog ops Q (o :: rest) a w := by
  obtain ⟨i0, hi, hz0, hz1, hz2⟩ := info_parts infoFail
  refine wpList_append_own w hgd s x 45 ho B 81 i0 (.agg #[.string ⟨#[]⟩, .int .i64 0, .int .i64 0]) 3 32 Tryz.underlying45 hi hz0 hz1 hz2 rfl (by decide) v L.length (flatS fvG L) hs hown ⟨g, off, none⟩ m c (flatS fvG ys) hx (by rw [flatS_len fvG_len, hm]) ?_
    (oneFail ys) (by unfold maxLen; omega) (by omega) hB ?_
  · intro j u hu
    rw [addn]
    exact hc j u hu
  · intro v' w' h2 h3 _
    subst hm
    exact h v' w' (hown.join hB h2 h3) h3
/-- The same, of what may be nil. -/
theorem wpl_FailS (w : World) {ops : Array Oper} {rest : List Oper} {o : Oper} {a : Act} {Q : Exit → Act → World → Prop} (hgd : o.guard = none) (s x : Operand)
    (ho : o.op = .call { callee := .builtin .append, args := #[s, x], argTypes := #[45, 45] })
    (B : Nat) (v : Value) (L ys : List FailV) (hs : a.eval s = v) (hown : OwnS fvG 3 81 w B v L)
    (p : Option Addr) (m c : Nat) (hrw : Rw FaR 3 w p ys) (hm : ys.length = m) (hsp : ∀ q, p = some q → q.spot = none) (hnil : p = none → m = 0 ∧ c = 0) (hx : a.eval x = .slice p m c)
    (hlen : L.length + m ≤ 2000000) (hB : B ≤ w.heap.size)
    (h : ∀ v' w', Hid (OwnS fvG 3 81 w' B v' (L ++ ys) ∧ Below B w w') → w.grownBy w' v.ownBlock → wpList Tryz.prog ops Q rest (a.put o.dst v') w') : wpList Tryz.prog ops Q (o :: rest) a w := by
  cases p with
  | some q =>
    obtain ⟨b, off, pt⟩ := q
    obtain rfl : pt = none := hsp _ rfl
    have h' : Rw (FR fvG FaRok) 3 w (some ⟨b, off, none⟩) ys := hrw
    exact wpl_Fail w hgd s x ho B v L ys hs hown b off m c hm hx (flat_rw h' fvG_len (by omega)) hlen hB h
  | none =>
    obtain ⟨rfl, rfl⟩ := hnil rfl
    obtain rfl : ys = [] := List.length_eq_zero_iff.1 hm
    obtain ⟨i0, hi, hz0, hz1, hz2⟩ := info_parts infoFail
    refine wpList_append_own_none hgd s x 45 ho B 81 i0 3 Tryz.underlying45 hi v L.length (flatS fvG L) hs hown hx (h v w ?_ (grown_refl w _))
    rw [List.append_nil]
    exact ⟨hown, Below.refl _ _⟩
/-- slices.Clone. -/
theorem cloneFail_some (b off len cap : Nat) (xs : List FailV) (w : World) (h : Rw FaR 3 w (some ⟨b, off, none⟩) xs) (hl : xs.length = len) (hm : len ≤ 1048576) (hc : len ≤ cap) :
    Calls Tryz.prog 122 #[.slice (some ⟨b, off, none⟩) len cap] w fun e w' => ∃ v, e = .returned v ∧ OwnS fvG 3 81 w' w.heap.size v xs ∧ Below w.heap.size w w' := by
  have h' : Rw (FR fvG FaRok) 3 w (some ⟨b, off, none⟩) xs := h
  have RC : Hid (∀ j u, (flatS fvG xs)[j]? = some u → w.cell? ⟨b, off + j, none⟩ = some u) := flat_rw h' fvG_len (by omega)
  have q22 : (binOp .eql 45 (.slice (some ⟨b, off, none⟩) len cap) (.slice none 0 0)).run Tryz.prog w = .ok (.bool false) w := Lib.run_eql_slice_nil w _ _ (some ⟨b, off, none⟩) len cap 0 0 Tryz.underlying45
  clear h h'
  go_enter Tryz.func122, Tryz.ntmps122
  go_wp2_with (at_builtin; refine wpl_Fail _ rfl (.tmp 5) (.tmp 6) rfl w.heap.size _ [] xs rfl (OwnS.lit w _ (Nat.le_refl _)) b off len cap hl rfl (fun j u hu => acell (RC.out j u hu) _) (by simp; omega) (by simp) ?_; intro v' w3 Y _)
  have Y2 : Hid (OwnS fvG 3 81 w3 w.heap.size v' xs ∧ Below w.heap.size w w3) := ⟨Y.out.1, ((Below.refl _ _).alloc (Nat.le_refl _) _).trans Y.out.2⟩
  clear Y
  go_wp2
  go_ret
  exact ⟨_, rfl, Y2.out.1, Y2.out.2⟩
theorem cloneFail_any (a : Option Addr) (len cap : Nat) (xs : List FailV) (w : World) (h : Rw FaR 3 w a xs) (hl : xs.length = len) (hm : len ≤ 1048576) (hc : len ≤ cap) (ha : ∀ p, a = some p → p.spot = none) (hn : a = none → len = 0 ∧ cap = 0) :
    Calls Tryz.prog 122 #[.slice a len cap] w fun e w' => ∃ v, e = .returned v ∧ OwnS fvG 3 81 w' w.heap.size v xs ∧ Below w.heap.size w w' := by
  cases a with
  | some p =>
    obtain ⟨b, off, pt⟩ := p
    obtain rfl : pt = none := ha _ rfl
    exact cloneFail_some b off len cap xs w h hl hm hc
  | none =>
    obtain ⟨rfl, rfl⟩ := hn rfl
    obtain rfl : xs = [] := List.length_eq_zero_iff.1 hl
    have q22 : (binOp .eql 45 (.slice none 0 0) (.slice none 0 0)).run Tryz.prog w = .ok (.bool true) w := Lib.run_eql_slice_nil w _ _ none 0 0 0 0 Tryz.underlying45
    go_enter Tryz.func122, Tryz.ntmps122
    go_wp2
    go_ret
    exact ⟨_, rfl, OwnS.nil _ _, Below.refl _ _⟩
theorem oneRecord (ys : List RecV) : ∀ u ∈ flatS evG ys, u.oneCell' = true := by
  intro u hu
  unfold flatS at hu
  rw [List.mem_flatMap] at hu
  obtain ⟨f, _, hf⟩ := hu
  simp [evG] at hf
  rcases hf with rfl | rfl | rfl | rfl | rfl <;> rfl
/-- 'append(row, ys...)'. -/
theorem wpl_Record (w : World) {ops : Array Oper} {rest : List Oper} {o : Oper} {a : Act} {Q : Exit → Act → World → Prop} (hgd : o.guard = none) (s x : Operand)
    (ho : o.op = .call { callee := .builtin .append, args := #[s, x], argTypes := #[46, 46] })
    (B : Nat) (v : Value) (L ys : List RecV) (hs : a.eval s = v) (hown : OwnS evG 5 83 w B v L)
    (g off m c : Nat) (hm : ys.length = m) (hx : a.eval x = .slice (some ⟨g, off, none⟩) m c) (hc : ∀ j u, (flatS evG ys)[j]? = some u → w.cell? ⟨g, off + j, none⟩ = some u)
    (hlen : L.length + m ≤ 2000000) (hB : B ≤ w.heap.size)
    (h : ∀ v' w', Hid (OwnS evG 5 83 w' B v' (L ++ ys) ∧ Below B w w') → w.grownBy w' v.ownBlock → wpList Tryz.prog ops Q rest (a.put o.dst v') w') : wpList Tryz.prog ops Q (o :: rest) a w := by
  obtain ⟨i0, hi, hz0, hz1, hz2⟩ := info_parts infoRecord
  refine wpList_append_own w hgd s x 46 ho B 83 i0 (.agg #[.int .i64 0, .int .i64 0, .int .i64 0, .int .i64 0, .bool false]) 5 40 Tryz.underlying46 hi hz0 hz1 hz2 rfl (by decide) v L.length (flatS evG L) hs hown ⟨g, off, none⟩ m c (flatS evG ys) hx (by rw [flatS_len evG_len, hm]) ?_
    (oneRecord ys) (by unfold maxLen; omega) (by omega) hB ?_
  · intro j u hu
    rw [addn]
    exact hc j u hu
  · intro v' w' h2 h3 _
    subst hm
    exact h v' w' (hown.join hB h2 h3) h3
/-- The same, of what may be nil. -/
theorem wpl_RecordS (w : World) {ops : Array Oper} {rest : List Oper} {o : Oper} {a : Act} {Q : Exit → Act → World → Prop} (hgd : o.guard = none) (s x : Operand)
    (ho : o.op = .call { callee := .builtin .append, args := #[s, x], argTypes := #[46, 46] })
    (B : Nat) (v : Value) (L ys : List RecV) (hs : a.eval s = v) (hown : OwnS evG 5 83 w B v L)
    (p : Option Addr) (m c : Nat) (hrw : Rw ReR 5 w p ys) (hm : ys.length = m) (hsp : ∀ q, p = some q → q.spot = none) (hnil : p = none → m = 0 ∧ c = 0) (hx : a.eval x = .slice p m c)
    (hlen : L.length + m ≤ 2000000) (hB : B ≤ w.heap.size)
    (h : ∀ v' w', Hid (OwnS evG 5 83 w' B v' (L ++ ys) ∧ Below B w w') → w.grownBy w' v.ownBlock → wpList Tryz.prog ops Q rest (a.put o.dst v') w') : wpList Tryz.prog ops Q (o :: rest) a w := by
  cases p with
  | some q =>
    obtain ⟨b, off, pt⟩ := q
    obtain rfl : pt = none := hsp _ rfl
    have h' : Rw (FR evG ReRok) 5 w (some ⟨b, off, none⟩) ys := hrw
    exact wpl_Record w hgd s x ho B v L ys hs hown b off m c hm hx (flat_rw h' evG_len (by omega)) hlen hB h
  | none =>
    obtain ⟨rfl, rfl⟩ := hnil rfl
    obtain rfl : ys = [] := List.length_eq_zero_iff.1 hm
    obtain ⟨i0, hi, hz0, hz1, hz2⟩ := info_parts infoRecord
    refine wpList_append_own_none hgd s x 46 ho B 83 i0 5 Tryz.underlying46 hi v L.length (flatS evG L) hs hown hx (h v w ?_ (grown_refl w _))
    rw [List.append_nil]
    exact ⟨hown, Below.refl _ _⟩
/-- slices.Clone. -/
theorem cloneRecord_some (b off len cap : Nat) (xs : List RecV) (w : World) (h : Rw ReR 5 w (some ⟨b, off, none⟩) xs) (hl : xs.length = len) (hm : len ≤ 1048576) (hc : len ≤ cap) :
    Calls Tryz.prog 123 #[.slice (some ⟨b, off, none⟩) len cap] w fun e w' => ∃ v, e = .returned v ∧ OwnS evG 5 83 w' w.heap.size v xs ∧ Below w.heap.size w w' := by
  have h' : Rw (FR evG ReRok) 5 w (some ⟨b, off, none⟩) xs := h
  have RC : Hid (∀ j u, (flatS evG xs)[j]? = some u → w.cell? ⟨b, off + j, none⟩ = some u) := flat_rw h' evG_len (by omega)
  have q22 : (binOp .eql 46 (.slice (some ⟨b, off, none⟩) len cap) (.slice none 0 0)).run Tryz.prog w = .ok (.bool false) w := Lib.run_eql_slice_nil w _ _ (some ⟨b, off, none⟩) len cap 0 0 Tryz.underlying46
  clear h h'
  go_enter Tryz.func123, Tryz.ntmps123
  go_wp2_with (at_builtin; refine wpl_Record _ rfl (.tmp 5) (.tmp 6) rfl w.heap.size _ [] xs rfl (OwnS.lit w _ (Nat.le_refl _)) b off len cap hl rfl (fun j u hu => acell (RC.out j u hu) _) (by simp; omega) (by simp) ?_; intro v' w3 Y _)
  have Y2 : Hid (OwnS evG 5 83 w3 w.heap.size v' xs ∧ Below w.heap.size w w3) := ⟨Y.out.1, ((Below.refl _ _).alloc (Nat.le_refl _) _).trans Y.out.2⟩
  clear Y
  go_wp2
  go_ret
  exact ⟨_, rfl, Y2.out.1, Y2.out.2⟩
theorem cloneRecord_any (a : Option Addr) (len cap : Nat) (xs : List RecV) (w : World) (h : Rw ReR 5 w a xs) (hl : xs.length = len) (hm : len ≤ 1048576) (hc : len ≤ cap) (ha : ∀ p, a = some p → p.spot = none) (hn : a = none → len = 0 ∧ cap = 0) :
    Calls Tryz.prog 123 #[.slice a len cap] w fun e w' => ∃ v, e = .returned v ∧ OwnS evG 5 83 w' w.heap.size v xs ∧ Below w.heap.size w w' := by
  cases a with
  | some p =>
    obtain ⟨b, off, pt⟩ := p
    obtain rfl : pt = none := ha _ rfl
    exact cloneRecord_some b off len cap xs w h hl hm hc
  | none =>
    obtain ⟨rfl, rfl⟩ := hn rfl
    obtain rfl : xs = [] := List.length_eq_zero_iff.1 hl
    have q22 : (binOp .eql 46 (.slice none 0 0) (.slice none 0 0)).run Tryz.prog w = .ok (.bool true) w := Lib.run_eql_slice_nil w _ _ none 0 0 0 0 Tryz.underlying46
    go_enter Tryz.func123, Tryz.ntmps123
    go_wp2
    go_ret
    exact ⟨_, rfl, OwnS.nil _ _, Below.refl _ _⟩
end Go.Proofs.YtheicficoilkkaaGreat
