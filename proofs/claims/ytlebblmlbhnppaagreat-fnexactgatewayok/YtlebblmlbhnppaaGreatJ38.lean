/- Lists of users, sessions, fails and records copied by the laws into rows of one's own. Append and slices.Clone of users, sessions, fails and records. The generic filter at sessions. The generic filter at records. RecordsHold, the program's and the model's. The program's rolePlace, userOK, usersOK. A map of one's own, emptied. Nothing of the program is imported. -/
import Derived.Test.YtlebblmlbhnppaaGreatJ37
import Derived.Test.YtlebblmlbhnppaaGreatJ34
import Derived.Test.YtlebblmlbhnppaaGreatGokF
import Derived.Laws.Cover1
import Derived.Shelf.SlicesQ.IndexFunc
import Derived.Maps.Own
import Derived.Maps.OwnSet
import Derived.Maps.Views
namespace Go.Proofs.YtlebblmlbhnppaaGreat
open Go.RowKit Go.PlainAid Go.Proofs.YtlebblmlbhnppaaGreat.Bt Go.Sort
set_option linter.unusedVariables false
set_option maxRecDepth 20000
theorem zUser : #[.string ⟨#[]⟩, .string ⟨#[]⟩, .string ⟨#[]⟩, .string ⟨#[]⟩, .int .i64 0, .int .i64 0].toList = uvG default := rfl
set_option maxHeartbeats 4000000 in
theorem toUserS_own (a : Option Addr) (len cap : Nat) (xs : List UserV) (w : World) (h : Rw UsR 6 w a xs) (hl : xs.length = len) (hc : len ≤ 1048576) :
    Calls Tryz.prog 45 #[.slice a len cap] w fun e w' => e = .returned (.slice (some ⟨w.heap.size, 0, none⟩) len len) ∧ OwnS uvG 6 144 w' w.heap.size (.slice (some ⟨w.heap.size, 0, none⟩) len len) xs ∧ (∀ x, x ∈ xs → UsRok x) ∧ Below w.heap.size w w' := by
  have RW : Hid (Rw UsR 6 w a xs) := h
  have HK : Hid (∀ x, x ∈ xs → UsRok x) := by
    intro x hx
    obtain ⟨i, hi⟩ := List.getElem?_of_mem hx
    obtain ⟨b, off, vs, _, _, _, h2, _⟩ := h.at UsR.kp (Below.refl _ _) hi
    exact h2.2
  clear h
  obtain ⟨i0, hi, hz0, hz1, hz2⟩ := info_parts infoUser
  have hmk := run_make (P := Tryz.prog) w 41 144 i0 (.agg #[.string ⟨#[]⟩, .string ⟨#[]⟩, .string ⟨#[]⟩, .string ⟨#[]⟩, .int .i64 0, .int .i64 0]) Tryz.underlying41 hi hz0 .i64 .i64 len len (by omega) (Int.le_refl _) (by rw [hz2]; omega) (by omega)
  rw [hz1, Int.toNat_natCast] at hmk
  have HM : Hid (OwnS uvG 6 144 (w.alloc (.cells (madeCells #[.string ⟨#[]⟩, .string ⟨#[]⟩, .string ⟨#[]⟩, .string ⟨#[]⟩, .int .i64 0, .int .i64 0] (len * 6)) 144)) w.heap.size (.slice (some ⟨w.heap.size, 0, none⟩) len len) (List.replicate len default) ∧ Below w.heap.size w (w.alloc (.cells (madeCells #[.string ⟨#[]⟩, .string ⟨#[]⟩, .string ⟨#[]⟩, .string ⟨#[]⟩, .int .i64 0, .int .i64 0] (len * 6)) 144))) := ⟨OwnS.made w _ _ len default _ zUser rfl (by omega) (Nat.le_refl _) (by unfold maxLen; omega), (Below.refl _ _).alloc (Nat.le_refl _) _⟩
  have hmk2 : (Instr.makeSlice 41 (.int .i64 (len : Int)) (.int .i64 (len : Int))).run Tryz.prog w = .ok (.slice (some ⟨w.heap.size, 0, none⟩) len len) (w.alloc (.cells (madeCells #[.string ⟨#[]⟩, .string ⟨#[]⟩, .string ⟨#[]⟩, .string ⟨#[]⟩, .int .i64 0, .int .i64 0] (len * 6)) 144)) := hmk
  clear hmk hi hz0 hz1 hz2
  obtain ⟨W, hW⟩ : ∃ W, W = (w.alloc (.cells (madeCells #[.string ⟨#[]⟩, .string ⟨#[]⟩, .string ⟨#[]⟩, .string ⟨#[]⟩, .int .i64 0, .int .i64 0] (len * 6)) 144)) := ⟨_, rfl⟩
  rw [← hW] at HM hmk2
  clear hW
  go_enter Tryz.func45, Tryz.ntmps45
  go_wp2
  go_loopw [4] (fun i wr => ∃ (k : Nat) (L : List UserV), k ≤ len ∧ i = .int .i64 k ∧ Hid (OwnS uvG 6 144 wr w.heap.size (.slice (some ⟨w.heap.size, 0, none⟩) len len) L ∧ L.length = len ∧ L.take k = xs.take k ∧ Below w.heap.size w wr)) (fun i _ => len - (intOf i).toNat)
  case atStart => exact ⟨0, _, Nat.zero_le _, rfl, HM.out.1, List.length_replicate .., rfl, HM.out.2⟩
  case round =>
    obtain ⟨k, L, hk, rfl, X⟩ := hrel
    by_cases hlt : k < len
    · obtain ⟨x, hx⟩ := at_of hl hlt
      obtain ⟨b, off, vs, rfl, hb, hvl, hR, hc⟩ := RW.out.at UsR.kp X.out.2.2.2 hx
      have TS : Hid ((L.set k x).take (k + 1) = xs.take (k + 1)) := takeS_set (by rw [X.out.2.1, hl]) hx X.out.2.2.1
      obtain ⟨nm, sa, ha, ro, bl, lg⟩ := x
      obtain ⟨rfl, hok⟩ := hR
      clear hok
      have q0 : wr.cell? ⟨b, off + k * 6, none⟩ = some (.string nm) := hc 0 _ rfl
      have q1 : wr.cell? ⟨b, off + k * 6 + 1, none⟩ = some (.string sa) := hc 1 _ rfl
      have q2 : wr.cell? ⟨b, off + k * 6 + 2, none⟩ = some (.string ha) := hc 2 _ rfl
      have q3 : wr.cell? ⟨b, off + k * 6 + 3, none⟩ = some (.string ro) := hc 3 _ rfl
      have q4 : wr.cell? ⟨b, off + k * 6 + 4, none⟩ = some (.int .i64 bl) := hc 4 _ rfl
      have q5 : wr.cell? ⟨b, off + k * 6 + 5, none⟩ = some (.int .i64 lg) := hc 5 _ rfl
      have HT : Hid (∀ w, Calls Tryz.prog 116 #[.agg #[.string nm, .string sa, .string ha, .string ro, .int .i64 bl, .int .i64 lg]] w fun e w' => e = .returned (.agg #[.string nm, .string sa, .string ha, .string ro, .int .i64 bl, .int .i64 lg]) ∧ Below w.heap.size w w') := fun w => toUser_any nm sa ha ro bl lg w
      have hltz : (k : Int) < (len : Int) := by omega
      clear hc
      go_wp2_with fail
      refine (HT.out _).mono ?_
      rintro e w1 ⟨rfl, b1⟩
      have o1 := X.out.1.now b1
      obtain ⟨y, hy⟩ := at_of (k := k) X.out.2.1 hlt
      obtain ⟨c0, z0⟩ := o1.cell uvG_len (j := 0) hy rfl
      obtain ⟨c1, z1⟩ := o1.cell uvG_len (j := 1) hy rfl
      obtain ⟨c2, z2⟩ := o1.cell uvG_len (j := 2) hy rfl
      obtain ⟨c3, z3⟩ := o1.cell uvG_len (j := 3) hy rfl
      obtain ⟨c4, z4⟩ := o1.cell uvG_len (j := 4) hy rfl
      obtain ⟨c5, z5⟩ := o1.cell uvG_len (j := 5) hy rfl
      replace c0 : w1.cell? ⟨w.heap.size, k * 6, none⟩ = some (.string y.nm) := c0
      replace z0 : w1.frozen? ⟨w.heap.size, k * 6, none⟩ = false := z0
      have Y0 : ∀ W1, W1 = ((((((w1.setCell ⟨w.heap.size, k * 6, none⟩ (.string nm)).setCell ⟨w.heap.size, k * 6 + 1, none⟩ (.string sa)).setCell ⟨w.heap.size, k * 6 + 2, none⟩ (.string ha)).setCell ⟨w.heap.size, k * 6 + 3, none⟩ (.string ro)).setCell ⟨w.heap.size, k * 6 + 4, none⟩ (.int .i64 bl)).setCell ⟨w.heap.size, k * 6 + 5, none⟩ (.int .i64 lg)) → OwnS uvG 6 144 W1 w.heap.size (.slice (some ⟨w.heap.size, 0, none⟩) len len) (L.set k ⟨nm, sa, ha, ro, bl, lg⟩) ∧ (L.set k ⟨nm, sa, ha, ro, bl, lg⟩).length = len ∧ (L.set k ⟨nm, sa, ha, ro, bl, lg⟩).take (k + 1) = xs.take (k + 1) ∧ Below w.heap.size w W1 := by
        intro W1 hW1
        have h2 := o1.store uvG_len hlt ⟨nm, sa, ha, ro, bl, lg⟩
        have e3 : W1 = wsets w1 w.heap.size (k * 6) (uvG ⟨nm, sa, ha, ro, bl, lg⟩) := hW1
        rw [← e3] at h2
        exact ⟨h2.1, by rw [List.length_set]; exact X.out.2.1, TS.out, (X.out.2.2.2.trans (b1.mono X.out.2.2.2.size)).trans (below_row h2.2 (Nat.le_refl _) (Nat.le_trans X.out.2.2.2.size b1.size))⟩
      have Y : Hid (OwnS uvG 6 144 ((((((w1.setCell ⟨w.heap.size, k * 6, none⟩ (.string nm)).setCell ⟨w.heap.size, k * 6 + 1, none⟩ (.string sa)).setCell ⟨w.heap.size, k * 6 + 2, none⟩ (.string ha)).setCell ⟨w.heap.size, k * 6 + 3, none⟩ (.string ro)).setCell ⟨w.heap.size, k * 6 + 4, none⟩ (.int .i64 bl)).setCell ⟨w.heap.size, k * 6 + 5, none⟩ (.int .i64 lg)) w.heap.size (.slice (some ⟨w.heap.size, 0, none⟩) len len) (L.set k ⟨nm, sa, ha, ro, bl, lg⟩) ∧ (L.set k ⟨nm, sa, ha, ro, bl, lg⟩).length = len ∧ (L.set k ⟨nm, sa, ha, ro, bl, lg⟩).take (k + 1) = xs.take (k + 1) ∧ Below w.heap.size w ((((((w1.setCell ⟨w.heap.size, k * 6, none⟩ (.string nm)).setCell ⟨w.heap.size, k * 6 + 1, none⟩ (.string sa)).setCell ⟨w.heap.size, k * 6 + 2, none⟩ (.string ha)).setCell ⟨w.heap.size, k * 6 + 3, none⟩ (.string ro)).setCell ⟨w.heap.size, k * 6 + 4, none⟩ (.int .i64 bl)).setCell ⟨w.heap.size, k * 6 + 5, none⟩ (.int .i64 lg))) := Y0 _ rfl
      clear Y0
      clear o1 b1 q0 q1 q2 q3 q4 q5 HT X HM hmk2 hx hy TS
      go_wp2
      go_roundw
      case rel => exact ⟨k + 1, _, by omega, by go_num, Y⟩
      case measure => simp [intOf]; omega
    · obtain rfl : k = len := by omega
      have e1 : L = xs := by
        have := X.out.2.2.1
        rw [List.take_of_length_le (by rw [X.out.2.1]; exact Nat.le_refl _), List.take_of_length_le (by omega)] at this
        exact this
      subst e1
      go_wp2
      go_ret
      exact ⟨rfl, X.out.1, HK.out, X.out.2.2.2⟩
theorem zSession : #[.int .i64 0, .int .i64 0, .string ⟨#[]⟩, .int .i64 0, .int .i64 0, .int .i64 0, .int .i64 0, .int .i64 0, .int .i64 0, .int .i64 0].toList = svG default := rfl
set_option maxHeartbeats 4000000 in
theorem toSessionS_own (a : Option Addr) (len cap : Nat) (xs : List SessV) (w : World) (h : Rw SeR 10 w a xs) (hl : xs.length = len) (hc : len ≤ 1048576) :
    Calls Tryz.prog 46 #[.slice a len cap] w fun e w' => e = .returned (.slice (some ⟨w.heap.size, 0, none⟩) len len) ∧ OwnS svG 10 137 w' w.heap.size (.slice (some ⟨w.heap.size, 0, none⟩) len len) xs ∧ (∀ x, x ∈ xs → SeRok x) ∧ Below w.heap.size w w' := by
  have RW : Hid (Rw SeR 10 w a xs) := h
  have HK : Hid (∀ x, x ∈ xs → SeRok x) := by
    intro x hx
    obtain ⟨i, hi⟩ := List.getElem?_of_mem hx
    obtain ⟨b, off, vs, _, _, _, h2, _⟩ := h.at SeR.kp (Below.refl _ _) hi
    exact h2.2
  clear h
  obtain ⟨i0, hi, hz0, hz1, hz2⟩ := info_parts infoSession
  have hmk := run_make (P := Tryz.prog) w 42 137 i0 (.agg #[.int .i64 0, .int .i64 0, .string ⟨#[]⟩, .int .i64 0, .int .i64 0, .int .i64 0, .int .i64 0, .int .i64 0, .int .i64 0, .int .i64 0]) Tryz.underlying42 hi hz0 .i64 .i64 len len (by omega) (Int.le_refl _) (by rw [hz2]; omega) (by omega)
  rw [hz1, Int.toNat_natCast] at hmk
  have HM : Hid (OwnS svG 10 137 (w.alloc (.cells (madeCells #[.int .i64 0, .int .i64 0, .string ⟨#[]⟩, .int .i64 0, .int .i64 0, .int .i64 0, .int .i64 0, .int .i64 0, .int .i64 0, .int .i64 0] (len * 10)) 137)) w.heap.size (.slice (some ⟨w.heap.size, 0, none⟩) len len) (List.replicate len default) ∧ Below w.heap.size w (w.alloc (.cells (madeCells #[.int .i64 0, .int .i64 0, .string ⟨#[]⟩, .int .i64 0, .int .i64 0, .int .i64 0, .int .i64 0, .int .i64 0, .int .i64 0, .int .i64 0] (len * 10)) 137))) := ⟨OwnS.made w _ _ len default _ zSession rfl (by omega) (Nat.le_refl _) (by unfold maxLen; omega), (Below.refl _ _).alloc (Nat.le_refl _) _⟩
  have hmk2 : (Instr.makeSlice 42 (.int .i64 (len : Int)) (.int .i64 (len : Int))).run Tryz.prog w = .ok (.slice (some ⟨w.heap.size, 0, none⟩) len len) (w.alloc (.cells (madeCells #[.int .i64 0, .int .i64 0, .string ⟨#[]⟩, .int .i64 0, .int .i64 0, .int .i64 0, .int .i64 0, .int .i64 0, .int .i64 0, .int .i64 0] (len * 10)) 137)) := hmk
  clear hmk hi hz0 hz1 hz2
  obtain ⟨W, hW⟩ : ∃ W, W = (w.alloc (.cells (madeCells #[.int .i64 0, .int .i64 0, .string ⟨#[]⟩, .int .i64 0, .int .i64 0, .int .i64 0, .int .i64 0, .int .i64 0, .int .i64 0, .int .i64 0] (len * 10)) 137)) := ⟨_, rfl⟩
  rw [← hW] at HM hmk2
  clear hW
  go_enter Tryz.func46, Tryz.ntmps46
  go_wp2
  go_loopw [4] (fun i wr => ∃ (k : Nat) (L : List SessV), k ≤ len ∧ i = .int .i64 k ∧ Hid (OwnS svG 10 137 wr w.heap.size (.slice (some ⟨w.heap.size, 0, none⟩) len len) L ∧ L.length = len ∧ L.take k = xs.take k ∧ Below w.heap.size w wr)) (fun i _ => len - (intOf i).toNat)
  case atStart => exact ⟨0, _, Nat.zero_le _, rfl, HM.out.1, List.length_replicate .., rfl, HM.out.2⟩
  case round =>
    obtain ⟨k, L, hk, rfl, X⟩ := hrel
    by_cases hlt : k < len
    · obtain ⟨x, hx⟩ := at_of hl hlt
      obtain ⟨b, off, vs, rfl, hb, hvl, hR, hc⟩ := RW.out.at SeR.kp X.out.2.2.2 hx
      have TS : Hid ((L.set k x).take (k + 1) = xs.take (k + 1)) := takeS_set (by rw [X.out.2.1, hl]) hx X.out.2.2.1
      obtain ⟨id, us, mc, ip, be, la, ud, qu, un, il⟩ := x
      obtain ⟨rfl, hok⟩ := hR
      clear hok
      have q0 : wr.cell? ⟨b, off + k * 10, none⟩ = some (.int .i64 id) := hc 0 _ rfl
      have q1 : wr.cell? ⟨b, off + k * 10 + 1, none⟩ = some (.int .i64 us) := hc 1 _ rfl
      have q2 : wr.cell? ⟨b, off + k * 10 + 2, none⟩ = some (.string mc) := hc 2 _ rfl
      have q3 : wr.cell? ⟨b, off + k * 10 + 3, none⟩ = some (.int .i64 ip) := hc 3 _ rfl
      have q4 : wr.cell? ⟨b, off + k * 10 + 4, none⟩ = some (.int .i64 be) := hc 4 _ rfl
      have q5 : wr.cell? ⟨b, off + k * 10 + 5, none⟩ = some (.int .i64 la) := hc 5 _ rfl
      have q6 : wr.cell? ⟨b, off + k * 10 + 6, none⟩ = some (.int .i64 ud) := hc 6 _ rfl
      have q7 : wr.cell? ⟨b, off + k * 10 + 7, none⟩ = some (.int .i64 qu) := hc 7 _ rfl
      have q8 : wr.cell? ⟨b, off + k * 10 + 8, none⟩ = some (.int .i64 un) := hc 8 _ rfl
      have q9 : wr.cell? ⟨b, off + k * 10 + 9, none⟩ = some (.int .i64 il) := hc 9 _ rfl
      have HT : Hid (∀ w, Calls Tryz.prog 117 #[.agg #[.int .i64 id, .int .i64 us, .string mc, .int .i64 ip, .int .i64 be, .int .i64 la, .int .i64 ud, .int .i64 qu, .int .i64 un, .int .i64 il]] w fun e w' => e = .returned (.agg #[.int .i64 id, .int .i64 us, .string mc, .int .i64 ip, .int .i64 be, .int .i64 la, .int .i64 ud, .int .i64 qu, .int .i64 un, .int .i64 il]) ∧ Below w.heap.size w w') := fun w => toSession_any id us mc ip be la ud qu un il w
      have hltz : (k : Int) < (len : Int) := by omega
      clear hc
      go_wp2_with fail
      refine (HT.out _).mono ?_
      rintro e w1 ⟨rfl, b1⟩
      have o1 := X.out.1.now b1
      obtain ⟨y, hy⟩ := at_of (k := k) X.out.2.1 hlt
      obtain ⟨c0, z0⟩ := o1.cell svG_len (j := 0) hy rfl
      obtain ⟨c1, z1⟩ := o1.cell svG_len (j := 1) hy rfl
      obtain ⟨c2, z2⟩ := o1.cell svG_len (j := 2) hy rfl
      obtain ⟨c3, z3⟩ := o1.cell svG_len (j := 3) hy rfl
      obtain ⟨c4, z4⟩ := o1.cell svG_len (j := 4) hy rfl
      obtain ⟨c5, z5⟩ := o1.cell svG_len (j := 5) hy rfl
      obtain ⟨c6, z6⟩ := o1.cell svG_len (j := 6) hy rfl
      obtain ⟨c7, z7⟩ := o1.cell svG_len (j := 7) hy rfl
      obtain ⟨c8, z8⟩ := o1.cell svG_len (j := 8) hy rfl
      obtain ⟨c9, z9⟩ := o1.cell svG_len (j := 9) hy rfl
      replace c0 : w1.cell? ⟨w.heap.size, k * 10, none⟩ = some (.int .i64 y.id) := c0
      replace z0 : w1.frozen? ⟨w.heap.size, k * 10, none⟩ = false := z0
      have Y0 : ∀ W1, W1 = ((((((((((w1.setCell ⟨w.heap.size, k * 10, none⟩ (.int .i64 id)).setCell ⟨w.heap.size, k * 10 + 1, none⟩ (.int .i64 us)).setCell ⟨w.heap.size, k * 10 + 2, none⟩ (.string mc)).setCell ⟨w.heap.size, k * 10 + 3, none⟩ (.int .i64 ip)).setCell ⟨w.heap.size, k * 10 + 4, none⟩ (.int .i64 be)).setCell ⟨w.heap.size, k * 10 + 5, none⟩ (.int .i64 la)).setCell ⟨w.heap.size, k * 10 + 6, none⟩ (.int .i64 ud)).setCell ⟨w.heap.size, k * 10 + 7, none⟩ (.int .i64 qu)).setCell ⟨w.heap.size, k * 10 + 8, none⟩ (.int .i64 un)).setCell ⟨w.heap.size, k * 10 + 9, none⟩ (.int .i64 il)) → OwnS svG 10 137 W1 w.heap.size (.slice (some ⟨w.heap.size, 0, none⟩) len len) (L.set k ⟨id, us, mc, ip, be, la, ud, qu, un, il⟩) ∧ (L.set k ⟨id, us, mc, ip, be, la, ud, qu, un, il⟩).length = len ∧ (L.set k ⟨id, us, mc, ip, be, la, ud, qu, un, il⟩).take (k + 1) = xs.take (k + 1) ∧ Below w.heap.size w W1 := by
        intro W1 hW1
        have h2 := o1.store svG_len hlt ⟨id, us, mc, ip, be, la, ud, qu, un, il⟩
        have e3 : W1 = wsets w1 w.heap.size (k * 10) (svG ⟨id, us, mc, ip, be, la, ud, qu, un, il⟩) := hW1
        rw [← e3] at h2
        exact ⟨h2.1, by rw [List.length_set]; exact X.out.2.1, TS.out, (X.out.2.2.2.trans (b1.mono X.out.2.2.2.size)).trans (below_row h2.2 (Nat.le_refl _) (Nat.le_trans X.out.2.2.2.size b1.size))⟩
      have Y : Hid (OwnS svG 10 137 ((((((((((w1.setCell ⟨w.heap.size, k * 10, none⟩ (.int .i64 id)).setCell ⟨w.heap.size, k * 10 + 1, none⟩ (.int .i64 us)).setCell ⟨w.heap.size, k * 10 + 2, none⟩ (.string mc)).setCell ⟨w.heap.size, k * 10 + 3, none⟩ (.int .i64 ip)).setCell ⟨w.heap.size, k * 10 + 4, none⟩ (.int .i64 be)).setCell ⟨w.heap.size, k * 10 + 5, none⟩ (.int .i64 la)).setCell ⟨w.heap.size, k * 10 + 6, none⟩ (.int .i64 ud)).setCell ⟨w.heap.size, k * 10 + 7, none⟩ (.int .i64 qu)).setCell ⟨w.heap.size, k * 10 + 8, none⟩ (.int .i64 un)).setCell ⟨w.heap.size, k * 10 + 9, none⟩ (.int .i64 il)) w.heap.size (.slice (some ⟨w.heap.size, 0, none⟩) len len) (L.set k ⟨id, us, mc, ip, be, la, ud, qu, un, il⟩) ∧ (L.set k ⟨id, us, mc, ip, be, la, ud, qu, un, il⟩).length = len ∧ (L.set k ⟨id, us, mc, ip, be, la, ud, qu, un, il⟩).take (k + 1) = xs.take (k + 1) ∧ Below w.heap.size w ((((((((((w1.setCell ⟨w.heap.size, k * 10, none⟩ (.int .i64 id)).setCell ⟨w.heap.size, k * 10 + 1, none⟩ (.int .i64 us)).setCell ⟨w.heap.size, k * 10 + 2, none⟩ (.string mc)).setCell ⟨w.heap.size, k * 10 + 3, none⟩ (.int .i64 ip)).setCell ⟨w.heap.size, k * 10 + 4, none⟩ (.int .i64 be)).setCell ⟨w.heap.size, k * 10 + 5, none⟩ (.int .i64 la)).setCell ⟨w.heap.size, k * 10 + 6, none⟩ (.int .i64 ud)).setCell ⟨w.heap.size, k * 10 + 7, none⟩ (.int .i64 qu)).setCell ⟨w.heap.size, k * 10 + 8, none⟩ (.int .i64 un)).setCell ⟨w.heap.size, k * 10 + 9, none⟩ (.int .i64 il))) := Y0 _ rfl
      clear Y0
      clear o1 b1 q0 q1 q2 q3 q4 q5 q6 q7 q8 q9 HT X HM hmk2 hx hy TS
      go_wp2
      go_roundw
      case rel => exact ⟨k + 1, _, by omega, by go_num, Y⟩
      case measure => simp [intOf]; omega
    · obtain rfl : k = len := by omega
      have e1 : L = xs := by
        have := X.out.2.2.1
        rw [List.take_of_length_le (by rw [X.out.2.1]; exact Nat.le_refl _), List.take_of_length_le (by omega)] at this
        exact this
      subst e1
      go_wp2
      go_ret
      exact ⟨rfl, X.out.1, HK.out, X.out.2.2.2⟩
theorem zFail : #[.string ⟨#[]⟩, .int .i64 0, .int .i64 0].toList = fvG default := rfl
set_option maxHeartbeats 4000000 in
theorem toFailS_own (a : Option Addr) (len cap : Nat) (xs : List FailV) (w : World) (h : Rw FaR 3 w a xs) (hl : xs.length = len) (hc : len ≤ 1048576) :
    Calls Tryz.prog 47 #[.slice a len cap] w fun e w' => e = .returned (.slice (some ⟨w.heap.size, 0, none⟩) len len) ∧ OwnS fvG 3 179 w' w.heap.size (.slice (some ⟨w.heap.size, 0, none⟩) len len) xs ∧ (∀ x, x ∈ xs → FaRok x) ∧ Below w.heap.size w w' := by
  have RW : Hid (Rw FaR 3 w a xs) := h
  have HK : Hid (∀ x, x ∈ xs → FaRok x) := by
    intro x hx
    obtain ⟨i, hi⟩ := List.getElem?_of_mem hx
    obtain ⟨b, off, vs, _, _, _, h2, _⟩ := h.at FaR.kp (Below.refl _ _) hi
    exact h2.2
  clear h
  obtain ⟨i0, hi, hz0, hz1, hz2⟩ := info_parts infoFail
  have hmk := run_make (P := Tryz.prog) w 43 179 i0 (.agg #[.string ⟨#[]⟩, .int .i64 0, .int .i64 0]) Tryz.underlying43 hi hz0 .i64 .i64 len len (by omega) (Int.le_refl _) (by rw [hz2]; omega) (by omega)
  rw [hz1, Int.toNat_natCast] at hmk
  have HM : Hid (OwnS fvG 3 179 (w.alloc (.cells (madeCells #[.string ⟨#[]⟩, .int .i64 0, .int .i64 0] (len * 3)) 179)) w.heap.size (.slice (some ⟨w.heap.size, 0, none⟩) len len) (List.replicate len default) ∧ Below w.heap.size w (w.alloc (.cells (madeCells #[.string ⟨#[]⟩, .int .i64 0, .int .i64 0] (len * 3)) 179))) := ⟨OwnS.made w _ _ len default _ zFail rfl (by omega) (Nat.le_refl _) (by unfold maxLen; omega), (Below.refl _ _).alloc (Nat.le_refl _) _⟩
  have hmk2 : (Instr.makeSlice 43 (.int .i64 (len : Int)) (.int .i64 (len : Int))).run Tryz.prog w = .ok (.slice (some ⟨w.heap.size, 0, none⟩) len len) (w.alloc (.cells (madeCells #[.string ⟨#[]⟩, .int .i64 0, .int .i64 0] (len * 3)) 179)) := hmk
  clear hmk hi hz0 hz1 hz2
  obtain ⟨W, hW⟩ : ∃ W, W = (w.alloc (.cells (madeCells #[.string ⟨#[]⟩, .int .i64 0, .int .i64 0] (len * 3)) 179)) := ⟨_, rfl⟩
  rw [← hW] at HM hmk2
  clear hW
  go_enter Tryz.func47, Tryz.ntmps47
  go_wp2
  go_loopw [4] (fun i wr => ∃ (k : Nat) (L : List FailV), k ≤ len ∧ i = .int .i64 k ∧ Hid (OwnS fvG 3 179 wr w.heap.size (.slice (some ⟨w.heap.size, 0, none⟩) len len) L ∧ L.length = len ∧ L.take k = xs.take k ∧ Below w.heap.size w wr)) (fun i _ => len - (intOf i).toNat)
  case atStart => exact ⟨0, _, Nat.zero_le _, rfl, HM.out.1, List.length_replicate .., rfl, HM.out.2⟩
  case round =>
    obtain ⟨k, L, hk, rfl, X⟩ := hrel
    by_cases hlt : k < len
    · obtain ⟨x, hx⟩ := at_of hl hlt
      obtain ⟨b, off, vs, rfl, hb, hvl, hR, hc⟩ := RW.out.at FaR.kp X.out.2.2.2 hx
      have TS : Hid ((L.set k x).take (k + 1) = xs.take (k + 1)) := takeS_set (by rw [X.out.2.1, hl]) hx X.out.2.2.1
      obtain ⟨mc, ct, un⟩ := x
      obtain ⟨rfl, hok⟩ := hR
      clear hok
      have q0 : wr.cell? ⟨b, off + k * 3, none⟩ = some (.string mc) := hc 0 _ rfl
      have q1 : wr.cell? ⟨b, off + k * 3 + 1, none⟩ = some (.int .i64 ct) := hc 1 _ rfl
      have q2 : wr.cell? ⟨b, off + k * 3 + 2, none⟩ = some (.int .i64 un) := hc 2 _ rfl
      have HT : Hid (∀ w, Calls Tryz.prog 118 #[.agg #[.string mc, .int .i64 ct, .int .i64 un]] w fun e w' => e = .returned (.agg #[.string mc, .int .i64 ct, .int .i64 un]) ∧ Below w.heap.size w w') := fun w => toFail_any mc ct un w
      have hltz : (k : Int) < (len : Int) := by omega
      clear hc
      go_wp2_with fail
      refine (HT.out _).mono ?_
      rintro e w1 ⟨rfl, b1⟩
      have o1 := X.out.1.now b1
      obtain ⟨y, hy⟩ := at_of (k := k) X.out.2.1 hlt
      obtain ⟨c0, z0⟩ := o1.cell fvG_len (j := 0) hy rfl
      obtain ⟨c1, z1⟩ := o1.cell fvG_len (j := 1) hy rfl
      obtain ⟨c2, z2⟩ := o1.cell fvG_len (j := 2) hy rfl
      replace c0 : w1.cell? ⟨w.heap.size, k * 3, none⟩ = some (.string y.mc) := c0
      replace z0 : w1.frozen? ⟨w.heap.size, k * 3, none⟩ = false := z0
      have Y0 : ∀ W1, W1 = (((w1.setCell ⟨w.heap.size, k * 3, none⟩ (.string mc)).setCell ⟨w.heap.size, k * 3 + 1, none⟩ (.int .i64 ct)).setCell ⟨w.heap.size, k * 3 + 2, none⟩ (.int .i64 un)) → OwnS fvG 3 179 W1 w.heap.size (.slice (some ⟨w.heap.size, 0, none⟩) len len) (L.set k ⟨mc, ct, un⟩) ∧ (L.set k ⟨mc, ct, un⟩).length = len ∧ (L.set k ⟨mc, ct, un⟩).take (k + 1) = xs.take (k + 1) ∧ Below w.heap.size w W1 := by
        intro W1 hW1
        have h2 := o1.store fvG_len hlt ⟨mc, ct, un⟩
        have e3 : W1 = wsets w1 w.heap.size (k * 3) (fvG ⟨mc, ct, un⟩) := hW1
        rw [← e3] at h2
        exact ⟨h2.1, by rw [List.length_set]; exact X.out.2.1, TS.out, (X.out.2.2.2.trans (b1.mono X.out.2.2.2.size)).trans (below_row h2.2 (Nat.le_refl _) (Nat.le_trans X.out.2.2.2.size b1.size))⟩
      have Y : Hid (OwnS fvG 3 179 (((w1.setCell ⟨w.heap.size, k * 3, none⟩ (.string mc)).setCell ⟨w.heap.size, k * 3 + 1, none⟩ (.int .i64 ct)).setCell ⟨w.heap.size, k * 3 + 2, none⟩ (.int .i64 un)) w.heap.size (.slice (some ⟨w.heap.size, 0, none⟩) len len) (L.set k ⟨mc, ct, un⟩) ∧ (L.set k ⟨mc, ct, un⟩).length = len ∧ (L.set k ⟨mc, ct, un⟩).take (k + 1) = xs.take (k + 1) ∧ Below w.heap.size w (((w1.setCell ⟨w.heap.size, k * 3, none⟩ (.string mc)).setCell ⟨w.heap.size, k * 3 + 1, none⟩ (.int .i64 ct)).setCell ⟨w.heap.size, k * 3 + 2, none⟩ (.int .i64 un))) := Y0 _ rfl
      clear Y0
      clear o1 b1 q0 q1 q2 HT X HM hmk2 hx hy TS
      go_wp2
      go_roundw
      case rel => exact ⟨k + 1, _, by omega, by go_num, Y⟩
      case measure => simp [intOf]; omega
    · obtain rfl : k = len := by omega
      have e1 : L = xs := by
        have := X.out.2.2.1
        rw [List.take_of_length_le (by rw [X.out.2.1]; exact Nat.le_refl _), List.take_of_length_le (by omega)] at this
        exact this
      subst e1
      go_wp2
      go_ret
      exact ⟨rfl, X.out.1, HK.out, X.out.2.2.2⟩
theorem zRecord : #[.int .i64 0, .int .i64 0, .int .i64 0, .int .i64 0, .bool false].toList = evG default := rfl
set_option maxHeartbeats 4000000 in
theorem toRecordS_own (a : Option Addr) (len cap : Nat) (xs : List RecV) (w : World) (h : Rw ReR 5 w a xs) (hl : xs.length = len) (hc : len ≤ 1048576) :
    Calls Tryz.prog 48 #[.slice a len cap] w fun e w' => e = .returned (.slice (some ⟨w.heap.size, 0, none⟩) len len) ∧ OwnS evG 5 163 w' w.heap.size (.slice (some ⟨w.heap.size, 0, none⟩) len len) xs ∧ (∀ x, x ∈ xs → ReRok x) ∧ Below w.heap.size w w' := by
  have RW : Hid (Rw ReR 5 w a xs) := h
  have HK : Hid (∀ x, x ∈ xs → ReRok x) := by
    intro x hx
    obtain ⟨i, hi⟩ := List.getElem?_of_mem hx
    obtain ⟨b, off, vs, _, _, _, h2, _⟩ := h.at ReR.kp (Below.refl _ _) hi
    exact h2.2
  clear h
  obtain ⟨i0, hi, hz0, hz1, hz2⟩ := info_parts infoRecord
  have hmk := run_make (P := Tryz.prog) w 44 163 i0 (.agg #[.int .i64 0, .int .i64 0, .int .i64 0, .int .i64 0, .bool false]) Tryz.underlying44 hi hz0 .i64 .i64 len len (by omega) (Int.le_refl _) (by rw [hz2]; omega) (by omega)
  rw [hz1, Int.toNat_natCast] at hmk
  have HM : Hid (OwnS evG 5 163 (w.alloc (.cells (madeCells #[.int .i64 0, .int .i64 0, .int .i64 0, .int .i64 0, .bool false] (len * 5)) 163)) w.heap.size (.slice (some ⟨w.heap.size, 0, none⟩) len len) (List.replicate len default) ∧ Below w.heap.size w (w.alloc (.cells (madeCells #[.int .i64 0, .int .i64 0, .int .i64 0, .int .i64 0, .bool false] (len * 5)) 163))) := ⟨OwnS.made w _ _ len default _ zRecord rfl (by omega) (Nat.le_refl _) (by unfold maxLen; omega), (Below.refl _ _).alloc (Nat.le_refl _) _⟩
  have hmk2 : (Instr.makeSlice 44 (.int .i64 (len : Int)) (.int .i64 (len : Int))).run Tryz.prog w = .ok (.slice (some ⟨w.heap.size, 0, none⟩) len len) (w.alloc (.cells (madeCells #[.int .i64 0, .int .i64 0, .int .i64 0, .int .i64 0, .bool false] (len * 5)) 163)) := hmk
  clear hmk hi hz0 hz1 hz2
  obtain ⟨W, hW⟩ : ∃ W, W = (w.alloc (.cells (madeCells #[.int .i64 0, .int .i64 0, .int .i64 0, .int .i64 0, .bool false] (len * 5)) 163)) := ⟨_, rfl⟩
  rw [← hW] at HM hmk2
  clear hW
  go_enter Tryz.func48, Tryz.ntmps48
  go_wp2
  go_loopw [4] (fun i wr => ∃ (k : Nat) (L : List RecV), k ≤ len ∧ i = .int .i64 k ∧ Hid (OwnS evG 5 163 wr w.heap.size (.slice (some ⟨w.heap.size, 0, none⟩) len len) L ∧ L.length = len ∧ L.take k = xs.take k ∧ Below w.heap.size w wr)) (fun i _ => len - (intOf i).toNat)
  case atStart => exact ⟨0, _, Nat.zero_le _, rfl, HM.out.1, List.length_replicate .., rfl, HM.out.2⟩
  case round =>
    obtain ⟨k, L, hk, rfl, X⟩ := hrel
    by_cases hlt : k < len
    · obtain ⟨x, hx⟩ := at_of hl hlt
      obtain ⟨b, off, vs, rfl, hb, hvl, hR, hc⟩ := RW.out.at ReR.kp X.out.2.2.2 hx
      have TS : Hid ((L.set k x).take (k + 1) = xs.take (k + 1)) := takeS_set (by rw [X.out.2.1, hl]) hx X.out.2.2.1
      obtain ⟨id, tm, ca, bt, st⟩ := x
      obtain ⟨rfl, hok⟩ := hR
      clear hok
      have q0 : wr.cell? ⟨b, off + k * 5, none⟩ = some (.int .i64 id) := hc 0 _ rfl
      have q1 : wr.cell? ⟨b, off + k * 5 + 1, none⟩ = some (.int .i64 tm) := hc 1 _ rfl
      have q2 : wr.cell? ⟨b, off + k * 5 + 2, none⟩ = some (.int .i64 ca) := hc 2 _ rfl
      have q3 : wr.cell? ⟨b, off + k * 5 + 3, none⟩ = some (.int .i64 bt) := hc 3 _ rfl
      have q4 : wr.cell? ⟨b, off + k * 5 + 4, none⟩ = some (.bool st) := hc 4 _ rfl
      have HT : Hid (∀ w, Calls Tryz.prog 119 #[.agg #[.int .i64 id, .int .i64 tm, .int .i64 ca, .int .i64 bt, .bool st]] w fun e w' => e = .returned (.agg #[.int .i64 id, .int .i64 tm, .int .i64 ca, .int .i64 bt, .bool st]) ∧ Below w.heap.size w w') := fun w => toRecord_any id tm ca bt st w
      have hltz : (k : Int) < (len : Int) := by omega
      clear hc
      go_wp2_with fail
      refine (HT.out _).mono ?_
      rintro e w1 ⟨rfl, b1⟩
      have o1 := X.out.1.now b1
      obtain ⟨y, hy⟩ := at_of (k := k) X.out.2.1 hlt
      obtain ⟨c0, z0⟩ := o1.cell evG_len (j := 0) hy rfl
      obtain ⟨c1, z1⟩ := o1.cell evG_len (j := 1) hy rfl
      obtain ⟨c2, z2⟩ := o1.cell evG_len (j := 2) hy rfl
      obtain ⟨c3, z3⟩ := o1.cell evG_len (j := 3) hy rfl
      obtain ⟨c4, z4⟩ := o1.cell evG_len (j := 4) hy rfl
      replace c0 : w1.cell? ⟨w.heap.size, k * 5, none⟩ = some (.int .i64 y.id) := c0
      replace z0 : w1.frozen? ⟨w.heap.size, k * 5, none⟩ = false := z0
      have Y0 : ∀ W1, W1 = (((((w1.setCell ⟨w.heap.size, k * 5, none⟩ (.int .i64 id)).setCell ⟨w.heap.size, k * 5 + 1, none⟩ (.int .i64 tm)).setCell ⟨w.heap.size, k * 5 + 2, none⟩ (.int .i64 ca)).setCell ⟨w.heap.size, k * 5 + 3, none⟩ (.int .i64 bt)).setCell ⟨w.heap.size, k * 5 + 4, none⟩ (.bool st)) → OwnS evG 5 163 W1 w.heap.size (.slice (some ⟨w.heap.size, 0, none⟩) len len) (L.set k ⟨id, tm, ca, bt, st⟩) ∧ (L.set k ⟨id, tm, ca, bt, st⟩).length = len ∧ (L.set k ⟨id, tm, ca, bt, st⟩).take (k + 1) = xs.take (k + 1) ∧ Below w.heap.size w W1 := by
        intro W1 hW1
        have h2 := o1.store evG_len hlt ⟨id, tm, ca, bt, st⟩
        have e3 : W1 = wsets w1 w.heap.size (k * 5) (evG ⟨id, tm, ca, bt, st⟩) := hW1
        rw [← e3] at h2
        exact ⟨h2.1, by rw [List.length_set]; exact X.out.2.1, TS.out, (X.out.2.2.2.trans (b1.mono X.out.2.2.2.size)).trans (below_row h2.2 (Nat.le_refl _) (Nat.le_trans X.out.2.2.2.size b1.size))⟩
      have Y : Hid (OwnS evG 5 163 (((((w1.setCell ⟨w.heap.size, k * 5, none⟩ (.int .i64 id)).setCell ⟨w.heap.size, k * 5 + 1, none⟩ (.int .i64 tm)).setCell ⟨w.heap.size, k * 5 + 2, none⟩ (.int .i64 ca)).setCell ⟨w.heap.size, k * 5 + 3, none⟩ (.int .i64 bt)).setCell ⟨w.heap.size, k * 5 + 4, none⟩ (.bool st)) w.heap.size (.slice (some ⟨w.heap.size, 0, none⟩) len len) (L.set k ⟨id, tm, ca, bt, st⟩) ∧ (L.set k ⟨id, tm, ca, bt, st⟩).length = len ∧ (L.set k ⟨id, tm, ca, bt, st⟩).take (k + 1) = xs.take (k + 1) ∧ Below w.heap.size w (((((w1.setCell ⟨w.heap.size, k * 5, none⟩ (.int .i64 id)).setCell ⟨w.heap.size, k * 5 + 1, none⟩ (.int .i64 tm)).setCell ⟨w.heap.size, k * 5 + 2, none⟩ (.int .i64 ca)).setCell ⟨w.heap.size, k * 5 + 3, none⟩ (.int .i64 bt)).setCell ⟨w.heap.size, k * 5 + 4, none⟩ (.bool st))) := Y0 _ rfl
      clear Y0
      clear o1 b1 q0 q1 q2 q3 q4 HT X HM hmk2 hx hy TS
      go_wp2
      go_roundw
      case rel => exact ⟨k + 1, _, by omega, by go_num, Y⟩
      case measure => simp [intOf]; omega
    · obtain rfl : k = len := by omega
      have e1 : L = xs := by
        have := X.out.2.2.1
        rw [List.take_of_length_le (by rw [X.out.2.1]; exact Nat.le_refl _), List.take_of_length_le (by omega)] at this
        exact this
      subst e1
      go_wp2
      go_ret
      exact ⟨rfl, X.out.1, HK.out, X.out.2.2.2⟩
end Go.Proofs.YtlebblmlbhnppaaGreat

namespace Go.Proofs.YtlebblmlbhnppaaGreat
open Go.RowKit Go.PlainAid Go.Proofs.YtlebblmlbhnppaaGreat.Bt Go.Sort
set_option linter.unusedVariables false
set_option maxRecDepth 20000
theorem oneUser (ys : List UserV) : ∀ u ∈ flatS uvG ys, u.oneCell' = true := by
  intro u hu
  unfold flatS at hu
  rw [List.mem_flatMap] at hu
  obtain ⟨f, _, hf⟩ := hu
  simp [uvG] at hf
  rcases hf with rfl | rfl | rfl | rfl | rfl | rfl <;> rfl
/-- 'append(row, ys...)'. -/
theorem wpl_User (w : World) {ops : Array Oper} {rest : List Oper} {o : Oper} {a : Act} {Q : Exit → Act → World → Prop} (hgd : o.guard = none) (s x : Operand)
    (ho : o.op = .call { callee := .builtin .append, args := #[s, x], argTypes := #[41, 41] })
    (B : Nat) (v : Value) (L ys : List UserV) (hs : a.eval s = v) (hown : OwnS uvG 6 144 w B v L)
    (g off m c : Nat) (hm : ys.length = m) (hx : a.eval x = .slice (some ⟨g, off, none⟩) m c) (hc : ∀ j u, (flatS uvG ys)[j]? = some u → w.cell? ⟨g, off + j, none⟩ = some u)
    (hlen : L.length + m ≤ 2000000) (hB : B ≤ w.heap.size)
    (h : ∀ v' w', Hid (OwnS uvG 6 144 w' B v' (L ++ ys) ∧ Below B w w') → w.grownBy w' v.ownBlock → wpList Tryz.prog ops Q rest (a.put o.dst v') w') : wpList Tryz.prog ops Q (o :: rest) a w := by
  obtain ⟨i0, hi, hz0, hz1, hz2⟩ := info_parts infoUser
  refine wpList_append_own w hgd s x 41 ho B 144 i0 (.agg #[.string ⟨#[]⟩, .string ⟨#[]⟩, .string ⟨#[]⟩, .string ⟨#[]⟩, .int .i64 0, .int .i64 0]) 6 80 Tryz.underlying41 hi hz0 hz1 hz2 rfl (by decide) v L.length (flatS uvG L) hs hown ⟨g, off, none⟩ m c (flatS uvG ys) hx (by rw [flatS_len uvG_len, hm]) ?_
    (oneUser ys) (by unfold maxLen; omega) (by omega) hB ?_
  · intro j u hu
    rw [addn]
    exact hc j u hu
  · intro v' w' h2 h3 _
    subst hm
    exact h v' w' (hown.join hB h2 h3) h3
/-- The same, of what may be nil. -/
theorem wpl_UserS (w : World) {ops : Array Oper} {rest : List Oper} {o : Oper} {a : Act} {Q : Exit → Act → World → Prop} (hgd : o.guard = none) (s x : Operand)
    (ho : o.op = .call { callee := .builtin .append, args := #[s, x], argTypes := #[41, 41] })
    (B : Nat) (v : Value) (L ys : List UserV) (hs : a.eval s = v) (hown : OwnS uvG 6 144 w B v L)
    (p : Option Addr) (m c : Nat) (hrw : Rw UsR 6 w p ys) (hm : ys.length = m) (hsp : ∀ q, p = some q → q.spot = none) (hnil : p = none → m = 0 ∧ c = 0) (hx : a.eval x = .slice p m c)
    (hlen : L.length + m ≤ 2000000) (hB : B ≤ w.heap.size)
    (h : ∀ v' w', Hid (OwnS uvG 6 144 w' B v' (L ++ ys) ∧ Below B w w') → w.grownBy w' v.ownBlock → wpList Tryz.prog ops Q rest (a.put o.dst v') w') : wpList Tryz.prog ops Q (o :: rest) a w := by
  cases p with
  | some q =>
    obtain ⟨b, off, pt⟩ := q
    obtain rfl : pt = none := hsp _ rfl
    have h' : Rw (FR uvG UsRok) 6 w (some ⟨b, off, none⟩) ys := hrw
    exact wpl_User w hgd s x ho B v L ys hs hown b off m c hm hx (flat_rw h' uvG_len (by omega)) hlen hB h
  | none =>
    obtain ⟨rfl, rfl⟩ := hnil rfl
    obtain rfl : ys = [] := List.length_eq_zero_iff.1 hm
    obtain ⟨i0, hi, hz0, hz1, hz2⟩ := info_parts infoUser
    refine wpList_append_own_none hgd s x 41 ho B 144 i0 6 Tryz.underlying41 hi v L.length (flatS uvG L) hs hown hx (h v w ?_ (grown_refl w _))
    rw [List.append_nil]
    exact ⟨hown, Below.refl _ _⟩
/-- slices.Clone. -/
theorem cloneUser_some (b off len cap : Nat) (xs : List UserV) (w : World) (h : Rw UsR 6 w (some ⟨b, off, none⟩) xs) (hl : xs.length = len) (hm : len ≤ 1048576) (hc : len ≤ cap) :
    Calls Tryz.prog 192 #[.slice (some ⟨b, off, none⟩) len cap] w fun e w' => ∃ v, e = .returned v ∧ OwnS uvG 6 144 w' w.heap.size v xs ∧ Below w.heap.size w w' := by
  have h' : Rw (FR uvG UsRok) 6 w (some ⟨b, off, none⟩) xs := h
  have RC : Hid (∀ j u, (flatS uvG xs)[j]? = some u → w.cell? ⟨b, off + j, none⟩ = some u) := flat_rw h' uvG_len (by omega)
  have q22 : (binOp .eql 41 (.slice (some ⟨b, off, none⟩) len cap) (.slice none 0 0)).run Tryz.prog w = .ok (.bool false) w := Lib.run_eql_slice_nil w _ _ (some ⟨b, off, none⟩) len cap 0 0 Tryz.underlying41
  clear h h'
  go_enter Tryz.func192, Tryz.ntmps192
  go_wp2_with (at_builtin; refine wpl_User _ rfl (.tmp 5) (.tmp 6) rfl w.heap.size _ [] xs rfl (OwnS.lit w _ (Nat.le_refl _)) b off len cap hl rfl (fun j u hu => acell (RC.out j u hu) _) (by simp; omega) (by simp) ?_; intro v' w3 Y _)
  have Y2 : Hid (OwnS uvG 6 144 w3 w.heap.size v' xs ∧ Below w.heap.size w w3) := ⟨Y.out.1, ((Below.refl _ _).alloc (Nat.le_refl _) _).trans Y.out.2⟩
  clear Y
  go_wp2
  go_ret
  exact ⟨_, rfl, Y2.out.1, Y2.out.2⟩
theorem cloneUser_any (a : Option Addr) (len cap : Nat) (xs : List UserV) (w : World) (h : Rw UsR 6 w a xs) (hl : xs.length = len) (hm : len ≤ 1048576) (hc : len ≤ cap) (ha : ∀ p, a = some p → p.spot = none) (hn : a = none → len = 0 ∧ cap = 0) :
    Calls Tryz.prog 192 #[.slice a len cap] w fun e w' => ∃ v, e = .returned v ∧ OwnS uvG 6 144 w' w.heap.size v xs ∧ Below w.heap.size w w' := by
  cases a with
  | some p =>
    obtain ⟨b, off, pt⟩ := p
    obtain rfl : pt = none := ha _ rfl
    exact cloneUser_some b off len cap xs w h hl hm hc
  | none =>
    obtain ⟨rfl, rfl⟩ := hn rfl
    obtain rfl : xs = [] := List.length_eq_zero_iff.1 hl
    have q22 : (binOp .eql 41 (.slice none 0 0) (.slice none 0 0)).run Tryz.prog w = .ok (.bool true) w := Lib.run_eql_slice_nil w _ _ none 0 0 0 0 Tryz.underlying41
    go_enter Tryz.func192, Tryz.ntmps192
    go_wp2
    go_ret
    exact ⟨_, rfl, OwnS.nil _ _, Below.refl _ _⟩
theorem oneSession (ys : List SessV) : ∀ u ∈ flatS svG ys, u.oneCell' = true := by
  intro u hu
  unfold flatS at hu
  rw [List.mem_flatMap] at hu
  obtain ⟨f, _, hf⟩ := hu
  simp [svG] at hf
  rcases hf with rfl | rfl | rfl | rfl | rfl | rfl | rfl | rfl | rfl | rfl <;> rfl
/-- 'append(row, ys...)'. -/
theorem wpl_Session (w : World) {ops : Array Oper} {rest : List Oper} {o : Oper} {a : Act} {Q : Exit → Act → World → Prop} (hgd : o.guard = none) (s x : Operand)
    (ho : o.op = .call { callee := .builtin .append, args := #[s, x], argTypes := #[42, 42] })
    (B : Nat) (v : Value) (L ys : List SessV) (hs : a.eval s = v) (hown : OwnS svG 10 137 w B v L)
    (g off m c : Nat) (hm : ys.length = m) (hx : a.eval x = .slice (some ⟨g, off, none⟩) m c) (hc : ∀ j u, (flatS svG ys)[j]? = some u → w.cell? ⟨g, off + j, none⟩ = some u)
    (hlen : L.length + m ≤ 2000000) (hB : B ≤ w.heap.size)
    (h : ∀ v' w', Hid (OwnS svG 10 137 w' B v' (L ++ ys) ∧ Below B w w') → w.grownBy w' v.ownBlock → wpList Tryz.prog ops Q rest (a.put o.dst v') w') : wpList Tryz.prog ops Q (o :: rest) a w := by
  obtain ⟨i0, hi, hz0, hz1, hz2⟩ := info_parts infoSession
  refine wpList_append_own w hgd s x 42 ho B 137 i0 (.agg #[.int .i64 0, .int .i64 0, .string ⟨#[]⟩, .int .i64 0, .int .i64 0, .int .i64 0, .int .i64 0, .int .i64 0, .int .i64 0, .int .i64 0]) 10 88 Tryz.underlying42 hi hz0 hz1 hz2 rfl (by decide) v L.length (flatS svG L) hs hown ⟨g, off, none⟩ m c (flatS svG ys) hx (by rw [flatS_len svG_len, hm]) ?_
    (oneSession ys) (by unfold maxLen; omega) (by omega) hB ?_
  · intro j u hu
    rw [addn]
    exact hc j u hu
  · intro v' w' h2 h3 _
    subst hm
    exact h v' w' (hown.join hB h2 h3) h3
/-- The same, of what may be nil. -/
theorem wpl_SessionS (w : World) {ops : Array Oper} {rest : List Oper} {o : Oper} {a : Act} {Q : Exit → Act → World → Prop} (hgd : o.guard = none) (s x : Operand)
    (ho : o.op = .call { callee := .builtin .append, args := #[s, x], argTypes := #[42, 42] })
    (B : Nat) (v : Value) (L ys : List SessV) (hs : a.eval s = v) (hown : OwnS svG 10 137 w B v L)
    (p : Option Addr) (m c : Nat) (hrw : Rw SeR 10 w p ys) (hm : ys.length = m) (hsp : ∀ q, p = some q → q.spot = none) (hnil : p = none → m = 0 ∧ c = 0) (hx : a.eval x = .slice p m c)
    (hlen : L.length + m ≤ 2000000) (hB : B ≤ w.heap.size)
    (h : ∀ v' w', Hid (OwnS svG 10 137 w' B v' (L ++ ys) ∧ Below B w w') → w.grownBy w' v.ownBlock → wpList Tryz.prog ops Q rest (a.put o.dst v') w') : wpList Tryz.prog ops Q (o :: rest) a w := by
  cases p with
  | some q =>
    obtain ⟨b, off, pt⟩ := q
    obtain rfl : pt = none := hsp _ rfl
    have h' : Rw (FR svG SeRok) 10 w (some ⟨b, off, none⟩) ys := hrw
    exact wpl_Session w hgd s x ho B v L ys hs hown b off m c hm hx (flat_rw h' svG_len (by omega)) hlen hB h
  | none =>
    obtain ⟨rfl, rfl⟩ := hnil rfl
    obtain rfl : ys = [] := List.length_eq_zero_iff.1 hm
    obtain ⟨i0, hi, hz0, hz1, hz2⟩ := info_parts infoSession
    refine wpList_append_own_none hgd s x 42 ho B 137 i0 10 Tryz.underlying42 hi v L.length (flatS svG L) hs hown hx (h v w ?_ (grown_refl w _))
    rw [List.append_nil]
    exact ⟨hown, Below.refl _ _⟩
/-- slices.Clone. -/
theorem cloneSession_some (b off len cap : Nat) (xs : List SessV) (w : World) (h : Rw SeR 10 w (some ⟨b, off, none⟩) xs) (hl : xs.length = len) (hm : len ≤ 1048576) (hc : len ≤ cap) :
    Calls Tryz.prog 193 #[.slice (some ⟨b, off, none⟩) len cap] w fun e w' => ∃ v, e = .returned v ∧ OwnS svG 10 137 w' w.heap.size v xs ∧ Below w.heap.size w w' := by
  have h' : Rw (FR svG SeRok) 10 w (some ⟨b, off, none⟩) xs := h
  have RC : Hid (∀ j u, (flatS svG xs)[j]? = some u → w.cell? ⟨b, off + j, none⟩ = some u) := flat_rw h' svG_len (by omega)
  have q22 : (binOp .eql 42 (.slice (some ⟨b, off, none⟩) len cap) (.slice none 0 0)).run Tryz.prog w = .ok (.bool false) w := Lib.run_eql_slice_nil w _ _ (some ⟨b, off, none⟩) len cap 0 0 Tryz.underlying42
  clear h h'
  go_enter Tryz.func193, Tryz.ntmps193
  go_wp2_with (at_builtin; refine wpl_Session _ rfl (.tmp 5) (.tmp 6) rfl w.heap.size _ [] xs rfl (OwnS.lit w _ (Nat.le_refl _)) b off len cap hl rfl (fun j u hu => acell (RC.out j u hu) _) (by simp; omega) (by simp) ?_; intro v' w3 Y _)
  have Y2 : Hid (OwnS svG 10 137 w3 w.heap.size v' xs ∧ Below w.heap.size w w3) := ⟨Y.out.1, ((Below.refl _ _).alloc (Nat.le_refl _) _).trans Y.out.2⟩
  clear Y
  go_wp2
  go_ret
  exact ⟨_, rfl, Y2.out.1, Y2.out.2⟩
theorem cloneSession_any (a : Option Addr) (len cap : Nat) (xs : List SessV) (w : World) (h : Rw SeR 10 w a xs) (hl : xs.length = len) (hm : len ≤ 1048576) (hc : len ≤ cap) (ha : ∀ p, a = some p → p.spot = none) (hn : a = none → len = 0 ∧ cap = 0) :
    Calls Tryz.prog 193 #[.slice a len cap] w fun e w' => ∃ v, e = .returned v ∧ OwnS svG 10 137 w' w.heap.size v xs ∧ Below w.heap.size w w' := by
  cases a with
  | some p =>
    obtain ⟨b, off, pt⟩ := p
    obtain rfl : pt = none := ha _ rfl
    exact cloneSession_some b off len cap xs w h hl hm hc
  | none =>
    obtain ⟨rfl, rfl⟩ := hn rfl
    obtain rfl : xs = [] := List.length_eq_zero_iff.1 hl
    have q22 : (binOp .eql 42 (.slice none 0 0) (.slice none 0 0)).run Tryz.prog w = .ok (.bool true) w := Lib.run_eql_slice_nil w _ _ none 0 0 0 0 Tryz.underlying42
    go_enter Tryz.func193, Tryz.ntmps193
    go_wp2
    go_ret
    exact ⟨_, rfl, OwnS.nil _ _, Below.refl _ _⟩
theorem oneFail (ys : List FailV) : ∀ u ∈ flatS fvG ys, u.oneCell' = true := by
  intro u hu
  unfold flatS at hu
  rw [List.mem_flatMap] at hu
  obtain ⟨f, _, hf⟩ := hu
  simp [fvG] at hf
  rcases hf with rfl | rfl | rfl <;> rfl
/-- 'append(row, ys...)'. -/
theorem wpl_Fail (w : World) {ops : Array Oper} {rest : List Oper} {o : Oper} {a : Act} {Q : Exit → Act → World → Prop} (hgd : o.guard = none) (s x : Operand)
    (ho : o.op = .call { callee := .builtin .append, args := #[s, x], argTypes := #[43, 43] })
    (B : Nat) (v : Value) (L ys : List FailV) (hs : a.eval s = v) (hown : OwnS fvG 3 179 w B v L)
    (g off m c : Nat) (hm : ys.length = m) (hx : a.eval x = .slice (some ⟨g, off, none⟩) m c) (hc : ∀ j u, (flatS fvG ys)[j]? = some u → w.cell? ⟨g, off + j, none⟩ = some u)
    (hlen : L.length + m ≤ 2000000) (hB : B ≤ w.heap.size)
    (h : ∀ v' w', Hid (OwnS fvG 3 179 w' B v' (L ++ ys) ∧ Below B w w') → w.grownBy w' v.ownBlock → wpList Tryz.prog ops Q rest (a.put o.dst v') w') : wpList Tryz.prog ops Q (o :: rest) a w := by
  obtain ⟨i0, hi, hz0, hz1, hz2⟩ := info_parts infoFail
  refine wpList_append_own w hgd s x 43 ho B 179 i0 (.agg #[.string ⟨#[]⟩, .int .i64 0, .int .i64 0]) 3 32 Tryz.underlying43 hi hz0 hz1 hz2 rfl (by decide) v L.length (flatS fvG L) hs hown ⟨g, off, none⟩ m c (flatS fvG ys) hx (by rw [flatS_len fvG_len, hm]) ?_
    (oneFail ys) (by unfold maxLen; omega) (by omega) hB ?_
  · intro j u hu
    rw [addn]
    exact hc j u hu
  · intro v' w' h2 h3 _
    subst hm
    exact h v' w' (hown.join hB h2 h3) h3
/-- The same, of what may be nil. -/
theorem wpl_FailS (w : World) {ops : Array Oper} {rest : List Oper} {o : Oper} {a : Act} {Q : Exit → Act → World → Prop} (hgd : o.guard = none) (s x : Operand)
    (ho : o.op = .call { callee := .builtin .append, args := #[s, x], argTypes := #[43, 43] })
    (B : Nat) (v : Value) (L ys : List FailV) (hs : a.eval s = v) (hown : OwnS fvG 3 179 w B v L)
    (p : Option Addr) (m c : Nat) (hrw : Rw FaR 3 w p ys) (hm : ys.length = m) (hsp : ∀ q, p = some q → q.spot = none) (hnil : p = none → m = 0 ∧ c = 0) (hx : a.eval x = .slice p m c)
    (hlen : L.length + m ≤ 2000000) (hB : B ≤ w.heap.size)
    (h : ∀ v' w', Hid (OwnS fvG 3 179 w' B v' (L ++ ys) ∧ Below B w w') → w.grownBy w' v.ownBlock → wpList Tryz.prog ops Q rest (a.put o.dst v') w') : wpList Tryz.prog ops Q (o :: rest) a w := by
  cases p with
  | some q =>
    obtain ⟨b, off, pt⟩ := q
    obtain rfl : pt = none := hsp _ rfl
    have h' : Rw (FR fvG FaRok) 3 w (some ⟨b, off, none⟩) ys := hrw
    exact wpl_Fail w hgd s x ho B v L ys hs hown b off m c hm hx (flat_rw h' fvG_len (by omega)) hlen hB h
  | none =>
    obtain ⟨rfl, rfl⟩ := hnil rfl
    obtain rfl : ys = [] := List.length_eq_zero_iff.1 hm
    obtain ⟨i0, hi, hz0, hz1, hz2⟩ := info_parts infoFail
    refine wpList_append_own_none hgd s x 43 ho B 179 i0 3 Tryz.underlying43 hi v L.length (flatS fvG L) hs hown hx (h v w ?_ (grown_refl w _))
    rw [List.append_nil]
    exact ⟨hown, Below.refl _ _⟩
/-- slices.Clone. -/
theorem cloneFail_some (b off len cap : Nat) (xs : List FailV) (w : World) (h : Rw FaR 3 w (some ⟨b, off, none⟩) xs) (hl : xs.length = len) (hm : len ≤ 1048576) (hc : len ≤ cap) :
    Calls Tryz.prog 194 #[.slice (some ⟨b, off, none⟩) len cap] w fun e w' => ∃ v, e = .returned v ∧ OwnS fvG 3 179 w' w.heap.size v xs ∧ Below w.heap.size w w' := by
  have h' : Rw (FR fvG FaRok) 3 w (some ⟨b, off, none⟩) xs := h
  have RC : Hid (∀ j u, (flatS fvG xs)[j]? = some u → w.cell? ⟨b, off + j, none⟩ = some u) := flat_rw h' fvG_len (by omega)
  have q22 : (binOp .eql 43 (.slice (some ⟨b, off, none⟩) len cap) (.slice none 0 0)).run Tryz.prog w = .ok (.bool false) w := Lib.run_eql_slice_nil w _ _ (some ⟨b, off, none⟩) len cap 0 0 Tryz.underlying43
  clear h h'
  go_enter Tryz.func194, Tryz.ntmps194
  go_wp2_with (at_builtin; refine wpl_Fail _ rfl (.tmp 5) (.tmp 6) rfl w.heap.size _ [] xs rfl (OwnS.lit w _ (Nat.le_refl _)) b off len cap hl rfl (fun j u hu => acell (RC.out j u hu) _) (by simp; omega) (by simp) ?_; intro v' w3 Y _)
  have Y2 : Hid (OwnS fvG 3 179 w3 w.heap.size v' xs ∧ Below w.heap.size w w3) := ⟨Y.out.1, ((Below.refl _ _).alloc (Nat.le_refl _) _).trans Y.out.2⟩
  clear Y
  go_wp2
  go_ret
  exact ⟨_, rfl, Y2.out.1, Y2.out.2⟩
theorem cloneFail_any (a : Option Addr) (len cap : Nat) (xs : List FailV) (w : World) (h : Rw FaR 3 w a xs) (hl : xs.length = len) (hm : len ≤ 1048576) (hc : len ≤ cap) (ha : ∀ p, a = some p → p.spot = none) (hn : a = none → len = 0 ∧ cap = 0) :
    Calls Tryz.prog 194 #[.slice a len cap] w fun e w' => ∃ v, e = .returned v ∧ OwnS fvG 3 179 w' w.heap.size v xs ∧ Below w.heap.size w w' := by
  cases a with
  | some p =>
    obtain ⟨b, off, pt⟩ := p
    obtain rfl : pt = none := ha _ rfl
    exact cloneFail_some b off len cap xs w h hl hm hc
  | none =>
    obtain ⟨rfl, rfl⟩ := hn rfl
    obtain rfl : xs = [] := List.length_eq_zero_iff.1 hl
    have q22 : (binOp .eql 43 (.slice none 0 0) (.slice none 0 0)).run Tryz.prog w = .ok (.bool true) w := Lib.run_eql_slice_nil w _ _ none 0 0 0 0 Tryz.underlying43
    go_enter Tryz.func194, Tryz.ntmps194
    go_wp2
    go_ret
    exact ⟨_, rfl, OwnS.nil _ _, Below.refl _ _⟩
theorem oneRecord (ys : List RecV) : ∀ u ∈ flatS evG ys, u.oneCell' = true := by
  intro u hu
  unfold flatS at hu
  rw [List.mem_flatMap] at hu
  obtain ⟨f, _, hf⟩ := hu
  simp [evG] at hf
  rcases hf with rfl | rfl | rfl | rfl | rfl <;> rfl
/-- 'append(row, ys...)'. -/
theorem wpl_Record (w : World) {ops : Array Oper} {rest : List Oper} {o : Oper} {a : Act} {Q : Exit → Act → World → Prop} (hgd : o.guard = none) (s x : Operand)
    (ho : o.op = .call { callee := .builtin .append, args := #[s, x], argTypes := #[44, 44] })
    (B : Nat) (v : Value) (L ys : List RecV) (hs : a.eval s = v) (hown : OwnS evG 5 163 w B v L)
    (g off m c : Nat) (hm : ys.length = m) (hx : a.eval x = .slice (some ⟨g, off, none⟩) m c) (hc : ∀ j u, (flatS evG ys)[j]? = some u → w.cell? ⟨g, off + j, none⟩ = some u)
    (hlen : L.length + m ≤ 2000000) (hB : B ≤ w.heap.size)
    (h : ∀ v' w', Hid (OwnS evG 5 163 w' B v' (L ++ ys) ∧ Below B w w') → w.grownBy w' v.ownBlock → wpList Tryz.prog ops Q rest (a.put o.dst v') w') : wpList Tryz.prog ops Q (o :: rest) a w := by
  obtain ⟨i0, hi, hz0, hz1, hz2⟩ := info_parts infoRecord
  refine wpList_append_own w hgd s x 44 ho B 163 i0 (.agg #[.int .i64 0, .int .i64 0, .int .i64 0, .int .i64 0, .bool false]) 5 40 Tryz.underlying44 hi hz0 hz1 hz2 rfl (by decide) v L.length (flatS evG L) hs hown ⟨g, off, none⟩ m c (flatS evG ys) hx (by rw [flatS_len evG_len, hm]) ?_
    (oneRecord ys) (by unfold maxLen; omega) (by omega) hB ?_
  · intro j u hu
    rw [addn]
    exact hc j u hu
  · intro v' w' h2 h3 _
    subst hm
    exact h v' w' (hown.join hB h2 h3) h3
/-- The same, of what may be nil. -/
theorem wpl_RecordS (w : World) {ops : Array Oper} {rest : List Oper} {o : Oper} {a : Act} {Q : Exit → Act → World → Prop} (hgd : o.guard = none) (s x : Operand)
    (ho : o.op = .call { callee := .builtin .append, args := #[s, x], argTypes := #[44, 44] })
    (B : Nat) (v : Value) (L ys : List RecV) (hs : a.eval s = v) (hown : OwnS evG 5 163 w B v L)
    (p : Option Addr) (m c : Nat) (hrw : Rw ReR 5 w p ys) (hm : ys.length = m) (hsp : ∀ q, p = some q → q.spot = none) (hnil : p = none → m = 0 ∧ c = 0) (hx : a.eval x = .slice p m c)
    (hlen : L.length + m ≤ 2000000) (hB : B ≤ w.heap.size)
    (h : ∀ v' w', Hid (OwnS evG 5 163 w' B v' (L ++ ys) ∧ Below B w w') → w.grownBy w' v.ownBlock → wpList Tryz.prog ops Q rest (a.put o.dst v') w') : wpList Tryz.prog ops Q (o :: rest) a w := by
  cases p with
  | some q =>
    obtain ⟨b, off, pt⟩ := q
    obtain rfl : pt = none := hsp _ rfl
    have h' : Rw (FR evG ReRok) 5 w (some ⟨b, off, none⟩) ys := hrw
    exact wpl_Record w hgd s x ho B v L ys hs hown b off m c hm hx (flat_rw h' evG_len (by omega)) hlen hB h
  | none =>
    obtain ⟨rfl, rfl⟩ := hnil rfl
    obtain rfl : ys = [] := List.length_eq_zero_iff.1 hm
    obtain ⟨i0, hi, hz0, hz1, hz2⟩ := info_parts infoRecord
    refine wpList_append_own_none hgd s x 44 ho B 163 i0 5 Tryz.underlying44 hi v L.length (flatS evG L) hs hown hx (h v w ?_ (grown_refl w _))
    rw [List.append_nil]
    exact ⟨hown, Below.refl _ _⟩
/-- slices.Clone. -/
theorem cloneRecord_some (b off len cap : Nat) (xs : List RecV) (w : World) (h : Rw ReR 5 w (some ⟨b, off, none⟩) xs) (hl : xs.length = len) (hm : len ≤ 1048576) (hc : len ≤ cap) :
    Calls Tryz.prog 195 #[.slice (some ⟨b, off, none⟩) len cap] w fun e w' => ∃ v, e = .returned v ∧ OwnS evG 5 163 w' w.heap.size v xs ∧ Below w.heap.size w w' := by
  have h' : Rw (FR evG ReRok) 5 w (some ⟨b, off, none⟩) xs := h
  have RC : Hid (∀ j u, (flatS evG xs)[j]? = some u → w.cell? ⟨b, off + j, none⟩ = some u) := flat_rw h' evG_len (by omega)
  have q22 : (binOp .eql 44 (.slice (some ⟨b, off, none⟩) len cap) (.slice none 0 0)).run Tryz.prog w = .ok (.bool false) w := Lib.run_eql_slice_nil w _ _ (some ⟨b, off, none⟩) len cap 0 0 Tryz.underlying44
  clear h h'
  go_enter Tryz.func195, Tryz.ntmps195
  go_wp2_with (at_builtin; refine wpl_Record _ rfl (.tmp 5) (.tmp 6) rfl w.heap.size _ [] xs rfl (OwnS.lit w _ (Nat.le_refl _)) b off len cap hl rfl (fun j u hu => acell (RC.out j u hu) _) (by simp; omega) (by simp) ?_; intro v' w3 Y _)
  have Y2 : Hid (OwnS evG 5 163 w3 w.heap.size v' xs ∧ Below w.heap.size w w3) := ⟨Y.out.1, ((Below.refl _ _).alloc (Nat.le_refl _) _).trans Y.out.2⟩
  clear Y
  go_wp2
  go_ret
  exact ⟨_, rfl, Y2.out.1, Y2.out.2⟩
theorem cloneRecord_any (a : Option Addr) (len cap : Nat) (xs : List RecV) (w : World) (h : Rw ReR 5 w a xs) (hl : xs.length = len) (hm : len ≤ 1048576) (hc : len ≤ cap) (ha : ∀ p, a = some p → p.spot = none) (hn : a = none → len = 0 ∧ cap = 0) :
    Calls Tryz.prog 195 #[.slice a len cap] w fun e w' => ∃ v, e = .returned v ∧ OwnS evG 5 163 w' w.heap.size v xs ∧ Below w.heap.size w w' := by
  cases a with
  | some p =>
    obtain ⟨b, off, pt⟩ := p
    obtain rfl : pt = none := ha _ rfl
    exact cloneRecord_some b off len cap xs w h hl hm hc
  | none =>
    obtain ⟨rfl, rfl⟩ := hn rfl
    obtain rfl : xs = [] := List.length_eq_zero_iff.1 hl
    have q22 : (binOp .eql 44 (.slice none 0 0) (.slice none 0 0)).run Tryz.prog w = .ok (.bool true) w := Lib.run_eql_slice_nil w _ _ none 0 0 0 0 Tryz.underlying44
    go_enter Tryz.func195, Tryz.ntmps195
    go_wp2
    go_ret
    exact ⟨_, rfl, OwnS.nil _ _, Below.refl _ _⟩
end Go.Proofs.YtlebblmlbhnppaaGreat

namespace Go.Proofs.YtlebblmlbhnppaaGreat
open Go.RowKit Go.PlainAid Go.Proofs.YtlebblmlbhnppaaGreat.Bt Go.Sort
set_option linter.unusedVariables false
set_option maxRecDepth 20000
set_option maxHeartbeats 4000000 in
theorem filtSess_any (a : Option Addr) (n c : Nat) (xs : List SessV) (gf : Nat) (p0 : Value) (p : SessV → Bool) (w : World) (h : Rw SeR 10 w a xs) (hl : xs.length = n) (hn : n ≤ 1048576)
    (eg : ∀ args w, (callFunc gf args).run Tryz.prog w = .ok (.enter gf args) w)
    (hg : ∀ z, z ∈ xs → ∀ W, Below w.heap.size w W → Calls Tryz.prog gf #[.agg #[.int .i64 z.id, .int .i64 z.us, .string z.mc, .int .i64 z.ip, .int .i64 z.be, .int .i64 z.la, .int .i64 z.ud, .int .i64 z.qu, .int .i64 z.un, .int .i64 z.il], p0] W fun e w' => e = .returned (.bool (p z)) ∧ Below W.heap.size W w') :
    Calls Tryz.prog 97 #[.slice a n c, .func (.func gf) #[] #[p0]] w fun e w' => ∃ v, e = .returned v ∧ OwnS svG 10 137 w' w.heap.size v (xs.filter p) ∧ Below w.heap.size w w' := by
  have RW : Hid (Rw SeR 10 w a xs) := h
  have HC : Hid (∀ z, z ∈ xs → ∀ W, Below w.heap.size w W → Calls Tryz.prog gf #[.agg #[.int .i64 z.id, .int .i64 z.us, .string z.mc, .int .i64 z.ip, .int .i64 z.be, .int .i64 z.la, .int .i64 z.ud, .int .i64 z.qu, .int .i64 z.un, .int .i64 z.il], p0] W fun e w' => e = .returned (.bool (p z)) ∧ Below W.heap.size W w') := hg
  clear h hg
  have O0 : Hid (OwnS svG 10 137 w w.heap.size (.slice none 0 0) ([] : List SessV) ∧ Below w.heap.size w w) := ⟨OwnS.nil w _, Below.refl _ _⟩
  go_enter Tryz.func97, Tryz.ntmps97
  go_wp2
  go_loopw [5, 10] (fun v u wr => ∃ k : Nat, k ≤ n ∧ u = .int .i64 k ∧ Hid (OwnS svG 10 137 wr w.heap.size v ((xs.take k).filter p) ∧ Below w.heap.size w wr)) (fun _ u _ => n - (intOf u).toNat)
  case atStart => exact ⟨0, Nat.zero_le _, rfl, O0⟩
  case round =>
    obtain ⟨k, hk, rfl, X⟩ := hrel
    clear O0
    by_cases hlt : k < n
    · obtain ⟨z, hx⟩ := at_of hl hlt
      have hltz : (k : Int) < (n : Int) := by omega
      obtain ⟨b, off, vs, rfl, hb, hvl, hR, hc⟩ := RW.out.at SeR.kp X.out.2 hx
      have HY : Hid (p z = true → (xs.take (k + 1)).filter p = (xs.take k).filter p ++ [z]) := fun h => flt_yes hx h
      have HN : Hid (p z = false → (xs.take (k + 1)).filter p = (xs.take k).filter p) := fun h => flt_no hx h
      have hwl : Hid (((xs.take k).filter p).length ≤ 1048576) := Nat.le_trans (flt_len p xs k) (by omega)
      have HCx : Hid (∀ (W : World), Below w.heap.size w W → Calls Tryz.prog gf #[.agg #[.int .i64 z.id, .int .i64 z.us, .string z.mc, .int .i64 z.ip, .int .i64 z.be, .int .i64 z.la, .int .i64 z.ud, .int .i64 z.qu, .int .i64 z.un, .int .i64 z.il], p0] W fun e w' => e = .returned (.bool (p z)) ∧ Below W.heap.size W w') := fun W hW => HC.out z (List.mem_of_getElem? hx) W hW
      obtain ⟨rfl, -⟩ := hR
      have q0 : wr.cell? ⟨b, off + k * 10, none⟩ = some (.int .i64 z.id) := hc 0 _ rfl
      have q1 : wr.cell? ⟨b, off + k * 10 + 1, none⟩ = some (.int .i64 z.us) := hc 1 _ rfl
      have q2 : wr.cell? ⟨b, off + k * 10 + 2, none⟩ = some (.string z.mc) := hc 2 _ rfl
      have q3 : wr.cell? ⟨b, off + k * 10 + 3, none⟩ = some (.int .i64 z.ip) := hc 3 _ rfl
      have q4 : wr.cell? ⟨b, off + k * 10 + 4, none⟩ = some (.int .i64 z.be) := hc 4 _ rfl
      have q5 : wr.cell? ⟨b, off + k * 10 + 5, none⟩ = some (.int .i64 z.la) := hc 5 _ rfl
      have q6 : wr.cell? ⟨b, off + k * 10 + 6, none⟩ = some (.int .i64 z.ud) := hc 6 _ rfl
      have q7 : wr.cell? ⟨b, off + k * 10 + 7, none⟩ = some (.int .i64 z.qu) := hc 7 _ rfl
      have q8 : wr.cell? ⟨b, off + k * 10 + 8, none⟩ = some (.int .i64 z.un) := hc 8 _ rfl
      have q9 : wr.cell? ⟨b, off + k * 10 + 9, none⟩ = some (.int .i64 z.il) := hc 9 _ rfl
      generalize (xs.take k).filter p = Lk at X HY HN hwl
      generalize p z = t at HY HN HCx
      clear hc hvl hx
      have hwsz : w.heap.size ≤ wr.heap.size := X.out.2.size
      have B1 : Hid (Below w.heap.size w (wr.alloc (.cells #[.int .i64 z.id, .int .i64 z.us, .string z.mc, .int .i64 z.ip, .int .i64 z.be, .int .i64 z.la, .int .i64 z.ud, .int .i64 z.qu, .int .i64 z.un, .int .i64 z.il] 137))) := X.out.2.alloc X.out.2.size _
      cases t with
      | false =>
        have HN' : Hid ((xs.take (k + 1)).filter p = Lk) := HN.out rfl
        clear HY HN
        go_wp2_with (go_at_fn gf; refine (HCx.out _ B1.out).mono ?_; rintro e w2 ⟨rfl, g2⟩)
        have X2 : Hid (OwnS svG 10 137 w2 w.heap.size u5 ((xs.take (k + 1)).filter p) ∧ Below w.heap.size w w2) := ⟨by rw [HN'.out]; exact (X.out.1.now ((Below.refl _ _).alloc (Nat.le_refl _) _)).now g2, B1.out.trans (g2.mono B1.out.size)⟩
        clear X g2 B1 HCx HN' q0 q1 q2 q3 q4 q5 q6 q7 q8 q9 hwsz
        go_roundw
        case rel => exact ⟨k + 1, by omega, by go_num, X2⟩
        case measure => simp [intOf]; omega
      | true =>
        have HY' : Hid ((xs.take (k + 1)).filter p = Lk ++ [z]) := HY.out rfl
        clear HY HN
        go_wp2_with (first | (go_at_fn gf; refine (HCx.out _ B1.out).mono ?_; rintro e w2 ⟨rfl, g2⟩; have t0 : w2.cell? ⟨wr.heap.size, 0, none⟩ = some (.int .i64 z.id) := bkeep g2 (by simp); have t1 : w2.cell? ⟨wr.heap.size, 1, none⟩ = some (.int .i64 z.us) := bkeep g2 (by simp); have t2 : w2.cell? ⟨wr.heap.size, 2, none⟩ = some (.string z.mc) := bkeep g2 (by simp); have t3 : w2.cell? ⟨wr.heap.size, 3, none⟩ = some (.int .i64 z.ip) := bkeep g2 (by simp); have t4 : w2.cell? ⟨wr.heap.size, 4, none⟩ = some (.int .i64 z.be) := bkeep g2 (by simp); have t5 : w2.cell? ⟨wr.heap.size, 5, none⟩ = some (.int .i64 z.la) := bkeep g2 (by simp); have t6 : w2.cell? ⟨wr.heap.size, 6, none⟩ = some (.int .i64 z.ud) := bkeep g2 (by simp); have t7 : w2.cell? ⟨wr.heap.size, 7, none⟩ = some (.int .i64 z.qu) := bkeep g2 (by simp); have t8 : w2.cell? ⟨wr.heap.size, 8, none⟩ = some (.int .i64 z.un) := bkeep g2 (by simp); have t9 : w2.cell? ⟨wr.heap.size, 9, none⟩ = some (.int .i64 z.il) := bkeep g2 (by simp)) | (at_builtin; refine wpl_Session _ rfl (.tmp 17) (.tmp 19) rfl w.heap.size u5 Lk [z] rfl (((X.out.1.now ((Below.refl _ _).alloc (Nat.le_refl _) (.cells #[.int .i64 z.id, .int .i64 z.us, .string z.mc, .int .i64 z.ip, .int .i64 z.be, .int .i64 z.la, .int .i64 z.ud, .int .i64 z.qu, .int .i64 z.un, .int .i64 z.il] 137))).now g2).now ((Below.refl _ _).alloc (Nat.le_refl _) (.cells #[.int .i64 z.id, .int .i64 z.us, .string z.mc, .int .i64 z.ip, .int .i64 z.be, .int .i64 z.la, .int .i64 z.ud, .int .i64 z.qu, .int .i64 z.un, .int .i64 z.il] 137))) w2.heap.size 0 1 1 rfl rfl (one_newB svG w2 #[.int .i64 z.id, .int .i64 z.us, .string z.mc, .int .i64 z.ip, .int .i64 z.be, .int .i64 z.la, .int .i64 z.ud, .int .i64 z.qu, .int .i64 z.un, .int .i64 z.il] 137 z rfl) (by have := hwl.out; simp; omega) (by have := g2.size; simp at *; omega) ?_; intro v' w8 Y gY))
        have b3 : Below w.heap.size w (w2.alloc (.cells #[.int .i64 z.id, .int .i64 z.us, .string z.mc, .int .i64 z.ip, .int .i64 z.be, .int .i64 z.la, .int .i64 z.ud, .int .i64 z.qu, .int .i64 z.un, .int .i64 z.il] 137)) := (B1.out.trans (g2.mono B1.out.size)).alloc (by have := g2.size; simp at *; omega) _
        have hlt8 : ∀ q, u5.ownBlock = some q → w.heap.size ≤ q := fun q hq => (X.out.1.lt q hq).1
        have X2 : Hid (OwnS svG 10 137 w8 w.heap.size v' ((xs.take (k + 1)).filter p) ∧ Below w.heap.size w w8) := ⟨by rw [HY'.out]; exact Y.out.1, b3.grown gY b3.size (fun q hq => by have := hlt8 q hq; omega)⟩
        clear X g2 HY' Y gY b3 hlt8 B1 HCx q0 q1 q2 q3 q4 q5 q6 q7 q8 q9 t0 t1 t2 t3 t4 t5 t6 t7 t8 t9 hwsz
        go_roundw
        case rel => exact ⟨k + 1, by omega, by go_num, X2⟩
        case measure => simp [intOf]; omega
    · obtain rfl : k = n := by omega
      have E : Hid ((xs.take k).filter p = xs.filter p) := flt_all hl
      go_wp2
      go_ret
      exact ⟨_, rfl, by rw [← E.out]; exact X.out.1, X.out.2⟩
end Go.Proofs.YtlebblmlbhnppaaGreat

namespace Go.Proofs.YtlebblmlbhnppaaGreat
open Go.RowKit Go.PlainAid Go.Proofs.YtlebblmlbhnppaaGreat.Bt Go.Sort
set_option linter.unusedVariables false
set_option maxRecDepth 20000
set_option maxHeartbeats 4000000 in
theorem filtRec_any (a : Option Addr) (n c : Nat) (xs : List RecV) (gf : Nat) (p0 : Value) (p : RecV → Bool) (w : World) (h : Rw ReR 5 w a xs) (hl : xs.length = n) (hn : n ≤ 1048576)
    (eg : ∀ args w, (callFunc gf args).run Tryz.prog w = .ok (.enter gf args) w)
    (hg : ∀ z, z ∈ xs → ∀ W, Below w.heap.size w W → Calls Tryz.prog gf #[.agg #[.int .i64 z.id, .int .i64 z.tm, .int .i64 z.ca, .int .i64 z.bt, .bool z.st], p0] W fun e w' => e = .returned (.bool (p z)) ∧ Below W.heap.size W w') :
    Calls Tryz.prog 175 #[.slice a n c, .func (.func gf) #[] #[p0]] w fun e w' => ∃ v, e = .returned v ∧ OwnS evG 5 163 w' w.heap.size v (xs.filter p) ∧ Below w.heap.size w w' := by
  have RW : Hid (Rw ReR 5 w a xs) := h
  have HC : Hid (∀ z, z ∈ xs → ∀ W, Below w.heap.size w W → Calls Tryz.prog gf #[.agg #[.int .i64 z.id, .int .i64 z.tm, .int .i64 z.ca, .int .i64 z.bt, .bool z.st], p0] W fun e w' => e = .returned (.bool (p z)) ∧ Below W.heap.size W w') := hg
  clear h hg
  have O0 : Hid (OwnS evG 5 163 w w.heap.size (.slice none 0 0) ([] : List RecV) ∧ Below w.heap.size w w) := ⟨OwnS.nil w _, Below.refl _ _⟩
  go_enter Tryz.func175, Tryz.ntmps175
  go_wp2
  go_loopw [5, 10] (fun v u wr => ∃ k : Nat, k ≤ n ∧ u = .int .i64 k ∧ Hid (OwnS evG 5 163 wr w.heap.size v ((xs.take k).filter p) ∧ Below w.heap.size w wr)) (fun _ u _ => n - (intOf u).toNat)
  case atStart => exact ⟨0, Nat.zero_le _, rfl, O0⟩
  case round =>
    obtain ⟨k, hk, rfl, X⟩ := hrel
    clear O0
    by_cases hlt : k < n
    · obtain ⟨z, hx⟩ := at_of hl hlt
      have hltz : (k : Int) < (n : Int) := by omega
      obtain ⟨b, off, vs, rfl, hb, hvl, hR, hc⟩ := RW.out.at ReR.kp X.out.2 hx
      have HY : Hid (p z = true → (xs.take (k + 1)).filter p = (xs.take k).filter p ++ [z]) := fun h => flt_yes hx h
      have HN : Hid (p z = false → (xs.take (k + 1)).filter p = (xs.take k).filter p) := fun h => flt_no hx h
      have hwl : Hid (((xs.take k).filter p).length ≤ 1048576) := Nat.le_trans (flt_len p xs k) (by omega)
      have HCx : Hid (∀ (W : World), Below w.heap.size w W → Calls Tryz.prog gf #[.agg #[.int .i64 z.id, .int .i64 z.tm, .int .i64 z.ca, .int .i64 z.bt, .bool z.st], p0] W fun e w' => e = .returned (.bool (p z)) ∧ Below W.heap.size W w') := fun W hW => HC.out z (List.mem_of_getElem? hx) W hW
      obtain ⟨rfl, -⟩ := hR
      have q0 : wr.cell? ⟨b, off + k * 5, none⟩ = some (.int .i64 z.id) := hc 0 _ rfl
      have q1 : wr.cell? ⟨b, off + k * 5 + 1, none⟩ = some (.int .i64 z.tm) := hc 1 _ rfl
      have q2 : wr.cell? ⟨b, off + k * 5 + 2, none⟩ = some (.int .i64 z.ca) := hc 2 _ rfl
      have q3 : wr.cell? ⟨b, off + k * 5 + 3, none⟩ = some (.int .i64 z.bt) := hc 3 _ rfl
      have q4 : wr.cell? ⟨b, off + k * 5 + 4, none⟩ = some (.bool z.st) := hc 4 _ rfl
      generalize (xs.take k).filter p = Lk at X HY HN hwl
      generalize p z = t at HY HN HCx
      clear hc hvl hx
      have hwsz : w.heap.size ≤ wr.heap.size := X.out.2.size
      have B1 : Hid (Below w.heap.size w (wr.alloc (.cells #[.int .i64 z.id, .int .i64 z.tm, .int .i64 z.ca, .int .i64 z.bt, .bool z.st] 163))) := X.out.2.alloc X.out.2.size _
      cases t with
      | false =>
        have HN' : Hid ((xs.take (k + 1)).filter p = Lk) := HN.out rfl
        clear HY HN
        go_wp2_with (go_at_fn gf; refine (HCx.out _ B1.out).mono ?_; rintro e w2 ⟨rfl, g2⟩)
        have X2 : Hid (OwnS evG 5 163 w2 w.heap.size u5 ((xs.take (k + 1)).filter p) ∧ Below w.heap.size w w2) := ⟨by rw [HN'.out]; exact (X.out.1.now ((Below.refl _ _).alloc (Nat.le_refl _) _)).now g2, B1.out.trans (g2.mono B1.out.size)⟩
        clear X g2 B1 HCx HN' q0 q1 q2 q3 q4 hwsz
        go_roundw
        case rel => exact ⟨k + 1, by omega, by go_num, X2⟩
        case measure => simp [intOf]; omega
      | true =>
        have HY' : Hid ((xs.take (k + 1)).filter p = Lk ++ [z]) := HY.out rfl
        clear HY HN
        go_wp2_with (first | (go_at_fn gf; refine (HCx.out _ B1.out).mono ?_; rintro e w2 ⟨rfl, g2⟩; have t0 : w2.cell? ⟨wr.heap.size, 0, none⟩ = some (.int .i64 z.id) := bkeep g2 (by simp); have t1 : w2.cell? ⟨wr.heap.size, 1, none⟩ = some (.int .i64 z.tm) := bkeep g2 (by simp); have t2 : w2.cell? ⟨wr.heap.size, 2, none⟩ = some (.int .i64 z.ca) := bkeep g2 (by simp); have t3 : w2.cell? ⟨wr.heap.size, 3, none⟩ = some (.int .i64 z.bt) := bkeep g2 (by simp); have t4 : w2.cell? ⟨wr.heap.size, 4, none⟩ = some (.bool z.st) := bkeep g2 (by simp)) | (at_builtin; refine wpl_Record _ rfl (.tmp 17) (.tmp 19) rfl w.heap.size u5 Lk [z] rfl (((X.out.1.now ((Below.refl _ _).alloc (Nat.le_refl _) (.cells #[.int .i64 z.id, .int .i64 z.tm, .int .i64 z.ca, .int .i64 z.bt, .bool z.st] 163))).now g2).now ((Below.refl _ _).alloc (Nat.le_refl _) (.cells #[.int .i64 z.id, .int .i64 z.tm, .int .i64 z.ca, .int .i64 z.bt, .bool z.st] 163))) w2.heap.size 0 1 1 rfl rfl (one_newB evG w2 #[.int .i64 z.id, .int .i64 z.tm, .int .i64 z.ca, .int .i64 z.bt, .bool z.st] 163 z rfl) (by have := hwl.out; simp; omega) (by have := g2.size; simp at *; omega) ?_; intro v' w8 Y gY))
        have b3 : Below w.heap.size w (w2.alloc (.cells #[.int .i64 z.id, .int .i64 z.tm, .int .i64 z.ca, .int .i64 z.bt, .bool z.st] 163)) := (B1.out.trans (g2.mono B1.out.size)).alloc (by have := g2.size; simp at *; omega) _
        have hlt8 : ∀ q, u5.ownBlock = some q → w.heap.size ≤ q := fun q hq => (X.out.1.lt q hq).1
        have X2 : Hid (OwnS evG 5 163 w8 w.heap.size v' ((xs.take (k + 1)).filter p) ∧ Below w.heap.size w w8) := ⟨by rw [HY'.out]; exact Y.out.1, b3.grown gY b3.size (fun q hq => by have := hlt8 q hq; omega)⟩
        clear X g2 HY' Y gY b3 hlt8 B1 HCx q0 q1 q2 q3 q4 t0 t1 t2 t3 t4 hwsz
        go_roundw
        case rel => exact ⟨k + 1, by omega, by go_num, X2⟩
        case measure => simp [intOf]; omega
    · obtain rfl : k = n := by omega
      have E : Hid ((xs.take k).filter p = xs.filter p) := flt_all hl
      go_wp2
      go_ret
      exact ⟨_, rfl, by rw [← E.out]; exact X.out.1, X.out.2⟩
end Go.Proofs.YtlebblmlbhnppaaGreat

namespace Go.Proofs.YtlebblmlbhnppaaGreat
open Go.RowKit Go.PlainAid Go.Proofs.YtlebblmlbhnppaaGreat.Bt Go.Sort Go.Maps Go.WideAt Go.WideMaps
set_option linter.unusedVariables false
set_option maxRecDepth 20000

/-- What the first k records say of x. -/
def recBg (rs : List RecV) (x : RecV) (k : Nat) (bg : Bool) : Prop := (∀ j e, j < k → rs[j]? = some e → e.id = x.id → e.st = false ∧ x.st = true ∧ e.tm ≤ x.tm) ∧ (bg = true ↔ ∃ j e, j < k ∧ rs[j]? = some e ∧ e.id = x.id)
set_option maxHeartbeats 4000000 in
theorem l08Records_any (a : Option Addr) (len cap : Nat) (rs : List RecV) (w : World) (h : Rw ReR 5 w a rs) (hl : rs.length = len) (hm : len ≤ 4096) :
    Calls Tryz.prog 100 #[.slice a len cap] w fun e w' => e = .returned (.bool (recB rs)) ∧ Grw w w' := by
  have RW : Hid (Rw ReR 5 w a rs) := h
  clear h
  have hmix : Tryz.prog.follows .mixedOrders = true := by kernel_rfl
  go_enter Tryz.func100, Tryz.ntmps100
  go_wp2
  go_loopw [3] (fun x wr => ∃ i : Nat, i ≤ len ∧ x = .int .i64 i ∧ Hid (recOk rs i) ∧ Hid (Grw w wr)) (fun x _ => len - (intOf x).toNat)
  case atStart => exact ⟨0, Nat.zero_le _, rfl, recOk_zero rs, Grw.refl _⟩
  case round =>
    obtain ⟨i, hi, rfl, HO, HG⟩ := hrel
    by_cases hlt : i < len
    · obtain ⟨x, hx⟩ := at_of hl hlt
      have hiz : (i : Int) < (len : Int) := by omega
      go_wp2
      generalize wr = w3 at HG ⊢
      go_loopw [4, 5] (fun p y wr => ∃ (k : Nat) (bg : Bool), k ≤ i ∧ y = .int .i64 k ∧ p = .bool bg ∧ Hid (recBg rs x k bg) ∧ Hid (Grw w wr)) (fun _ y _ => i - (intOf y).toNat)
      case atStart => exact ⟨0, false, Nat.zero_le _, rfl, rfl, ⟨fun j e hj => absurd hj (by omega), ⟨(fun h => by cases h), (fun ⟨j, e, hj, _⟩ => absurd hj (by omega))⟩⟩, HG.out⟩
      case round =>
        obtain ⟨k, bg, hk, rfl, rfl, HB, HG2⟩ := hrel
        clear HG
        obtain ⟨b, off, vs, rfl, hb, hvl, hR, hc⟩ := RW.out.at ReR.kp HG2.out.below hx
        by_cases hki : k < i
        · obtain ⟨y, hy⟩ := at_of (k := k) hl (by omega)
          obtain ⟨b', off', vs', e', hb', hvl', hR', hc'⟩ := RW.out.at ReR.kp HG2.out.below hy
          cases e'
          obtain ⟨id, tm, ca, bt, st⟩ := x
          obtain ⟨id2, tm2, ca2, bt2, st2⟩ := y
          obtain ⟨rfl, -⟩ := hR
          obtain ⟨rfl, -⟩ := hR'
          have q0 : wr.cell? ⟨b, off + i * 5, none⟩ = some (.int .i64 id) := hc 0 _ rfl
          have q1 : wr.cell? ⟨b, off + i * 5 + 1, none⟩ = some (.int .i64 tm) := hc 1 _ rfl
          have q2 : wr.cell? ⟨b, off + i * 5 + 2, none⟩ = some (.int .i64 ca) := hc 2 _ rfl
          have q3 : wr.cell? ⟨b, off + i * 5 + 3, none⟩ = some (.int .i64 bt) := hc 3 _ rfl
          have q4 : wr.cell? ⟨b, off + i * 5 + 4, none⟩ = some (.bool st) := hc 4 _ rfl
          have y0 : ∀ n os, (grow (wr.drewN n) os).cell? ⟨b, off + i * 5, none⟩ = some (.int .i64 id) := fun n os => bkeep (Grw.below ⟨n, os, rfl⟩) q0
          have y1 : ∀ n os, (grow (wr.drewN n) os).cell? ⟨b, off + i * 5 + 1, none⟩ = some (.int .i64 tm) := fun n os => bkeep (Grw.below ⟨n, os, rfl⟩) q1
          have y4 : ∀ n os, (grow (wr.drewN n) os).cell? ⟨b, off + i * 5 + 4, none⟩ = some (.bool st) := fun n os => bkeep (Grw.below ⟨n, os, rfl⟩) q4
          have p0 : wr.cell? ⟨b, off + k * 5, none⟩ = some (.int .i64 id2) := hc' 0 _ rfl
          have p1 : wr.cell? ⟨b, off + k * 5 + 1, none⟩ = some (.int .i64 tm2) := hc' 1 _ rfl
          have p2 : wr.cell? ⟨b, off + k * 5 + 2, none⟩ = some (.int .i64 ca2) := hc' 2 _ rfl
          have p3 : wr.cell? ⟨b, off + k * 5 + 3, none⟩ = some (.int .i64 bt2) := hc' 3 _ rfl
          have p4 : wr.cell? ⟨b, off + k * 5 + 4, none⟩ = some (.bool st2) := hc' 4 _ rfl
          have z0 : ∀ n os, (grow (wr.drewN n) os).cell? ⟨b, off + k * 5, none⟩ = some (.int .i64 id2) := fun n os => bkeep (Grw.below ⟨n, os, rfl⟩) p0
          have z1 : ∀ n os, (grow (wr.drewN n) os).cell? ⟨b, off + k * 5 + 1, none⟩ = some (.int .i64 tm2) := fun n os => bkeep (Grw.below ⟨n, os, rfl⟩) p1
          have z4 : ∀ n os, (grow (wr.drewN n) os).cell? ⟨b, off + k * 5 + 4, none⟩ = some (.bool st2) := fun n os => bkeep (Grw.below ⟨n, os, rfl⟩) p4
          have hkl : (k : Int) < (len : Int) := by omega
          have hkz : (k : Int) < (i : Int) := by omega
          clear hc hc' hvl hvl' hb'
          by_cases he : id2 = id
          · have hne : (id2 != id) = false := by simp [he]
            have hor : (st2 = true ∨ st = false ∨ tm < tm2) ∨ (st2 = false ∧ st = true ∧ tm2 ≤ tm) := by
              cases st2 <;> cases st <;> simp <;> omega
            rcases hor with hbad | ⟨g1, g2, g3⟩
            · have hd : Hid (recB rs = false) := recB_no hx (fun h => by
                have := h.1 k _ hki hy he
                simp at this
                rcases hbad with h1 | h1 | h1
                · rw [h1] at this; simp at this
                · rw [h1] at this; simp at this
                · omega)
              clear HB HO RW hx hy
              go_wp2_with fail
              refine wp_region_quiet_grown (by assumption) (by kernel_rfl) ?_
              repeat (go_big_quiet_step (first | fail | fail))
              refine wpQuiet_nil ?_
              intro _ hw'
              obtain ⟨⟨nq, osq⟩, hw''⟩ := hw'
              subst hw''
              have t1 := y1 nq osq
              have t4 := y4 nq osq
              have s1 := z1 nq osq
              have s4 := z4 nq osq
              have HG3 : Hid (Grw w (grow (wr.drewN nq) osq)) := HG2.out.trans ⟨nq, osq, rfl⟩
              clear y0 y1 y4 z0 z1 z4 q0 q1 q2 q3 q4 p0 p1 p2 p3 p4 HG2
              generalize (grow (wr.drewN nq) osq) = w5 at t1 t4 s1 s4 HG3 ⊢
              cases st2 with
              | true =>
                have v1 : ∀ n os, (grow (w5.drewN n) os).cell? ⟨b, off + i * 5 + 1, none⟩ = some (.int .i64 tm) := fun n os => bkeep (Grw.below ⟨n, os, rfl⟩) t1
                have u1 : ∀ n os, (grow (w5.drewN n) os).cell? ⟨b, off + k * 5 + 1, none⟩ = some (.int .i64 tm2) := fun n os => bkeep (Grw.below ⟨n, os, rfl⟩) s1
                have v4 : ∀ n os, (grow (w5.drewN n) os).cell? ⟨b, off + i * 5 + 4, none⟩ = some (.bool st) := fun n os => bkeep (Grw.below ⟨n, os, rfl⟩) t4
                have u4 : ∀ n os, (grow (w5.drewN n) os).cell? ⟨b, off + k * 5 + 4, none⟩ = some (.bool true) := fun n os => bkeep (Grw.below ⟨n, os, rfl⟩) s4
                go_wp2_with fail
                refine wp_region_quiet_grown (by assumption) (by kernel_rfl) ?_
                repeat (go_big_quiet_step (first | fail | fail))
                refine wpQuiet_nil ?_
                intro _ hw'
                obtain ⟨⟨nq, osq⟩, hw''⟩ := hw'
                subst hw''
                have HG4 : Hid (Grw w (grow (w5.drewN nq) osq)) := HG3.out.trans ⟨nq, osq, rfl⟩
                go_wp2
                go_ret
                exact ⟨by rw [hd.out]; rfl, HG4.out⟩
              | false =>
                cases st with
                | false =>
                  have v1 : ∀ n os, (grow (w5.drewN n) os).cell? ⟨b, off + i * 5 + 1, none⟩ = some (.int .i64 tm) := fun n os => bkeep (Grw.below ⟨n, os, rfl⟩) t1
                  have u1 : ∀ n os, (grow (w5.drewN n) os).cell? ⟨b, off + k * 5 + 1, none⟩ = some (.int .i64 tm2) := fun n os => bkeep (Grw.below ⟨n, os, rfl⟩) s1
                  have v4 : ∀ n os, (grow (w5.drewN n) os).cell? ⟨b, off + i * 5 + 4, none⟩ = some (.bool false) := fun n os => bkeep (Grw.below ⟨n, os, rfl⟩) t4
                  have u4 : ∀ n os, (grow (w5.drewN n) os).cell? ⟨b, off + k * 5 + 4, none⟩ = some (.bool false) := fun n os => bkeep (Grw.below ⟨n, os, rfl⟩) s4
                  go_wp2_with fail
                  refine wp_region_quiet_grown (by assumption) (by kernel_rfl) ?_
                  repeat (go_big_quiet_step (first | fail | fail))
                  refine wpQuiet_nil ?_
                  intro _ hw'
                  obtain ⟨⟨nq, osq⟩, hw''⟩ := hw'
                  subst hw''
                  have HG4 : Hid (Grw w (grow (w5.drewN nq) osq)) := HG3.out.trans ⟨nq, osq, rfl⟩
                  go_wp2
                  go_ret
                  exact ⟨by rw [hd.out]; rfl, HG4.out⟩
                | true =>
                  have hgt : decide (tm < tm2) = true := decide_eq_true (by simpa using hbad)
                  have v1 : ∀ n os, (grow (w5.drewN n) os).cell? ⟨b, off + i * 5 + 1, none⟩ = some (.int .i64 tm) := fun n os => bkeep (Grw.below ⟨n, os, rfl⟩) t1
                  have u1 : ∀ n os, (grow (w5.drewN n) os).cell? ⟨b, off + k * 5 + 1, none⟩ = some (.int .i64 tm2) := fun n os => bkeep (Grw.below ⟨n, os, rfl⟩) s1
                  have v4 : ∀ n os, (grow (w5.drewN n) os).cell? ⟨b, off + i * 5 + 4, none⟩ = some (.bool true) := fun n os => bkeep (Grw.below ⟨n, os, rfl⟩) t4
                  have u4 : ∀ n os, (grow (w5.drewN n) os).cell? ⟨b, off + k * 5 + 4, none⟩ = some (.bool false) := fun n os => bkeep (Grw.below ⟨n, os, rfl⟩) s4
                  go_wp2_with fail
                  refine wp_region_quiet_grown (by assumption) (by kernel_rfl) ?_
                  repeat (go_big_quiet_step (first | fail | fail))
                  refine wpQuiet_nil ?_
                  intro _ hw'
                  obtain ⟨⟨nq, osq⟩, hw''⟩ := hw'
                  subst hw''
                  have HG4 : Hid (Grw w (grow (w5.drewN nq) osq)) := HG3.out.trans ⟨nq, osq, rfl⟩
                  go_wp2
                  go_ret
                  exact ⟨by rw [hd.out]; rfl, HG4.out⟩
            · have HB' : Hid (recBg rs ⟨id, tm, ca, bt, st⟩ (k + 1) true) := by
                refine ⟨fun j e hj hje hid => ?_, ⟨fun _ => ⟨k, _, by omega, hy, he⟩, fun _ => rfl⟩⟩
                by_cases hjk : j < k
                · exact HB.out.1 j e hjk hje hid
                · obtain rfl : j = k := by omega
                  rw [hy] at hje
                  cases hje
                  exact ⟨g1, g2, g3⟩
              clear HB HO RW hx hy
              subst g1 g2
              have hle : decide (tm < tm2) = false := decide_eq_false (by omega)
              go_wp2_with fail
              refine wp_region_quiet_grown (by assumption) (by kernel_rfl) ?_
              repeat (go_big_quiet_step (first | fail | fail))
              refine wpQuiet_nil ?_
              intro _ hw'
              obtain ⟨⟨nq, osq⟩, hw''⟩ := hw'
              subst hw''
              have t1 := y1 nq osq
              have t4 := y4 nq osq
              have s1 := z1 nq osq
              have s4 := z4 nq osq
              have HG3 : Hid (Grw w (grow (wr.drewN nq) osq)) := HG2.out.trans ⟨nq, osq, rfl⟩
              clear y0 y1 y4 z0 z1 z4 q0 q1 q2 q3 q4 p0 p1 p2 p3 p4 HG2
              generalize (grow (wr.drewN nq) osq) = w5 at t1 t4 s1 s4 HG3 ⊢
              have v1 : ∀ n os, (grow (w5.drewN n) os).cell? ⟨b, off + i * 5 + 1, none⟩ = some (.int .i64 tm) := fun n os => bkeep (Grw.below ⟨n, os, rfl⟩) t1
              have u1 : ∀ n os, (grow (w5.drewN n) os).cell? ⟨b, off + k * 5 + 1, none⟩ = some (.int .i64 tm2) := fun n os => bkeep (Grw.below ⟨n, os, rfl⟩) s1
              have v4 : ∀ n os, (grow (w5.drewN n) os).cell? ⟨b, off + i * 5 + 4, none⟩ = some (.bool true) := fun n os => bkeep (Grw.below ⟨n, os, rfl⟩) t4
              have u4 : ∀ n os, (grow (w5.drewN n) os).cell? ⟨b, off + k * 5 + 4, none⟩ = some (.bool false) := fun n os => bkeep (Grw.below ⟨n, os, rfl⟩) s4
              go_wp2_with fail
              refine wp_region_quiet_grown (by assumption) (by kernel_rfl) ?_
              repeat (go_big_quiet_step (first | fail | fail))
              refine wpQuiet_nil ?_
              intro _ hw'
              obtain ⟨⟨nq, osq⟩, hw''⟩ := hw'
              subst hw''
              have HG4 : Hid (Grw w (grow (w5.drewN nq) osq)) := HG3.out.trans ⟨nq, osq, rfl⟩
              clear v1 u1 v4 u4 t1 t4 s1 s4 HG3
              go_wp2
              go_roundw
              case rel => exact ⟨k + 1, true, by omega, by go_num, rfl, HB', HG4⟩
              case measure => simp [intOf]; omega
          · have hne : (id2 != id) = true := by simp [he]
            have HB' : Hid (recBg rs ⟨id, tm, ca, bt, st⟩ (k + 1) bg) := by
              refine ⟨fun j e hj hje hid => ?_, ⟨fun hbg => ?_, fun ⟨j, e, hj, hje, hid⟩ => ?_⟩⟩
              · by_cases hjk : j < k
                · exact HB.out.1 j e hjk hje hid
                · obtain rfl : j = k := by omega
                  rw [hy] at hje
                  cases hje
                  exact absurd hid he
              · obtain ⟨j, e, hj, hje, hid⟩ := HB.out.2.1 hbg
                exact ⟨j, e, by omega, hje, hid⟩
              · refine HB.out.2.2 ⟨j, e, ?_, hje, hid⟩
                by_cases hjk : j < k
                · exact hjk
                · obtain rfl : j = k := by omega
                  rw [hy] at hje
                  cases hje
                  exact absurd hid he
            clear HB HO RW hx hy
            go_wp2_with fail
            refine wp_region_quiet_grown (by assumption) (by kernel_rfl) ?_
            repeat (go_big_quiet_step (first | fail | fail))
            refine wpQuiet_nil ?_
            intro _ hw'
            obtain ⟨⟨nq, osq⟩, hw''⟩ := hw'
            subst hw''
            have t1 := y1 nq osq
            have t4 := y4 nq osq
            have s1 := z1 nq osq
            have s4 := z4 nq osq
            have HG3 : Hid (Grw w (grow (wr.drewN nq) osq)) := HG2.out.trans ⟨nq, osq, rfl⟩
            clear y0 y1 y4 z0 z1 z4 q0 q1 q2 q3 q4 p0 p1 p2 p3 p4 HG2
            generalize (grow (wr.drewN nq) osq) = w5 at t1 t4 s1 s4 HG3 ⊢
            clear t1 t4 s1 s4
            go_wp2
            go_roundw
            case rel => exact ⟨k + 1, bg, by omega, by go_num, rfl, HB', HG3⟩
            case measure => simp [intOf]; omega
        · obtain rfl : k = i := by omega
          obtain ⟨id, tm, ca, bt, st⟩ := x
          obtain ⟨rfl, -⟩ := hR
          have q0 : wr.cell? ⟨b, off + k * 5, none⟩ = some (.int .i64 id) := hc 0 _ rfl
          have q1 : wr.cell? ⟨b, off + k * 5 + 1, none⟩ = some (.int .i64 tm) := hc 1 _ rfl
          have q2 : wr.cell? ⟨b, off + k * 5 + 2, none⟩ = some (.int .i64 ca) := hc 2 _ rfl
          have q3 : wr.cell? ⟨b, off + k * 5 + 3, none⟩ = some (.int .i64 bt) := hc 3 _ rfl
          have q4 : wr.cell? ⟨b, off + k * 5 + 4, none⟩ = some (.bool st) := hc 4 _ rfl
          clear hc hvl
          have hkz : ¬ (k : Int) < (k : Int) := by omega
          by_cases hs : st = bg
          · have HO' : Hid (recOk rs (k + 1)) := recOk_step HO.out hx ⟨HB.out.1, by rw [← HB.out.2]; show st = true ↔ bg = true; rw [hs]⟩
            subst hs
            have hsn : (st != st) = false := by simp
            clear HB HO hx
            go_wp2
            exact ⟨⟨k + 1, by omega, by go_num, HO', HG2⟩, by simp [intOf]; omega⟩
          · have hd : Hid (recB rs = false) := recB_no hx (fun h => by
              have := h.2
              rw [← HB.out.2] at this
              apply hs
              cases st <;> cases bg <;> simp_all)
            have hsn : (st == bg) = false := by cases st <;> cases bg <;> simp_all
            clear HB HO hx hs
            go_wp2
            go_ret
            exact ⟨by rw [hd.out]; rfl, HG2.out⟩
    · obtain rfl : i = len := by omega
      have hd : Hid (recB rs = true) := recB_yes (by rw [hl]; exact HO.out)
      clear HO
      go_wp2
      go_ret
      exact ⟨by rw [hd.out]; rfl, HG.out⟩
theorem implRecordsHold_long (a : Option Addr) (len cap : Nat) (w : World) (hm : 4096 < len) :
    Calls Tryz.prog 101 #[.slice a len cap] w fun e w' => e = .returned (.tuple #[.bool false, .int .i64 2]) ∧ Below w.heap.size w w' := by
  have hz : (4096 : Int) < (len : Int) := by omega
  go_enter Tryz.func101, Tryz.ntmps101
  go_wp2
  go_ret2
  exact ⟨rfl, Below.refl _ _⟩
theorem keyI : Keyed Tryz.prog 3 := int_keyed Tryz.underlying3
theorem zeroSpan (w : World) : (zeroValue 244).run Tryz.prog w = .ok (.agg #[.int .i64 0, .bool false]) w := by kernel_rfl
set_option maxHeartbeats 4000000 in
theorem implRecordsHold_any (a : Option Addr) (len cap : Nat) (rs : List RecV) (w : World) (h : Rw ReR 5 w a rs) (hl : rs.length = len) (hm : len ≤ 4096) :
    Calls Tryz.prog 101 #[.slice a len cap] w fun e w' => e = .returned (.tuple #[.bool (recB rs), .int .i64 0]) ∧ Below w.heap.size w w' := by
  have RW : Hid (Rw ReR 5 w a rs) := h
  clear h
  have hz : (len : Int) ≤ 4096 := by omega
  have hmm := @run_makeMap Tryz.prog
  go_enter Tryz.func101, Tryz.ntmps101
  go_wp2
  go_loopw [15] (fun x wr => ∃ k : Nat, k ≤ len ∧ x = .int .i64 k ∧ Hid (recOk rs k) ∧ Hid (wr.ownsMap Tryz.prog 3 (spanElem (H := Unit)) w.heap.size k (recD (rs.take k)) ∧ Below w.heap.size w wr)) (fun x _ => len - (intOf x).toNat)
  case atStart => exact ⟨0, Nat.zero_le _, rfl, recOk_zero rs, World.ownsMap_made w _ _ _, (Below.refl _ _).alloc (Nat.le_refl _) _⟩
  case round =>
    obtain ⟨k, hk, rfl, HO, HG⟩ := hrel
    by_cases hlt : k < len
    · obtain ⟨x, hx⟩ := at_of hl hlt
      have hltz : (k : Int) < (len : Int) := by omega
      obtain ⟨b, off, vs, rfl, hb, hvl, hR, hc⟩ := RW.out.at ReR.kp HG.out.2 hx
      obtain ⟨id, tm, ca, bt, st⟩ := x
      obtain ⟨rfl, hok⟩ := hR
      have q0 : wr.cell? ⟨b, off + k * 5, none⟩ = some (.int .i64 id) := hc 0 _ rfl
      have q1 : wr.cell? ⟨b, off + k * 5 + 1, none⟩ = some (.int .i64 tm) := hc 1 _ rfl
      have q2 : wr.cell? ⟨b, off + k * 5 + 2, none⟩ = some (.int .i64 ca) := hc 2 _ rfl
      have q3 : wr.cell? ⟨b, off + k * 5 + 3, none⟩ = some (.int .i64 bt) := hc 3 _ rfl
      have q4 : wr.cell? ⟨b, off + k * 5 + 4, none⟩ = some (.bool st) := hc 4 _ rfl
      have HD := recD_says (H := Unit) rs id k (by omega)
      have hwf : (Lit.int .i64 id).wf = true := hok.1
      obtain ⟨v, pl, hlook, hv⟩ := (HG.out.1.alloc (.cells #[.int .i64 id, .int .i64 tm, .int .i64 ca, .int .i64 bt, .bool st] 163)).look_ok keyI Tryz.underlying242 (zeroSpan _) (spanElem_mk (H := Unit) 0 false) (keyOf_int_mk Tryz.underlying3 hwf)
      clear hc hvl
      rcases HD with ⟨hh, hn⟩ | ⟨hh, f, hlast, hat⟩
      · rw [hh] at hlook
        rw [atKey_of_not_has hh] at hv
        obtain rfl := spanElem_inv hv
        have iff0 := none_says (r := ⟨id, tm, ca, bt, st⟩) hn
        clear hh hv hn
        cases st with
        | true =>
          have hd : Hid (recB rs = false) := recB_no hx (fun h => by have := iff0.1 h; cases this)
          clear iff0
          have HB2 : Hid (Below w.heap.size w ((wr.alloc (.cells #[.int .i64 id, .int .i64 tm, .int .i64 ca, .int .i64 bt, .bool true] 163)).alloc (.cells #[.int .i64 0, .bool false] 244))) := (HG.out.2.alloc HG.out.2.size _).alloc (by have := HG.out.2.size; simp; omega) _
          clear HO HG RW hx
          go_wp2
          go_ret2
          exact ⟨by rw [hd.out]; rfl, HB2.out⟩
        | false =>
          have HO' : Hid (recOk rs (k + 1)) := recOk_step HO.out hx (iff0.2 rfl)
          clear iff0
          obtain ⟨w7, hupd, o7, g7⟩ := ((HG.out.1.alloc (.cells #[.int .i64 id, .int .i64 tm, .int .i64 ca, .int .i64 bt, .bool false] 163)).alloc (.cells #[.int .i64 0, .bool false] 244)).update keyI Tryz.underlying242 (by unfold maxLen; omega) (key := .int .i64 id) (val := .agg #[.int .i64 tm, .bool false]) (keyOf_int_mk Tryz.underlying3 hwf) (spanElem_mk (H := Unit) tm false)
          have HG7 : Hid (w7.ownsMap Tryz.prog 3 (spanElem (H := Unit)) w.heap.size (k + 1) (recD (rs.take (k + 1))) ∧ Below w.heap.size w w7) := by
            refine ⟨by rw [recD_take hx]; exact o7, ?_⟩
            have b2 : Below w.heap.size w ((wr.alloc (.cells #[.int .i64 id, .int .i64 tm, .int .i64 ca, .int .i64 bt, .bool false] 163)).alloc (.cells #[.int .i64 0, .bool false] 244)) := (HG.out.2.alloc HG.out.2.size _).alloc (by have := HG.out.2.size; simp; omega) _
            exact b2.grown g7 b2.size (fun k hk => by cases hk; exact Nat.le_refl _)
          clear o7 g7
          clear HO HG RW hx
          go_wp2
          go_roundw
          case rel => exact ⟨k + 1, by omega, by go_num, HO', HG7⟩
          case measure => simp [intOf]; omega
      · rw [hh] at hlook
        rw [hat] at hv
        obtain ⟨fid, ft, fca, fb, fs⟩ := f
        obtain rfl := spanElem_inv (a := ft) (b := fs) hv
        have iff0 := last_says (r := ⟨id, tm, ca, bt, st⟩) HO.out hx hlast
        clear hh hv hat hlast
        cases st with
        | false =>
          have hd : Hid (recB rs = false) := recB_no hx (fun h => by have := (iff0.1 h).2.1; cases this)
          clear iff0
          have HB2 : Hid (Below w.heap.size w ((wr.alloc (.cells #[.int .i64 id, .int .i64 tm, .int .i64 ca, .int .i64 bt, .bool false] 163)).alloc (.cells #[.int .i64 ft, .bool fs] 244))) := (HG.out.2.alloc HG.out.2.size _).alloc (by have := HG.out.2.size; simp; omega) _
          clear HO HG RW hx
          go_wp2
          go_ret2
          exact ⟨by rw [hd.out]; rfl, HB2.out⟩
        | true =>
          cases fs with
          | true =>
            have hd : Hid (recB rs = false) := recB_no hx (fun h => by have := (iff0.1 h).1; cases this)
            clear iff0
            have HB2 : Hid (Below w.heap.size w ((wr.alloc (.cells #[.int .i64 id, .int .i64 tm, .int .i64 ca, .int .i64 bt, .bool true] 163)).alloc (.cells #[.int .i64 ft, .bool true] 244))) := (HG.out.2.alloc HG.out.2.size _).alloc (by have := HG.out.2.size; simp; omega) _
            clear HO HG RW hx
            go_wp2
            go_ret2
            exact ⟨by rw [hd.out]; rfl, HB2.out⟩
          | false =>
            by_cases hlt2 : tm < ft
            · have hd : Hid (recB rs = false) := recB_no hx (fun h => by have := (iff0.1 h).2.2; dsimp only at this; omega)
              clear iff0
              have HB2 : Hid (Below w.heap.size w ((wr.alloc (.cells #[.int .i64 id, .int .i64 tm, .int .i64 ca, .int .i64 bt, .bool true] 163)).alloc (.cells #[.int .i64 ft, .bool false] 244))) := (HG.out.2.alloc HG.out.2.size _).alloc (by have := HG.out.2.size; simp; omega) _
              clear HO HG RW hx
              go_wp2
              go_ret2
              exact ⟨by rw [hd.out]; rfl, HB2.out⟩
            · have HO' : Hid (recOk rs (k + 1)) := recOk_step HO.out hx (iff0.2 ⟨rfl, rfl, by dsimp only; omega⟩)
              clear iff0
              obtain ⟨w7, hupd, o7, g7⟩ := ((HG.out.1.alloc (.cells #[.int .i64 id, .int .i64 tm, .int .i64 ca, .int .i64 bt, .bool true] 163)).alloc (.cells #[.int .i64 ft, .bool false] 244)).update keyI Tryz.underlying242 (by unfold maxLen; omega) (key := .int .i64 id) (val := .agg #[.int .i64 tm, .bool true]) (keyOf_int_mk Tryz.underlying3 hwf) (spanElem_mk (H := Unit) tm true)
              have HG7 : Hid (w7.ownsMap Tryz.prog 3 (spanElem (H := Unit)) w.heap.size (k + 1) (recD (rs.take (k + 1))) ∧ Below w.heap.size w w7) := by
                refine ⟨by rw [recD_take hx]; exact o7, ?_⟩
                have b2 : Below w.heap.size w ((wr.alloc (.cells #[.int .i64 id, .int .i64 tm, .int .i64 ca, .int .i64 bt, .bool true] 163)).alloc (.cells #[.int .i64 ft, .bool false] 244)) := (HG.out.2.alloc HG.out.2.size _).alloc (by have := HG.out.2.size; simp; omega) _
                exact b2.grown g7 b2.size (fun k hk => by cases hk; exact Nat.le_refl _)
              clear o7 g7
              clear HO HG RW hx
              go_wp2
              go_roundw
              case rel => exact ⟨k + 1, by omega, by go_num, HO', HG7⟩
              case measure => simp [intOf]; omega
    · obtain rfl : k = len := by omega
      have hd : Hid (recB rs = true) := recB_yes (by rw [hl]; exact HO.out)
      clear HO
      go_wp2
      go_ret2
      exact ⟨by rw [hd.out]; rfl, HG.out.2⟩
end Go.Proofs.YtlebblmlbhnppaaGreat

namespace Go.Proofs.YtlebblmlbhnppaaGreat
open Go.Shelf Go.Lib Go.Proofs Go.RowKit Go.PlainAid Go.Proofs.YtlebblmlbhnppaaGreat.Bt Go.Sort
set_option linter.unusedVariables false
set_option maxRecDepth 20000

theorem rolePlace1_any (nm nm2 : ByteArray) (ra : Option Addr) (rl2 rc2 : Nat) (rq rm ri : Int) (B : Nat) (w : World) (hc : w.cell? ⟨B, 0, none⟩ = some (.string nm2)) :
    Calls Tryz.prog 227 #[.agg #[.string nm, .slice ra rl2 rc2, .int .i64 rq, .int .i64 rm, .int .i64 ri], .pointer (some ⟨B, 0, none⟩)] w fun e w' => e = .returned (.bool (nm.toList == nm2.toList)) ∧ Grw w w' := by
  have hB : B < w.heap.size := World.block_lt_of_cell? w _ hc
  have hc2 := acell hc (.cells #[.string nm, .slice ra rl2 rc2, .int .i64 rq, .int .i64 rm, .int .i64 ri] 141)
  obtain ⟨u, hu⟩ : ∃ u, (nm.toList == nm2.toList) = u := ⟨_, rfl⟩
  rw [hu]
  go_enter Tryz.func227, Tryz.ntmps227
  go_wp2
  go_ret
  exact ⟨by first | rfl | (rw [hu]; rfl), (Grw.refl _).alloc _⟩
set_option maxHeartbeats 2000000 in
theorem idxRole_any (y : Option Addr) (n c : Nat) (ros : List RoleV) (nm2 : ByteArray) (B : Nat) (w : World) (h : Rw (RoR 0) 5 w y ros) (hl : ros.length = n) (hn : n ≤ 1048576) (hcl : w.cell? ⟨B, 0, none⟩ = some (.string nm2)) :
    Calls Tryz.prog 226 #[.slice y n c, .func (.func 227) #[] #[.pointer (some ⟨B, 0, none⟩)]] w fun e w' => e = .returned (.int .i64 (roI ros nm2)) ∧ Grw w w' := by
  have RY : Hid (Rw (RoR 0) 5 w y ros) := h
  clear h
  have HCL : Hid (w.cell? ⟨B, 0, none⟩ = some (.string nm2)) := hcl
  clear hcl
  have eg : ∀ args w, (callFunc 227 args).run Tryz.prog w = .ok (.enter 227 args) w := enters_of Tryz.func227 (by kernel_rfl) rfl
  go_enter Tryz.func226, Tryz.ntmps226
  go_wp2
  go_loopw [8] (fun u wr => ∃ k : Nat, k ≤ n ∧ u = .int .i64 k ∧ Hid ((ros.take k).find? (rfP nm2) = none) ∧ Hid (Grw w wr)) (fun u _ => n - (intOf u).toNat)
  case atStart => exact ⟨0, Nat.zero_le _, rfl, rfl, Grw.refl _⟩
  case round =>
    obtain ⟨k, hk, rfl, HO, HG⟩ := hrel
    by_cases hlt : k < n
    · obtain ⟨z, hx⟩ := at_of hl hlt
      obtain ⟨bk, off, vs, rfl, hb, hvl, hR, hc⟩ := RY.out.at (RoR.kp 0) HG.out.below hx
      have HY : Hid (rfP nm2 z = true → roI ros nm2 = k) := fun h => by unfold roI; rw [bfind_yes hx HO.out h, bfind_at hx HO.out h]
      have HN : Hid (rfP nm2 z = false → (ros.take (k + 1)).find? (rfP nm2) = none) := fun h => bfind_no hx HO.out h
      obtain ⟨nm, rrs, rq, rm, ri⟩ := z
      obtain ⟨ra, rc2, rfl, -⟩ := hR
      have q0 : wr.cell? ⟨bk, off + k * 5, none⟩ = some (.string nm) := hc 0 _ rfl
      have q1 : wr.cell? ⟨bk, off + k * 5 + 1, none⟩ = some (.slice ra rrs.length rc2) := hc 1 _ rfl
      have q2 : wr.cell? ⟨bk, off + k * 5 + 2, none⟩ = some (.int .i64 rq) := hc 2 _ rfl
      have q3 : wr.cell? ⟨bk, off + k * 5 + 3, none⟩ = some (.int .i64 rm) := hc 3 _ rfl
      have q4 : wr.cell? ⟨bk, off + k * 5 + 4, none⟩ = some (.int .i64 ri) := hc 4 _ rfl
      have hltz : (k : Int) < (n : Int) := by omega
      have he : rfP nm2 ⟨nm, rrs, rq, rm, ri⟩ = (nm.toList == nm2.toList) := rfl
      rw [he] at HY HN
      have HP : Hid (∀ W, Grw w W → Calls Tryz.prog 227 #[.agg #[.string nm, .slice ra rrs.length rc2, .int .i64 rq, .int .i64 rm, .int .i64 ri], .pointer (some ⟨B, 0, none⟩)] W fun e w' => e = .returned (.bool (nm.toList == nm2.toList)) ∧ Grw W w') := fun W g => rolePlace1_any nm nm2 ra rrs.length rc2 rq rm ri B W (g.keep HCL.out)
      generalize (nm.toList == nm2.toList) = u at HY HN HP
      clear hc hvl he hx
      cases u with
      | false =>
        have HN' : Hid ((ros.take (k + 1)).find? (rfP nm2) = none) := HN.out rfl
        clear HY HN
        go_wp2_with (go_at_fn 227; refine (HP.out _ HG.out).mono ?_; rintro e w' ⟨rfl, g1⟩)
        have HG1 : Hid (Grw w _) := HG.out.trans g1
        clear g1 HG
        go_roundw
        case rel => exact ⟨k + 1, by omega, by go_num, HN', HG1⟩
        case measure => simp [intOf]; omega
      | true =>
        have HY' : Hid (roI ros nm2 = k) := HY.out rfl
        clear HY HN
        go_wp2_with (go_at_fn 227; refine (HP.out _ HG.out).mono ?_; rintro e w' ⟨rfl, g1⟩)
        go_ret
        exact ⟨by rw [HY'.out]; rfl, HG.out.trans g1⟩
    · obtain rfl : k = n := by omega
      have hd : Hid (roI ros nm2 = -1) := by show roI ros nm2 = -1; unfold roI; rw [bfind_end hl HO.out]
      go_wp2
      go_ret
      exact ⟨by rw [hd.out]; rfl, HG.out⟩
set_option maxHeartbeats 1000000 in
theorem rolePlace_any (ip b gt : Int) (gm wm : ByteArray) (rs : Int) (x y : Option Addr) (lenx capx leny capy : Nat) (ros : List RoleV) (nm2 : ByteArray) (w : World) (h : Rw (RoR 0) 5 w y ros) (hl : ros.length = leny) (hl9 : leny ≤ 1048576) :
    Calls Tryz.prog 173 #[.agg #[.int .i64 ip, .int .i64 b, .int .i64 gt, .string gm, .string wm, .int .i64 rs, .slice x lenx capx, .slice y leny capy], .string nm2] w fun e w' => e = .returned (.int .i64 (roI ros nm2)) ∧ Grw w w' := by
  have RY : Hid (Rw (RoR 0) 5 w y ros) := h
  have HX : Hid (∀ W B, Grw w W → W.cell? ⟨B, 0, none⟩ = some (.string nm2) → Calls Tryz.prog 226 #[.slice y leny capy, .func (.func 227) #[] #[.pointer (some ⟨B, 0, none⟩)]] W fun e w' => e = .returned (.int .i64 (roI ros nm2)) ∧ Grw W w') := fun W B g hc => idxRole_any y leny capy ros nm2 B W (RY.out.keep (RoR.kp 0) g.below) hl hl9 hc
  clear h
  generalize roI ros nm2 = r at HX ⊢
  go_enter Tryz.func173, Tryz.ntmps173
  go_wp2_with (go_at_call 226; refine (HX.out _ _ (((Grw.refl w).alloc _).alloc _) (by simp [go_sem])).mono ?_; rintro e w' ⟨rfl, g1⟩)
  go_ret
  exact ⟨rfl, (((Grw.refl w).alloc _).alloc _).trans g1⟩
set_option maxHeartbeats 2000000 in
theorem userOK_any (ip b gt : Int) (gm wm : ByteArray) (rs : Int) (x y : Option Addr) (lenx capx leny capy : Nat) (ros : List RoleV) (nm : ByteArray) (sa : ByteArray) (ha : ByteArray) (ro : ByteArray) (bl : Int) (lg : Int) (w : World) (h : Rw (RoR 0) 5 w y ros) (hl : ros.length = leny) (hl9 : leny ≤ 1048576) (hsz : nm.size ≤ 1048576 ∧ sa.size ≤ 1048576 ∧ ha.size ≤ 1048576 ∧ ro.size ≤ 1048576) :
    Calls Tryz.prog 188 #[.agg #[.int .i64 ip, .int .i64 b, .int .i64 gt, .string gm, .string wm, .int .i64 rs, .slice x lenx capx, .slice y leny capy], .agg #[.string nm, .string sa, .string ha, .string ro, .int .i64 bl, .int .i64 lg]] w fun e w' => e = .returned (.bool (uB ros ⟨nm, sa, ha, ro, bl, lg⟩)) ∧ Grw w w' := by
  have RY : Hid (Rw (RoR 0) 5 w y ros) := h
  have HN : Hid (∀ w, Calls Tryz.prog 236 #[.string nm] w fun e w' => e = .returned (.bool (snB nm)) ∧ w' = w) := fun w => shortNameOK_any nm w hsz.1
  have HR : Hid (∀ w, Rw (RoR 0) 5 w y ros → Calls Tryz.prog 173 #[.agg #[.int .i64 ip, .int .i64 b, .int .i64 gt, .string gm, .string wm, .int .i64 rs, .slice x lenx capx, .slice y leny capy], .string ro] w fun e w' => e = .returned (.int .i64 (roI ros ro)) ∧ Grw w w') := fun w h => rolePlace_any ip b gt gm wm rs x y lenx capx leny capy ros ro w h hl hl9
  have HK : Hid (∀ w, Calls Tryz.prog 237 #[.int .i64 bl, .int .i64 lg] w fun e w' => e = .returned (.bool (dec (0 ≤ bl ∧ bl ≤ 1000000) && dec (0 ≤ lg ∧ lg ≤ 1000))) ∧ w' = w) := fun w => creditOK_any bl lg w
  have eu : uB ros ⟨nm, sa, ha, ro, bl, lg⟩ = (snB nm && (dec (sa.size ≤ 40) && (dec (ha.size = 32) && (roH ros ro && (dec (0 ≤ bl ∧ bl ≤ 1000000) && dec (0 ≤ lg ∧ lg ≤ 1000)))))) := rfl
  rw [eu]
  have hss : (sa.size : Int) ≤ 1048576 := by omega
  have hhs : (ha.size : Int) ≤ 1048576 := by omega
  clear h eu
  obtain ⟨q4, hq4⟩ : ∃ q, roH ros ro = q := ⟨_, rfl⟩
  obtain ⟨r, hr⟩ : ∃ r, roI ros ro = r := ⟨_, rfl⟩
  have hrr : (q4 = false ∧ decide (0 ≤ r) = false) ∨ (q4 = true ∧ decide (0 ≤ r) = true) := by
    rw [← hq4, ← hr]
    unfold roH roI
    cases ros.find? (rfP ro) with
    | none => left; exact ⟨rfl, by simp⟩
    | some v => right; exact ⟨rfl, by first | (simp; done) | (simp; omega)⟩
  rw [hq4]
  rw [hr] at HR
  clear hq4 hr
  generalize snB nm = q1 at HN ⊢
  generalize (dec (0 ≤ bl ∧ bl ≤ 1000000) && dec (0 ≤ lg ∧ lg ≤ 1000)) = q5 at HK ⊢
  have b1 : Hid (Grw w ((w.alloc (.cells #[.int .i64 ip, .int .i64 b, .int .i64 gt, .string gm, .string wm, .int .i64 rs, .slice x lenx capx, .slice y leny capy] 40)).alloc (.cells #[.string nm, .string sa, .string ha, .string ro, .int .i64 bl, .int .i64 lg] 144))) := ((Grw.refl w).alloc _).alloc _
  cases q1 with
  | false =>
    go_enter Tryz.func188, Tryz.ntmps188
    go_wp2_with fail
    refine (HN.out _).mono ?_
    rintro e w1 ⟨rfl, hw⟩
    subst hw
    go_wp2
    go_ret
    exact ⟨by first | rfl | simp, b1.out⟩
  | true =>
    by_cases hsa : sa.size ≤ 40
    rotate_left
    · rw [dec_n hsa]
      have hsz1 : decide ((sa.size : Int) ≤ 40) = false := decide_eq_false (by omega)
      go_enter Tryz.func188, Tryz.ntmps188
      go_wp2_with fail
      refine (HN.out _).mono ?_
      rintro e w1 ⟨rfl, hw⟩
      subst hw
      go_wp2
      go_ret
      exact ⟨by first | rfl | simp, b1.out⟩
    rw [dec_y hsa]
    have hsz1 : decide ((sa.size : Int) ≤ 40) = true := decide_eq_true (by omega)
    by_cases hha : ha.size = 32
    rotate_left
    · rw [dec_n hha]
      have hsz2 : ((ha.size : Int) == 32) = false := by simp; omega
      go_enter Tryz.func188, Tryz.ntmps188
      go_wp2_with fail
      refine (HN.out _).mono ?_
      rintro e w1 ⟨rfl, hw⟩
      subst hw
      go_wp2
      go_ret
      exact ⟨by first | rfl | simp, b1.out⟩
    rw [dec_y hha]
    have hsz2 : ((ha.size : Int) == 32) = true := by simp; omega
    rcases hrr with ⟨rfl, hr0⟩ | ⟨rfl, hr0⟩
    · go_enter Tryz.func188, Tryz.ntmps188
      go_wp2_with fail
      refine (HN.out _).mono ?_
      rintro e w1 ⟨rfl, hw⟩
      subst hw
      go_wp2_with fail
      refine (HR.out _ (RY.out.keep (RoR.kp 0) b1.out.below)).mono ?_
      rintro e w2 ⟨rfl, g2⟩
      go_wp2
      go_ret
      exact ⟨by first | rfl | simp, b1.out.trans g2⟩
    · go_enter Tryz.func188, Tryz.ntmps188
      go_wp2_with fail
      refine (HN.out _).mono ?_
      rintro e w1 ⟨rfl, hw⟩
      subst hw
      go_wp2_with fail
      refine (HR.out _ (RY.out.keep (RoR.kp 0) b1.out.below)).mono ?_
      rintro e w2 ⟨rfl, g2⟩
      have k4 : w2.cell? ⟨w.heap.size + 1, 4, none⟩ = some (.int .i64 bl) := g2.keep (a := ⟨w.heap.size + 1, 4, none⟩) (v := .int .i64 bl) (by simp [go_sem])
      have k5 : w2.cell? ⟨w.heap.size + 1, 5, none⟩ = some (.int .i64 lg) := g2.keep (a := ⟨w.heap.size + 1, 5, none⟩) (v := .int .i64 lg) (by simp [go_sem])
      have B2 : Hid (Grw w w2) := b1.out.trans g2
      clear g2
      go_wp2_with fail
      refine (HK.out _).mono ?_
      rintro e w1 ⟨rfl, hw⟩
      subst hw
      go_wp2
      go_ret
      exact ⟨by first | rfl | simp, B2.out⟩
set_option maxHeartbeats 8000000 in
theorem usersOK_any (ip b gt : Int) (gm wm : ByteArray) (rs : Int) (x y : Option Addr) (lenx capx leny capy : Nat) (ros : List RoleV) (a : Option Addr) (len cap : Nat) (us : List UserV) (w : World) (h : Rw (RoR 0) 5 w y ros) (hl2 : ros.length = leny) (hu : Rw UsR 6 w a us) (hl : us.length = len) (hsz : SzU us) (hl9 : leny ≤ 1048576) (hl8 : len ≤ 1048576) :
    Calls Tryz.prog 121 #[.agg #[.int .i64 ip, .int .i64 b, .int .i64 gt, .string gm, .string wm, .int .i64 rs, .slice x lenx capx, .slice y leny capy], .slice a len cap] w fun e w' => e = .returned (.bool (usB ros us)) ∧ Grw w w' := by
  have RY : Hid (Rw (RoR 0) 5 w y ros) := h
  have RW : Hid (Rw UsR 6 w a us) := hu
  have SZ : Hid (SzU us) := hsz
  clear h hu hsz
  by_cases h6 : len ≤ 6
  rotate_left
  · have hv : Hid (usB ros us = false) := by show usB ros us = false; unfold usB; rw [dec_n (by omega)]; rfl
    have h6z : (6 : Int) < (len : Int) := by omega
    go_enter Tryz.func121, Tryz.ntmps121
    go_wp2
    go_ret
    exact ⟨by rw [hv.out]; rfl, (Grw.refl _).alloc _⟩
  have h6z : (len : Int) ≤ 6 := by omega
  go_enter Tryz.func121, Tryz.ntmps121
  go_wp2
  go_loopw [12] (fun u wr => ∃ k : Nat, k ≤ len ∧ u = .int .i64 k ∧ Hid ((List.range k).all (risAt (uB ros) ltU us) = true) ∧ Hid (Grw w wr ∧ wr.cell? ⟨w.heap.size, 0, none⟩ = some (.int .i64 ip) ∧ wr.cell? ⟨w.heap.size, 1, none⟩ = some (.int .i64 b) ∧ wr.cell? ⟨w.heap.size, 2, none⟩ = some (.int .i64 gt) ∧ wr.cell? ⟨w.heap.size, 3, none⟩ = some (.string gm) ∧ wr.cell? ⟨w.heap.size, 4, none⟩ = some (.string wm) ∧ wr.cell? ⟨w.heap.size, 5, none⟩ = some (.int .i64 rs) ∧ wr.cell? ⟨w.heap.size, 6, none⟩ = some (.slice x lenx capx) ∧ wr.cell? ⟨w.heap.size, 7, none⟩ = some (.slice y leny capy))) (fun u _ => len - (intOf u).toNat)
  case atStart => exact ⟨0, Nat.zero_le _, rfl, rfl, (Grw.refl _).alloc _, by simp [go_sem], by simp [go_sem], by simp [go_sem], by simp [go_sem], by simp [go_sem], by simp [go_sem], by simp [go_sem], by simp [go_sem]⟩
  case round =>
    obtain ⟨k, hk, rfl, HO, HG⟩ := hrel
    obtain ⟨G0, d0, d1, d2, d3, d4, d5, d6, d7⟩ := HG.out
    have GG := G0.below
    by_cases hlt : k < len
    · obtain ⟨z, hx⟩ := at_of hl hlt
      obtain ⟨bk, off, vs, rfl, hb, hvl, hR, hc⟩ := RW.out.at UsR.kp GG hx
      have hsz := SZ.out _ (List.mem_of_getElem? hx)
      have HS : Hid (risAt (uB ros) ltU us k = true → (List.range (k + 1)).all (risAt (uB ros) ltU us) = true) := fun h => ris_step HO.out h
      have HF : Hid (risAt (uB ros) ltU us k = false → risB (uB ros) ltU us = false) := fun h => ris_no (by omega) h
      obtain ⟨nm, sa, ha, ro, bl, lg⟩ := z
      obtain ⟨rfl, -⟩ := hR
      have q0 : wr.cell? ⟨bk, off + k * 6, none⟩ = some (.string nm) := hc 0 _ rfl
      have q1 : wr.cell? ⟨bk, off + k * 6 + 1, none⟩ = some (.string sa) := hc 1 _ rfl
      have q2 : wr.cell? ⟨bk, off + k * 6 + 2, none⟩ = some (.string ha) := hc 2 _ rfl
      have q3 : wr.cell? ⟨bk, off + k * 6 + 3, none⟩ = some (.string ro) := hc 3 _ rfl
      have q4 : wr.cell? ⟨bk, off + k * 6 + 4, none⟩ = some (.int .i64 bl) := hc 4 _ rfl
      have q5 : wr.cell? ⟨bk, off + k * 6 + 5, none⟩ = some (.int .i64 lg) := hc 5 _ rfl
      have HK : Hid (∀ w, Rw (RoR 0) 5 w y ros → Calls Tryz.prog 188 #[.agg #[.int .i64 ip, .int .i64 b, .int .i64 gt, .string gm, .string wm, .int .i64 rs, .slice x lenx capx, .slice y leny capy], .agg #[.string nm, .string sa, .string ha, .string ro, .int .i64 bl, .int .i64 lg]] w fun e w' => e = .returned (.bool (uB ros ⟨nm, sa, ha, ro, bl, lg⟩)) ∧ Grw w w') := fun w h => userOK_any ip b gt gm wm rs x y lenx capx leny capy ros nm sa ha ro bl lg w h hl2 hl9 hsz
      have hltz : (k : Int) < (len : Int) := by omega
      by_cases hk0 : k = 0
      · have eo : risAt (uB ros) ltU us k = uB ros ⟨nm, sa, ha, ro, bl, lg⟩ := by subst hk0; exact risAt_zero hx
        have hkd : decide (0 < k) = false := decide_eq_false (by omega)
        clear hk0
        rw [eo] at HS HF
        generalize uB ros ⟨nm, sa, ha, ro, bl, lg⟩ = q at HK HS HF
        clear hc hvl hx eo
        have HA : Hid (Grw w (wr.alloc (.cells #[.string nm, .string sa, .string ha, .string ro, .int .i64 bl, .int .i64 lg] 144))) := G0.alloc _
        have hmix : Tryz.prog.follows .mixedOrders = true := by kernel_rfl
        have y0 : ∀ n os, (grow (World.drewN (wr.alloc (.cells #[.string nm, .string sa, .string ha, .string ro, .int .i64 bl, .int .i64 lg] 144)) n) os).cell? ⟨wr.heap.size, 0, none⟩ = some (.string nm) := fun n os => cell_grown (by simp) (by simp) n os
        have y1 : ∀ n os, (grow (World.drewN (wr.alloc (.cells #[.string nm, .string sa, .string ha, .string ro, .int .i64 bl, .int .i64 lg] 144)) n) os).cell? ⟨wr.heap.size, 1, none⟩ = some (.string sa) := fun n os => cell_grown (by simp) (by simp) n os
        have y2 : ∀ n os, (grow (World.drewN (wr.alloc (.cells #[.string nm, .string sa, .string ha, .string ro, .int .i64 bl, .int .i64 lg] 144)) n) os).cell? ⟨wr.heap.size, 2, none⟩ = some (.string ha) := fun n os => cell_grown (by simp) (by simp) n os
        have y3 : ∀ n os, (grow (World.drewN (wr.alloc (.cells #[.string nm, .string sa, .string ha, .string ro, .int .i64 bl, .int .i64 lg] 144)) n) os).cell? ⟨wr.heap.size, 3, none⟩ = some (.string ro) := fun n os => cell_grown (by simp) (by simp) n os
        have y4 : ∀ n os, (grow (World.drewN (wr.alloc (.cells #[.string nm, .string sa, .string ha, .string ro, .int .i64 bl, .int .i64 lg] 144)) n) os).cell? ⟨wr.heap.size, 4, none⟩ = some (.int .i64 bl) := fun n os => cell_grown (by simp) (by simp) n os
        have y5 : ∀ n os, (grow (World.drewN (wr.alloc (.cells #[.string nm, .string sa, .string ha, .string ro, .int .i64 bl, .int .i64 lg] 144)) n) os).cell? ⟨wr.heap.size, 5, none⟩ = some (.int .i64 lg) := fun n os => cell_grown (by simp) (by simp) n os
        have e0 : ∀ n os, (grow (World.drewN (wr.alloc (.cells #[.string nm, .string sa, .string ha, .string ro, .int .i64 bl, .int .i64 lg] 144)) n) os).cell? ⟨w.heap.size, 0, none⟩ = some (.int .i64 ip) := fun n os => (((Grw.refl wr).alloc _).trans ⟨n, os, rfl⟩).keep d0
        have e1 : ∀ n os, (grow (World.drewN (wr.alloc (.cells #[.string nm, .string sa, .string ha, .string ro, .int .i64 bl, .int .i64 lg] 144)) n) os).cell? ⟨w.heap.size, 1, none⟩ = some (.int .i64 b) := fun n os => (((Grw.refl wr).alloc _).trans ⟨n, os, rfl⟩).keep d1
        have e2 : ∀ n os, (grow (World.drewN (wr.alloc (.cells #[.string nm, .string sa, .string ha, .string ro, .int .i64 bl, .int .i64 lg] 144)) n) os).cell? ⟨w.heap.size, 2, none⟩ = some (.int .i64 gt) := fun n os => (((Grw.refl wr).alloc _).trans ⟨n, os, rfl⟩).keep d2
        have e3 : ∀ n os, (grow (World.drewN (wr.alloc (.cells #[.string nm, .string sa, .string ha, .string ro, .int .i64 bl, .int .i64 lg] 144)) n) os).cell? ⟨w.heap.size, 3, none⟩ = some (.string gm) := fun n os => (((Grw.refl wr).alloc _).trans ⟨n, os, rfl⟩).keep d3
        have e4 : ∀ n os, (grow (World.drewN (wr.alloc (.cells #[.string nm, .string sa, .string ha, .string ro, .int .i64 bl, .int .i64 lg] 144)) n) os).cell? ⟨w.heap.size, 4, none⟩ = some (.string wm) := fun n os => (((Grw.refl wr).alloc _).trans ⟨n, os, rfl⟩).keep d4
        have e5 : ∀ n os, (grow (World.drewN (wr.alloc (.cells #[.string nm, .string sa, .string ha, .string ro, .int .i64 bl, .int .i64 lg] 144)) n) os).cell? ⟨w.heap.size, 5, none⟩ = some (.int .i64 rs) := fun n os => (((Grw.refl wr).alloc _).trans ⟨n, os, rfl⟩).keep d5
        have e6 : ∀ n os, (grow (World.drewN (wr.alloc (.cells #[.string nm, .string sa, .string ha, .string ro, .int .i64 bl, .int .i64 lg] 144)) n) os).cell? ⟨w.heap.size, 6, none⟩ = some (.slice x lenx capx) := fun n os => (((Grw.refl wr).alloc _).trans ⟨n, os, rfl⟩).keep d6
        have e7 : ∀ n os, (grow (World.drewN (wr.alloc (.cells #[.string nm, .string sa, .string ha, .string ro, .int .i64 bl, .int .i64 lg] 144)) n) os).cell? ⟨w.heap.size, 7, none⟩ = some (.slice y leny capy) := fun n os => (((Grw.refl wr).alloc _).trans ⟨n, os, rfl⟩).keep d7
        have YR : Hid (∀ n os, Rw (RoR 0) 5 (grow (World.drewN (wr.alloc (.cells #[.string nm, .string sa, .string ha, .string ro, .int .i64 bl, .int .i64 lg] 144)) n) os) y ros) := fun n os => RY.out.keep (RoR.kp 0) (HA.out.trans ⟨n, os, rfl⟩).below
        cases q with
        | false =>
          have hd : Hid (risB (uB ros) ltU us = false) := HF.out (by simp)
          have hv : Hid (usB ros us = false) := by show usB ros us = false; unfold usB; rw [hd.out, Bool.and_false]
          go_wp2_with fail
          refine wp_region_quiet_grown (by assumption) (by kernel_rfl) ?_
          repeat (go_big_quiet_step (first | fail | (go_at_call 188; exact Calls.grown_of (HK.out _ (YR.out _ _)))))
          refine wpQuiet_nil ?_
          intro _ hw'
          obtain ⟨⟨nq, osq⟩, hw''⟩ := hw'
          subst hw''
          have HG1 : Hid (Grw w _) := HA.out.trans ⟨nq, osq, rfl⟩
          clear y0 y1 y2 y3 y4 y5 e0 e1 e2 e3 e4 e5 e6 e7
          go_wp2
          go_ret
          exact ⟨by rw [hv.out]; rfl, HG1.out⟩
        | true =>
          have HS' : Hid ((List.range (k + 1)).all (risAt (uB ros) ltU us) = true) := HS.out (by simp)
          clear HS HF
          go_wp2_with fail
          refine wp_region_quiet_grown (by assumption) (by kernel_rfl) ?_
          repeat (go_big_quiet_step (first | fail | (go_at_call 188; exact Calls.grown_of (HK.out _ (YR.out _ _)))))
          refine wpQuiet_nil ?_
          intro _ hw'
          obtain ⟨⟨nq, osq⟩, hw''⟩ := hw'
          subst hw''
          have HG1 : Hid (Grw w (grow (World.drewN (wr.alloc (.cells #[.string nm, .string sa, .string ha, .string ro, .int .i64 bl, .int .i64 lg] 144)) nq) osq) ∧ (grow (World.drewN (wr.alloc (.cells #[.string nm, .string sa, .string ha, .string ro, .int .i64 bl, .int .i64 lg] 144)) nq) osq).cell? ⟨w.heap.size, 0, none⟩ = some (.int .i64 ip) ∧ (grow (World.drewN (wr.alloc (.cells #[.string nm, .string sa, .string ha, .string ro, .int .i64 bl, .int .i64 lg] 144)) nq) osq).cell? ⟨w.heap.size, 1, none⟩ = some (.int .i64 b) ∧ (grow (World.drewN (wr.alloc (.cells #[.string nm, .string sa, .string ha, .string ro, .int .i64 bl, .int .i64 lg] 144)) nq) osq).cell? ⟨w.heap.size, 2, none⟩ = some (.int .i64 gt) ∧ (grow (World.drewN (wr.alloc (.cells #[.string nm, .string sa, .string ha, .string ro, .int .i64 bl, .int .i64 lg] 144)) nq) osq).cell? ⟨w.heap.size, 3, none⟩ = some (.string gm) ∧ (grow (World.drewN (wr.alloc (.cells #[.string nm, .string sa, .string ha, .string ro, .int .i64 bl, .int .i64 lg] 144)) nq) osq).cell? ⟨w.heap.size, 4, none⟩ = some (.string wm) ∧ (grow (World.drewN (wr.alloc (.cells #[.string nm, .string sa, .string ha, .string ro, .int .i64 bl, .int .i64 lg] 144)) nq) osq).cell? ⟨w.heap.size, 5, none⟩ = some (.int .i64 rs) ∧ (grow (World.drewN (wr.alloc (.cells #[.string nm, .string sa, .string ha, .string ro, .int .i64 bl, .int .i64 lg] 144)) nq) osq).cell? ⟨w.heap.size, 6, none⟩ = some (.slice x lenx capx) ∧ (grow (World.drewN (wr.alloc (.cells #[.string nm, .string sa, .string ha, .string ro, .int .i64 bl, .int .i64 lg] 144)) nq) osq).cell? ⟨w.heap.size, 7, none⟩ = some (.slice y leny capy)) := ⟨HA.out.trans ⟨nq, osq, rfl⟩, e0 nq osq, e1 nq osq, e2 nq osq, e3 nq osq, e4 nq osq, e5 nq osq, e6 nq osq, e7 nq osq⟩
          clear y0 y1 y2 y3 y4 y5 e0 e1 e2 e3 e4 e5 e6 e7
          go_wp2
          go_roundw
          case rel => exact ⟨k + 1, by omega, by go_num, HS', HG1⟩
          case measure => simp [intOf]; omega
      · obtain ⟨j, hkj⟩ : ∃ j, k = j + 1 := ⟨k - 1, by omega⟩
        obtain ⟨z', hx'⟩ := at_of (k := j) hl (by omega)
        obtain ⟨b', off', vs', e', hb', hvl', hR', hc'⟩ := RW.out.at UsR.kp GG hx'
        cases e'
        obtain ⟨nm', sa', ha', ro', bl', lg'⟩ := z'
        obtain ⟨rfl, -⟩ := hR'
        have p0 : wr.cell? ⟨bk, off + j * 6, none⟩ = some (.string nm') := hc' 0 _ rfl
        obtain ⟨lt, hlt2⟩ : ∃ lt, Op.bytesLess nm'.toList nm.toList = lt := ⟨_, rfl⟩
        have eo : risAt (uB ros) ltU us k = (uB ros ⟨nm, sa, ha, ro, bl, lg⟩ && lt) := by subst hkj; rw [← hlt2]; exact risAt_succ hx hx'
        have hkd : decide (0 < k) = true := decide_eq_true (by omega)
        have hj : (k : Int) - 1 = (j : Int) := by omega
        have hjl : (j : Int) < (len : Int) := by omega
        clear hk0 hkj
        rw [eo] at HS HF
        generalize uB ros ⟨nm, sa, ha, ro, bl, lg⟩ = q at HK HS HF
        clear hc hvl hx eo hc' hvl' hx'
        have HA : Hid (Grw w (wr.alloc (.cells #[.string nm, .string sa, .string ha, .string ro, .int .i64 bl, .int .i64 lg] 144))) := G0.alloc _
        have hmix : Tryz.prog.follows .mixedOrders = true := by kernel_rfl
        have y0 : ∀ n os, (grow (World.drewN (wr.alloc (.cells #[.string nm, .string sa, .string ha, .string ro, .int .i64 bl, .int .i64 lg] 144)) n) os).cell? ⟨wr.heap.size, 0, none⟩ = some (.string nm) := fun n os => cell_grown (by simp) (by simp) n os
        have y1 : ∀ n os, (grow (World.drewN (wr.alloc (.cells #[.string nm, .string sa, .string ha, .string ro, .int .i64 bl, .int .i64 lg] 144)) n) os).cell? ⟨wr.heap.size, 1, none⟩ = some (.string sa) := fun n os => cell_grown (by simp) (by simp) n os
        have y2 : ∀ n os, (grow (World.drewN (wr.alloc (.cells #[.string nm, .string sa, .string ha, .string ro, .int .i64 bl, .int .i64 lg] 144)) n) os).cell? ⟨wr.heap.size, 2, none⟩ = some (.string ha) := fun n os => cell_grown (by simp) (by simp) n os
        have y3 : ∀ n os, (grow (World.drewN (wr.alloc (.cells #[.string nm, .string sa, .string ha, .string ro, .int .i64 bl, .int .i64 lg] 144)) n) os).cell? ⟨wr.heap.size, 3, none⟩ = some (.string ro) := fun n os => cell_grown (by simp) (by simp) n os
        have y4 : ∀ n os, (grow (World.drewN (wr.alloc (.cells #[.string nm, .string sa, .string ha, .string ro, .int .i64 bl, .int .i64 lg] 144)) n) os).cell? ⟨wr.heap.size, 4, none⟩ = some (.int .i64 bl) := fun n os => cell_grown (by simp) (by simp) n os
        have y5 : ∀ n os, (grow (World.drewN (wr.alloc (.cells #[.string nm, .string sa, .string ha, .string ro, .int .i64 bl, .int .i64 lg] 144)) n) os).cell? ⟨wr.heap.size, 5, none⟩ = some (.int .i64 lg) := fun n os => cell_grown (by simp) (by simp) n os
        have e0 : ∀ n os, (grow (World.drewN (wr.alloc (.cells #[.string nm, .string sa, .string ha, .string ro, .int .i64 bl, .int .i64 lg] 144)) n) os).cell? ⟨w.heap.size, 0, none⟩ = some (.int .i64 ip) := fun n os => (((Grw.refl wr).alloc _).trans ⟨n, os, rfl⟩).keep d0
        have e1 : ∀ n os, (grow (World.drewN (wr.alloc (.cells #[.string nm, .string sa, .string ha, .string ro, .int .i64 bl, .int .i64 lg] 144)) n) os).cell? ⟨w.heap.size, 1, none⟩ = some (.int .i64 b) := fun n os => (((Grw.refl wr).alloc _).trans ⟨n, os, rfl⟩).keep d1
        have e2 : ∀ n os, (grow (World.drewN (wr.alloc (.cells #[.string nm, .string sa, .string ha, .string ro, .int .i64 bl, .int .i64 lg] 144)) n) os).cell? ⟨w.heap.size, 2, none⟩ = some (.int .i64 gt) := fun n os => (((Grw.refl wr).alloc _).trans ⟨n, os, rfl⟩).keep d2
        have e3 : ∀ n os, (grow (World.drewN (wr.alloc (.cells #[.string nm, .string sa, .string ha, .string ro, .int .i64 bl, .int .i64 lg] 144)) n) os).cell? ⟨w.heap.size, 3, none⟩ = some (.string gm) := fun n os => (((Grw.refl wr).alloc _).trans ⟨n, os, rfl⟩).keep d3
        have e4 : ∀ n os, (grow (World.drewN (wr.alloc (.cells #[.string nm, .string sa, .string ha, .string ro, .int .i64 bl, .int .i64 lg] 144)) n) os).cell? ⟨w.heap.size, 4, none⟩ = some (.string wm) := fun n os => (((Grw.refl wr).alloc _).trans ⟨n, os, rfl⟩).keep d4
        have e5 : ∀ n os, (grow (World.drewN (wr.alloc (.cells #[.string nm, .string sa, .string ha, .string ro, .int .i64 bl, .int .i64 lg] 144)) n) os).cell? ⟨w.heap.size, 5, none⟩ = some (.int .i64 rs) := fun n os => (((Grw.refl wr).alloc _).trans ⟨n, os, rfl⟩).keep d5
        have e6 : ∀ n os, (grow (World.drewN (wr.alloc (.cells #[.string nm, .string sa, .string ha, .string ro, .int .i64 bl, .int .i64 lg] 144)) n) os).cell? ⟨w.heap.size, 6, none⟩ = some (.slice x lenx capx) := fun n os => (((Grw.refl wr).alloc _).trans ⟨n, os, rfl⟩).keep d6
        have e7 : ∀ n os, (grow (World.drewN (wr.alloc (.cells #[.string nm, .string sa, .string ha, .string ro, .int .i64 bl, .int .i64 lg] 144)) n) os).cell? ⟨w.heap.size, 7, none⟩ = some (.slice y leny capy) := fun n os => (((Grw.refl wr).alloc _).trans ⟨n, os, rfl⟩).keep d7
        have p1 : ∀ n os, (grow (World.drewN (wr.alloc (.cells #[.string nm, .string sa, .string ha, .string ro, .int .i64 bl, .int .i64 lg] 144)) n) os).cell? ⟨bk, off + j * 6, none⟩ = some (.string nm') := fun n os => (((Grw.refl wr).alloc _).trans ⟨n, os, rfl⟩).keep p0
        have YR : Hid (∀ n os, Rw (RoR 0) 5 (grow (World.drewN (wr.alloc (.cells #[.string nm, .string sa, .string ha, .string ro, .int .i64 bl, .int .i64 lg] 144)) n) os) y ros) := fun n os => RY.out.keep (RoR.kp 0) (HA.out.trans ⟨n, os, rfl⟩).below
        cases q with
        | false =>
          have hd : Hid (risB (uB ros) ltU us = false) := HF.out (by simp)
          have hv : Hid (usB ros us = false) := by show usB ros us = false; unfold usB; rw [hd.out, Bool.and_false]
          go_wp2_with fail
          refine wp_region_quiet_grown (by assumption) (by kernel_rfl) ?_
          repeat (go_big_quiet_step (first | fail | (go_at_call 188; exact Calls.grown_of (HK.out _ (YR.out _ _)))))
          refine wpQuiet_nil ?_
          intro _ hw'
          obtain ⟨⟨nq, osq⟩, hw''⟩ := hw'
          subst hw''
          have HG1 : Hid (Grw w _) := HA.out.trans ⟨nq, osq, rfl⟩
          clear y0 y1 y2 y3 y4 y5 e0 e1 e2 e3 e4 e5 e6 e7 p1
          go_wp2
          go_ret
          exact ⟨by rw [hv.out]; rfl, HG1.out⟩
        | true =>
          cases lt with
          | true =>
            have HS' : Hid ((List.range (k + 1)).all (risAt (uB ros) ltU us) = true) := HS.out (by simp)
            clear HS HF
            go_wp2_with fail
            refine wp_region_quiet_grown (by assumption) (by kernel_rfl) ?_
            repeat (go_big_quiet_step (first | fail | (go_at_call 188; exact Calls.grown_of (HK.out _ (YR.out _ _)))))
            refine wpQuiet_nil ?_
            intro _ hw'
            obtain ⟨⟨nq, osq⟩, hw''⟩ := hw'
            subst hw''
            have HG1 : Hid (Grw w (grow (World.drewN (wr.alloc (.cells #[.string nm, .string sa, .string ha, .string ro, .int .i64 bl, .int .i64 lg] 144)) nq) osq) ∧ (grow (World.drewN (wr.alloc (.cells #[.string nm, .string sa, .string ha, .string ro, .int .i64 bl, .int .i64 lg] 144)) nq) osq).cell? ⟨w.heap.size, 0, none⟩ = some (.int .i64 ip) ∧ (grow (World.drewN (wr.alloc (.cells #[.string nm, .string sa, .string ha, .string ro, .int .i64 bl, .int .i64 lg] 144)) nq) osq).cell? ⟨w.heap.size, 1, none⟩ = some (.int .i64 b) ∧ (grow (World.drewN (wr.alloc (.cells #[.string nm, .string sa, .string ha, .string ro, .int .i64 bl, .int .i64 lg] 144)) nq) osq).cell? ⟨w.heap.size, 2, none⟩ = some (.int .i64 gt) ∧ (grow (World.drewN (wr.alloc (.cells #[.string nm, .string sa, .string ha, .string ro, .int .i64 bl, .int .i64 lg] 144)) nq) osq).cell? ⟨w.heap.size, 3, none⟩ = some (.string gm) ∧ (grow (World.drewN (wr.alloc (.cells #[.string nm, .string sa, .string ha, .string ro, .int .i64 bl, .int .i64 lg] 144)) nq) osq).cell? ⟨w.heap.size, 4, none⟩ = some (.string wm) ∧ (grow (World.drewN (wr.alloc (.cells #[.string nm, .string sa, .string ha, .string ro, .int .i64 bl, .int .i64 lg] 144)) nq) osq).cell? ⟨w.heap.size, 5, none⟩ = some (.int .i64 rs) ∧ (grow (World.drewN (wr.alloc (.cells #[.string nm, .string sa, .string ha, .string ro, .int .i64 bl, .int .i64 lg] 144)) nq) osq).cell? ⟨w.heap.size, 6, none⟩ = some (.slice x lenx capx) ∧ (grow (World.drewN (wr.alloc (.cells #[.string nm, .string sa, .string ha, .string ro, .int .i64 bl, .int .i64 lg] 144)) nq) osq).cell? ⟨w.heap.size, 7, none⟩ = some (.slice y leny capy)) := ⟨HA.out.trans ⟨nq, osq, rfl⟩, e0 nq osq, e1 nq osq, e2 nq osq, e3 nq osq, e4 nq osq, e5 nq osq, e6 nq osq, e7 nq osq⟩
            clear y0 y1 y2 y3 y4 y5 e0 e1 e2 e3 e4 e5 e6 e7 p1
            go_wp2
            go_roundw
            case rel => exact ⟨k + 1, by omega, by go_num, HS', HG1⟩
            case measure => simp [intOf]; omega
          | false =>
            have hd : Hid (risB (uB ros) ltU us = false) := HF.out (by simp)
            have hv : Hid (usB ros us = false) := by show usB ros us = false; unfold usB; rw [hd.out, Bool.and_false]
            go_wp2_with fail
            refine wp_region_quiet_grown (by assumption) (by kernel_rfl) ?_
            repeat (go_big_quiet_step (first | fail | (go_at_call 188; exact Calls.grown_of (HK.out _ (YR.out _ _)))))
            refine wpQuiet_nil ?_
            intro _ hw'
            obtain ⟨⟨nq, osq⟩, hw''⟩ := hw'
            subst hw''
            have HG1 : Hid (Grw w _) := HA.out.trans ⟨nq, osq, rfl⟩
            clear y0 y1 y2 y3 y4 y5 e0 e1 e2 e3 e4 e5 e6 e7 p1
            go_wp2
            go_ret
            exact ⟨by rw [hv.out]; rfl, HG1.out⟩
    · obtain rfl : k = len := by omega
      have hv : Hid (usB ros us = true) := by show usB ros us = true; unfold usB; rw [ris_end hl HO.out, dec_y (by omega)]; rfl
      go_wp2
      go_ret
      exact ⟨by rw [hv.out]; rfl, G0⟩
end Go.Proofs.YtlebblmlbhnppaaGreat

namespace Go.Proofs.YtlebblmlbhnppaaGreat
open Go.RowKit Go.Maps Go.ChangeMaps Go.MapKept
open Go.WideElems (Fit rd rg pl rd_val elemAt)
set_option linter.unusedVariables false
theorem own_clear {H : Type} {P : Program} {k t e : TypeId} {R : Value → Option (DataW H × List MemPlace)} {w : World} {b n : Nat} {D : DataW H} (h : w.ownsMap P k R b n D) (ht : P.underlying t = some (.map k e)) (ty : TypeId) :
    ∃ w', (Builtin.clear_ #[t] ty #[.map (some b)]).run P w = .ok (.tuple #[]) w' ∧ w'.ownsMap P k R b 0 (.map []) ∧ w.grownBy w' (some b) := by
  obtain ⟨es, clock, hb, F, hs, hD⟩ := h
  have hlt : b < w.heap.size := (Array.getElem?_eq_some_iff.1 hb).1
  refine ⟨setBlock w b (.map #[] clock), ?_, ⟨#[], clock, heap_setBlock_same hb _, ⟨by simp, stamped_empty clock, by simp⟩, Nat.le_refl _, rfl⟩, ⟨rfl, rfl, rfl, by simp [setBlock], fun i _ hi => heap_setBlock_other hb _ (fun e => hi (by rw [e]))⟩⟩
  unfold Builtin.clear_
  have e1 : (underlying t).run P w = .ok (.map k e) w := by simp [underlying, ht]
  have e2 := MapKept.run_getObj_map (P := P) hb
  have e3 := MapKept.run_setObj_map (P := P) (.map #[] clock) hb
  simp [go_sem, e1, e2, e3, setBlock]
end Go.Proofs.YtlebblmlbhnppaaGreat
