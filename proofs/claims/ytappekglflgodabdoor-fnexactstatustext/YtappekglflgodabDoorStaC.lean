/- StatusText of the model, at every argument. -/
import Derived.Test.YtappekglflgodabDoorStaB
namespace Go.Proofs.YtappekglflgodabDoor
open Go.RowKit Go.PlainAid Go.Proofs.YtappekglflgodabDoor.Bt Go.Sort
set_option linter.unusedVariables false
set_option maxRecDepth 20000

theorem specIn_dec (n lo hi : Int) (w : World) : Calls Tryd.prog 13 #[.int .i64 n, .int .i64 lo, .int .i64 hi] w fun e w' => e = .returned (.bool (decide (lo ≤ n ∧ n ≤ hi))) ∧ w' = w := by
  have := specIn_any n lo hi w
  by_cases h : lo ≤ n ∧ n ≤ hi
  · rw [dec_y h] at this
    rw [decide_eq_true h]
    exact this
  · rw [dec_n h] at this
    rw [decide_eq_false h]
    exact this

set_option maxHeartbeats 8000000 in
theorem specSt_any (ua sa fa ra : Option Addr) (ul uc sl sc fl fc rl rc : Nat) (nx : Int) (us : List UserV) (ss : List SessV) (mac : ByteArray) (q now : Int) (w : World) (h : Rw SeR 10 w sa ss) (hl : ss.length = sl) (hu : Rw UsR 6 w ua us) (hul : us.length = ul) (hm : mac.size ≤ 1048576) (hz : ∀ u ∈ us, u.nm.size ≤ 1048576) (hulz : ul ≤ 1048576) :
    Calls Tryd.prog 5 #[.agg #[.slice ua ul uc, .slice sa sl sc, .slice fa fl fc, .slice ra rl rc, .int .i64 nx], .string mac, .int .i64 q, .int .i64 now] w fun e w' => e = .returned (.tuple #[.string (stS us ss mac q now), .int .i64 (stC us ss mac now)]) ∧ Below w.heap.size w w' := by
  have RS : Hid (Rw SeR 10 w sa ss) := h
  have RU : Hid (Rw UsR 6 w ua us) := hu
  clear h hu
  by_cases h1 : 65536 < mac.size
  · obtain ⟨ec, es⟩ := st_long (us := us) (ss := ss) (q := q) (now := now) h1
    rw [ec, es]
    have h1z : (65536 : Int) < (mac.size : Int) := by omega
    go_enter Tryd.func5, Tryd.ntmps5
    go_wp2
    go_ret2
    exact ⟨rfl, ((Grw.refl _).alloc _).below⟩
  have h1z : (mac.size : Int) ≤ 65536 := by omega
  by_cases h2 : 3 < ss.length
  · obtain ⟨ec, es⟩ := st_many (us := us) (q := q) (now := now) h1 h2
    rw [ec, es]
    have h2z : (3 : Int) < (sl : Int) := by omega
    go_enter Tryd.func5, Tryd.ntmps5
    go_wp2
    go_ret2
    exact ⟨rfl, ((Grw.refl _).alloc _).below⟩
  have h2z : (sl : Int) ≤ 3 := by omega
  have EBD : Hid (ss.all (stB us.length) = false → stC us ss mac now = 1 ∧ stS us ss mac q now = ⟨#[]⟩) := fun h => st_bad h1 h2 h
  have ERG : Hid (ss.all (stB us.length) = true → ¬ (0 ≤ now ∧ now ≤ 100000) → stC us ss mac now = 4 ∧ stS us ss mac q now = ⟨#[]⟩) := fun h h3 => st_range h1 h2 h h3
  have EOK : Hid (ss.all (stB us.length) = true → 0 ≤ now ∧ now ≤ 100000 → stC us ss mac now = 0 ∧ stS us ss mac q now = stF us ss mac q now) := fun h h3 => st_ok h1 h2 h h3
  have TL : Hid (ss.all (stB us.length) = true → 0 ≤ now ∧ now ≤ 100000 → ∀ w, Rw SeR 10 w sa ss → Rw UsR 6 w ua us → Calls Tryd.prog 14 #[.agg #[.slice ua ul uc, .slice sa sl sc, .slice fa fl fc, .slice ra rl rc, .int .i64 nx], .string mac, .int .i64 q, .int .i64 now] w fun e w' => e = .returned (.string (stF us ss mac q now)) ∧ Below w.heap.size w w') := fun ha hn w h hu => l12Status_any ua sa fa ra ul uc sl sc fl fc rl rc nx us ss mac q now w h hl hu hul (by omega) ha hn hz
  have TN : Hid (∀ w, Calls Tryd.prog 13 #[.int .i64 now, .int .i64 0, .int .i64 100000] w fun e w' => e = .returned (.bool (dec (0 ≤ now ∧ now ≤ 100000))) ∧ w' = w) := fun w => specIn_any now 0 100000 w
  have ew : IntKind.i64.wrap ((ul : Int) - 1) = (ul : Int) - 1 := by rw [IntKind.wrap_i64]; omega
  clear h1 h2
  generalize stC us ss mac now = ZC at EBD ERG EOK ⊢
  generalize stS us ss mac q now = ZS at EBD ERG EOK ⊢
  have hmix : Tryd.prog.follows .mixedOrders = true := by kernel_rfl
  go_enter Tryd.func5, Tryd.ntmps5
  go_wp2
  go_loopw [10] (fun x wr => ∃ k : Nat, k ≤ sl ∧ x = .int .i64 k ∧ Hid ((ss.take k).all (stB us.length) = true) ∧ Hid (Grw w wr ∧ wr.cell? ⟨w.heap.size, 0, none⟩ = some (.slice ua ul uc) ∧ wr.cell? ⟨w.heap.size, 1, none⟩ = some (.slice sa sl sc) ∧ wr.cell? ⟨w.heap.size, 2, none⟩ = some (.slice fa fl fc) ∧ wr.cell? ⟨w.heap.size, 3, none⟩ = some (.slice ra rl rc) ∧ wr.cell? ⟨w.heap.size, 4, none⟩ = some (.int .i64 nx))) (fun x _ => sl - (intOf x).toNat)
  case atStart => exact ⟨0, Nat.zero_le _, rfl, rfl, ⟨(Grw.refl _).alloc _, by simp [go_sem], by simp [go_sem], by simp [go_sem], by simp [go_sem], by simp [go_sem]⟩⟩
  case round =>
    obtain ⟨k, hk, rfl, HO, HG⟩ := hrel
    have gs0 := HG.out.2.1
    have gs1 := HG.out.2.2.1
    have gs2 := HG.out.2.2.2.1
    have gs3 := HG.out.2.2.2.2.1
    have gs4 := HG.out.2.2.2.2.2
    by_cases hlt : k < sl
    · obtain ⟨x, hx⟩ := at_of hl hlt
      obtain ⟨b, off, vs, rfl, hb, hvl, hR, hc⟩ := RS.out.at SeR.kp HG.out.1.below hx
      have HY : Hid (stB us.length x = true → (ss.take (k + 1)).all (stB us.length) = true) := fun h => all_more hx HO.out h
      have HN : Hid (stB us.length x = false → ss.all (stB us.length) = false) := fun h => all_no hx h
      clear hx
      obtain ⟨id, uid, mc, ip, be, la, ud, qu, un, il⟩ := x
      obtain ⟨rfl, -⟩ := hR
      have q0 : wr.cell? ⟨b, off + k * 10, none⟩ = some (.int .i64 id) := hc 0 _ rfl
      have q1 : wr.cell? ⟨b, off + k * 10 + 1, none⟩ = some (.int .i64 uid) := hc 1 _ rfl
      have q2 : wr.cell? ⟨b, off + k * 10 + 2, none⟩ = some (.string mc) := hc 2 _ rfl
      have q3 : wr.cell? ⟨b, off + k * 10 + 3, none⟩ = some (.int .i64 ip) := hc 3 _ rfl
      have q4 : wr.cell? ⟨b, off + k * 10 + 4, none⟩ = some (.int .i64 be) := hc 4 _ rfl
      have q5 : wr.cell? ⟨b, off + k * 10 + 5, none⟩ = some (.int .i64 la) := hc 5 _ rfl
      have q6 : wr.cell? ⟨b, off + k * 10 + 6, none⟩ = some (.int .i64 ud) := hc 6 _ rfl
      have q7 : wr.cell? ⟨b, off + k * 10 + 7, none⟩ = some (.int .i64 qu) := hc 7 _ rfl
      have q8 : wr.cell? ⟨b, off + k * 10 + 8, none⟩ = some (.int .i64 un) := hc 8 _ rfl
      have q9 : wr.cell? ⟨b, off + k * 10 + 9, none⟩ = some (.int .i64 il) := hc 9 _ rfl
      have hltz : (k : Int) < (sl : Int) := by omega
      have EB : stB us.length ⟨id, uid, mc, ip, be, la, ud, qu, un, il⟩ = (decide (0 ≤ uid ∧ uid ≤ (ul : Int) - 1) && decide (0 ≤ id ∧ id ≤ 10000) && decide (0 ≤ qu ∧ qu ≤ 1000000) && decide (0 ≤ ud ∧ ud ≤ qu) && decide (0 ≤ un ∧ un ≤ 101000)) := by rw [hul]; rfl
      have HG1 : Hid (Grw w (wr.alloc (.cells #[.int .i64 id, .int .i64 uid, .string mc, .int .i64 ip, .int .i64 be, .int .i64 la, .int .i64 ud, .int .i64 qu, .int .i64 un, .int .i64 il] 45)) ∧ (wr.alloc (.cells #[.int .i64 id, .int .i64 uid, .string mc, .int .i64 ip, .int .i64 be, .int .i64 la, .int .i64 ud, .int .i64 qu, .int .i64 un, .int .i64 il] 45)).cell? ⟨w.heap.size, 0, none⟩ = some (.slice ua ul uc) ∧ (wr.alloc (.cells #[.int .i64 id, .int .i64 uid, .string mc, .int .i64 ip, .int .i64 be, .int .i64 la, .int .i64 ud, .int .i64 qu, .int .i64 un, .int .i64 il] 45)).cell? ⟨w.heap.size, 1, none⟩ = some (.slice (some ⟨b, off, none⟩) sl sc) ∧ (wr.alloc (.cells #[.int .i64 id, .int .i64 uid, .string mc, .int .i64 ip, .int .i64 be, .int .i64 la, .int .i64 ud, .int .i64 qu, .int .i64 un, .int .i64 il] 45)).cell? ⟨w.heap.size, 2, none⟩ = some (.slice fa fl fc) ∧ (wr.alloc (.cells #[.int .i64 id, .int .i64 uid, .string mc, .int .i64 ip, .int .i64 be, .int .i64 la, .int .i64 ud, .int .i64 qu, .int .i64 un, .int .i64 il] 45)).cell? ⟨w.heap.size, 3, none⟩ = some (.slice ra rl rc) ∧ (wr.alloc (.cells #[.int .i64 id, .int .i64 uid, .string mc, .int .i64 ip, .int .i64 be, .int .i64 la, .int .i64 ud, .int .i64 qu, .int .i64 un, .int .i64 il] 45)).cell? ⟨w.heap.size, 4, none⟩ = some (.int .i64 nx)) := ⟨HG.out.1.alloc _, acell gs0 _, acell gs1 _, acell gs2 _, acell gs3 _, acell gs4 _⟩
      have T0 : Hid (∀ w, Calls Tryd.prog 13 #[.int .i64 uid, .int .i64 0, .int .i64 ((ul : Int) - 1)] w fun e w' => e = .returned (.bool (decide (0 ≤ uid ∧ uid ≤ (ul : Int) - 1))) ∧ w' = w) := fun w => specIn_dec _ _ _ w
      have T1 : Hid (∀ w, Calls Tryd.prog 13 #[.int .i64 qu, .int .i64 0, .int .i64 1000000] w fun e w' => e = .returned (.bool (decide (0 ≤ qu ∧ qu ≤ 1000000))) ∧ w' = w) := fun w => specIn_dec _ _ _ w
      have T2 : Hid (∀ w, Calls Tryd.prog 13 #[.int .i64 ud, .int .i64 0, .int .i64 qu] w fun e w' => e = .returned (.bool (decide (0 ≤ ud ∧ ud ≤ qu))) ∧ w' = w) := fun w => specIn_dec _ _ _ w
      have T3 : Hid (∀ w, Calls Tryd.prog 13 #[.int .i64 id, .int .i64 0, .int .i64 10000] w fun e w' => e = .returned (.bool (decide (0 ≤ id ∧ id ≤ 10000))) ∧ w' = w) := fun w => specIn_dec _ _ _ w
      have T4 : Hid (∀ w, Calls Tryd.prog 13 #[.int .i64 un, .int .i64 0, .int .i64 101000] w fun e w' => e = .returned (.bool (decide (0 ≤ un ∧ un ≤ 101000))) ∧ w' = w) := fun w => specIn_dec _ _ _ w
      generalize decide (0 ≤ uid ∧ uid ≤ (ul : Int) - 1) = d0 at T0 EB
      generalize decide (0 ≤ qu ∧ qu ≤ 1000000) = d1 at T1 EB
      generalize decide (0 ≤ ud ∧ ud ≤ qu) = d2 at T2 EB
      generalize decide (0 ≤ id ∧ id ≤ 10000) = d3 at T3 EB
      generalize decide (0 ≤ un ∧ un ≤ 101000) = d4 at T4 EB
      generalize stB us.length ⟨id, uid, mc, ip, be, la, ud, qu, un, il⟩ = PB at EB HY HN
      clear hc hvl
      have x0 : (wr.alloc (.cells #[.int .i64 id, .int .i64 uid, .string mc, .int .i64 ip, .int .i64 be, .int .i64 la, .int .i64 ud, .int .i64 qu, .int .i64 un, .int .i64 il] 45)).cell? ⟨wr.heap.size, 0, none⟩ = some (.int .i64 id) := by simp
      have x1 : (wr.alloc (.cells #[.int .i64 id, .int .i64 uid, .string mc, .int .i64 ip, .int .i64 be, .int .i64 la, .int .i64 ud, .int .i64 qu, .int .i64 un, .int .i64 il] 45)).cell? ⟨wr.heap.size, 1, none⟩ = some (.int .i64 uid) := by simp
      have x6 : (wr.alloc (.cells #[.int .i64 id, .int .i64 uid, .string mc, .int .i64 ip, .int .i64 be, .int .i64 la, .int .i64 ud, .int .i64 qu, .int .i64 un, .int .i64 il] 45)).cell? ⟨wr.heap.size, 6, none⟩ = some (.int .i64 ud) := by simp
      have x7 : (wr.alloc (.cells #[.int .i64 id, .int .i64 uid, .string mc, .int .i64 ip, .int .i64 be, .int .i64 la, .int .i64 ud, .int .i64 qu, .int .i64 un, .int .i64 il] 45)).cell? ⟨wr.heap.size, 7, none⟩ = some (.int .i64 qu) := by simp
      have x8 : (wr.alloc (.cells #[.int .i64 id, .int .i64 uid, .string mc, .int .i64 ip, .int .i64 be, .int .i64 la, .int .i64 ud, .int .i64 qu, .int .i64 un, .int .i64 il] 45)).cell? ⟨wr.heap.size, 8, none⟩ = some (.int .i64 un) := by simp
      have ks0 := HG1.out.2.1
      have ks1 := HG1.out.2.2.1
      have ks2 := HG1.out.2.2.2.1
      have ks3 := HG1.out.2.2.2.2.1
      have ks4 := HG1.out.2.2.2.2.2
      go_wp2_with fail
      generalize (wr.alloc (.cells #[.int .i64 id, .int .i64 uid, .string mc, .int .i64 ip, .int .i64 be, .int .i64 la, .int .i64 ud, .int .i64 qu, .int .i64 un, .int .i64 il] 45)) = wv at HG1 x0 x1 x6 x7 x8 ks0 ks1 ks2 ks3 ks4 ⊢
      clear q0 q1 q2 q3 q4 q5 q6 q7 q8 q9 gs0 gs1 gs2 gs3 gs4
      refine (T0.out _).mono ?_
      rintro e w1 ⟨rfl, hw⟩
      subst hw
      cases d0 with
      | false =>
        have hno : Hid (ss.all (stB us.length) = false) := HN.out (by rw [EB]; simp)
        clear HY HN EB HO
        go_wp2
        go_ret2
        exact ⟨by rw [(EBD.out hno.out).1, (EBD.out hno.out).2]; rfl, HG1.out.1.below⟩
      | true =>
      go_wp2_with fail
      refine (T1.out _).mono ?_
      rintro e w1 ⟨rfl, hw⟩
      subst hw
      cases d1 with
      | false =>
        have hno : Hid (ss.all (stB us.length) = false) := HN.out (by rw [EB]; simp)
        clear HY HN EB HO
        go_wp2
        go_ret2
        exact ⟨by rw [(EBD.out hno.out).1, (EBD.out hno.out).2]; rfl, HG1.out.1.below⟩
      | true =>
      go_wp2_with fail
      refine (T2.out _).mono ?_
      rintro e w1 ⟨rfl, hw⟩
      subst hw
      cases d2 with
      | false =>
        have hno : Hid (ss.all (stB us.length) = false) := HN.out (by rw [EB]; simp)
        clear HY HN EB HO
        go_wp2
        go_ret2
        exact ⟨by rw [(EBD.out hno.out).1, (EBD.out hno.out).2]; rfl, HG1.out.1.below⟩
      | true =>
      go_wp2_with fail
      refine (T3.out _).mono ?_
      rintro e w1 ⟨rfl, hw⟩
      subst hw
      cases d3 with
      | false =>
        have hno : Hid (ss.all (stB us.length) = false) := HN.out (by rw [EB]; simp)
        clear HY HN EB HO
        go_wp2
        go_ret2
        exact ⟨by rw [(EBD.out hno.out).1, (EBD.out hno.out).2]; rfl, HG1.out.1.below⟩
      | true =>
      go_wp2_with fail
      refine (T4.out _).mono ?_
      rintro e w1 ⟨rfl, hw⟩
      subst hw
      cases d4 with
      | false =>
        have hno : Hid (ss.all (stB us.length) = false) := HN.out (by rw [EB]; simp)
        clear HY HN EB HO
        go_wp2
        go_ret2
        exact ⟨by rw [(EBD.out hno.out).1, (EBD.out hno.out).2]; rfl, HG1.out.1.below⟩
      | true =>
      have hyes : Hid ((ss.take (k + 1)).all (stB us.length) = true) := HY.out (by rw [EB]; rfl)
      clear HY HN EB HO
      go_wp2
      go_roundw
      case rel => exact ⟨k + 1, by omega, by go_num, hyes, HG1⟩
      case measure => simp [intOf]; omega
    · obtain rfl : k = sl := by omega
      have hall : Hid (ss.all (stB us.length) = true) := all_end hl HO.out
      by_cases hn : 0 ≤ now ∧ now ≤ 100000
      · have hd := EOK.out hall.out hn
        have HD9 : Hid (ZC = 0 ∧ ZS = stF us ss mac q now) := hd
        have TL8 := TL.out hall.out hn
        have TL9 : Hid _ := TL8
        rw [dec_y hn] at TN
        clear TL TL8 EOK ERG EBD hd hn hall HO
        go_wp2_with fail
        refine (TN.out _).mono ?_
        rintro e w1 ⟨rfl, hw⟩
        subst hw
        go_wp2_with fail
        refine (TL9.out _ (RS.out.keep SeR.kp HG.out.1.below) (RU.out.keep UsR.kp HG.out.1.below)).mono ?_
        rintro e w9 ⟨rfl, b9⟩
        have B9 : Hid (Below w.heap.size w w9) := HG.out.1.below.trans (b9.mono HG.out.1.below.size)
        clear b9 HG
        go_wp2
        go_ret2
        exact ⟨by rw [HD9.out.1, HD9.out.2]; rfl, B9.out⟩
      · have hd : Hid (ZC = 4 ∧ ZS = ⟨#[]⟩) := ERG.out hall.out hn
        rw [dec_n hn] at TN
        clear TL EOK ERG EBD hn hall HO
        go_wp2_with fail
        refine (TN.out _).mono ?_
        rintro e w1 ⟨rfl, hw⟩
        subst hw
        go_wp2
        go_ret2
        exact ⟨by rw [hd.out.1, hd.out.2]; rfl, HG.out.1.below⟩
end Go.Proofs.YtappekglflgodabDoor
