/- StatusText of the program: what can be told, and what is told. -/
import Derived.Test.YtappekglflgodabDoorStaA
import Derived.Test.YtappekglflgodabDoorNetT
import Derived.Lib.ItoaNum
import Derived.Deep.RegionHeld3
namespace Go.Proofs.YtappekglflgodabDoor
open Go.RowKit Go.PlainAid Go.Proofs.YtappekglflgodabDoor.Bt Go.Sort
set_option linter.unusedVariables false
set_option maxRecDepth 20000

set_option maxHeartbeats 8000000 in
theorem tellable_any (ua sa fa ra : Option Addr) (ul uc sl sc fl fc rl rc : Nat) (nx : Int) (us : List UserV) (ss : List SessV) (w : World) (h : Rw SeR 10 w sa ss) (hl : ss.length = sl) (hul : us.length = ul) (hulz : ul ≤ 1048576) (hslz : sl ≤ 1048576) :
    Calls Tryd.prog 19 #[.agg #[.slice ua ul uc, .slice sa sl sc, .slice fa fl fc, .slice ra rl rc, .int .i64 nx]] w fun e w' => e = .returned (.bool (!decide (3 < ss.length) && ss.all (stB us.length))) ∧ Grw w w' := by
  have RS : Hid (Rw SeR 10 w sa ss) := h
  clear h
  by_cases h2 : 3 < ss.length
  · rw [decide_eq_true h2]
    have h2z : (3 : Int) < (sl : Int) := by omega
    go_enter Tryd.func19, Tryd.ntmps19
    go_wp2
    go_ret
    exact ⟨rfl, (Grw.refl _).alloc _⟩
  rw [decide_eq_false h2]
  have h2z : (sl : Int) ≤ 3 := by omega
  have EBD : Hid (ss.all (stB us.length) = false → (!false && ss.all (stB us.length)) = false) := fun h => by rw [h]; rfl
  have EOK : Hid (ss.all (stB us.length) = true → (!false && ss.all (stB us.length)) = true) := fun h => by rw [h]; rfl
  have ew : IntKind.i64.wrap ((ul : Int) - 1) = (ul : Int) - 1 := by rw [IntKind.wrap_i64]; omega
  clear h2
  generalize (!false && ss.all (stB us.length)) = Z at EBD EOK ⊢
  go_enter Tryd.func19, Tryd.ntmps19
  go_wp2
  go_loopw [12] (fun x wr => ∃ k : Nat, k ≤ sl ∧ x = .int .i64 k ∧ Hid ((ss.take k).all (stB us.length) = true) ∧ Hid (Grw w wr ∧ wr.cell? ⟨w.heap.size, 0, none⟩ = some (.slice ua ul uc))) (fun x _ => sl - (intOf x).toNat)
  case atStart => exact ⟨0, Nat.zero_le _, rfl, rfl, ⟨(Grw.refl _).alloc _, by simp [go_sem]⟩⟩
  case round =>
    obtain ⟨k, hk, rfl, HO, HG⟩ := hrel
    have gs0 := HG.out.2
    by_cases hlt : k < sl
    · obtain ⟨x, hx⟩ := at_of hl hlt
      obtain ⟨b, off, vs, rfl, hb, hvl, hR, hc⟩ := RS.out.at SeR.kp HG.out.1.below hx
      have HY : Hid (stB us.length x = true → (ss.take (k + 1)).all (stB us.length) = true) := fun h => all_more hx HO.out h
      have HN : Hid (stB us.length x = false → ss.all (stB us.length) = false) := fun h => all_no hx h
      clear hx
      obtain ⟨id, uid, mc, ip, be, la, ud, qu, un, il⟩ := x
      obtain ⟨rfl, -⟩ := hR
      have q0 : wr.cell? ⟨b, off + k * 10, none⟩ = some (.int .i64 id) := hc 0 _ rfl
      have q1 : wr.cell? ⟨b, off + k * 10 + 1, none⟩ = some (.int .i64 uid) := hc 1 _ rfl
      have q2 : wr.cell? ⟨b, off + k * 10 + 2, none⟩ = some (.string mc) := hc 2 _ rfl
      have q3 : wr.cell? ⟨b, off + k * 10 + 3, none⟩ = some (.int .i64 ip) := hc 3 _ rfl
      have q4 : wr.cell? ⟨b, off + k * 10 + 4, none⟩ = some (.int .i64 be) := hc 4 _ rfl
      have q5 : wr.cell? ⟨b, off + k * 10 + 5, none⟩ = some (.int .i64 la) := hc 5 _ rfl
      have q6 : wr.cell? ⟨b, off + k * 10 + 6, none⟩ = some (.int .i64 ud) := hc 6 _ rfl
      have q7 : wr.cell? ⟨b, off + k * 10 + 7, none⟩ = some (.int .i64 qu) := hc 7 _ rfl
      have q8 : wr.cell? ⟨b, off + k * 10 + 8, none⟩ = some (.int .i64 un) := hc 8 _ rfl
      have q9 : wr.cell? ⟨b, off + k * 10 + 9, none⟩ = some (.int .i64 il) := hc 9 _ rfl
      have hltz : (k : Int) < (sl : Int) := by omega
      have EB : stB us.length ⟨id, uid, mc, ip, be, la, ud, qu, un, il⟩ = (decide (0 ≤ uid ∧ uid ≤ (ul : Int) - 1) && decide (0 ≤ id ∧ id ≤ 10000) && decide (0 ≤ qu ∧ qu ≤ 1000000) && decide (0 ≤ ud ∧ ud ≤ qu) && decide (0 ≤ un ∧ un ≤ 101000)) := by rw [hul]; rfl
      have HG1 : Hid (Grw w (wr.alloc (.cells #[.int .i64 id, .int .i64 uid, .string mc, .int .i64 ip, .int .i64 be, .int .i64 la, .int .i64 ud, .int .i64 qu, .int .i64 un, .int .i64 il] 45)) ∧ (wr.alloc (.cells #[.int .i64 id, .int .i64 uid, .string mc, .int .i64 ip, .int .i64 be, .int .i64 la, .int .i64 ud, .int .i64 qu, .int .i64 un, .int .i64 il] 45)).cell? ⟨w.heap.size, 0, none⟩ = some (.slice ua ul uc)) := ⟨HG.out.1.alloc _, acell gs0 _⟩
      have T0 : Hid (∀ w, Calls Tryd.prog 35 #[.int .i64 uid, .int .i64 0, .int .i64 ((ul : Int) - 1)] w fun e w' => e = .returned (.bool (decide (0 ≤ uid ∧ uid ≤ (ul : Int) - 1))) ∧ w' = w) := fun w => between_any _ _ _ w
      have T1 : Hid (∀ w, Calls Tryd.prog 35 #[.int .i64 id, .int .i64 0, .int .i64 10000] w fun e w' => e = .returned (.bool (decide (0 ≤ id ∧ id ≤ 10000))) ∧ w' = w) := fun w => between_any _ _ _ w
      have T2 : Hid (∀ w, Calls Tryd.prog 35 #[.int .i64 qu, .int .i64 0, .int .i64 1000000] w fun e w' => e = .returned (.bool (decide (0 ≤ qu ∧ qu ≤ 1000000))) ∧ w' = w) := fun w => between_any _ _ _ w
      have T3 : Hid (∀ w, Calls Tryd.prog 35 #[.int .i64 ud, .int .i64 0, .int .i64 qu] w fun e w' => e = .returned (.bool (decide (0 ≤ ud ∧ ud ≤ qu))) ∧ w' = w) := fun w => between_any _ _ _ w
      have T4 : Hid (∀ w, Calls Tryd.prog 35 #[.int .i64 un, .int .i64 0, .int .i64 101000] w fun e w' => e = .returned (.bool (decide (0 ≤ un ∧ un ≤ 101000))) ∧ w' = w) := fun w => between_any _ _ _ w
      generalize decide (0 ≤ uid ∧ uid ≤ (ul : Int) - 1) = d0 at T0 EB
      generalize decide (0 ≤ id ∧ id ≤ 10000) = d1 at T1 EB
      generalize decide (0 ≤ qu ∧ qu ≤ 1000000) = d2 at T2 EB
      generalize decide (0 ≤ ud ∧ ud ≤ qu) = d3 at T3 EB
      generalize decide (0 ≤ un ∧ un ≤ 101000) = d4 at T4 EB
      generalize stB us.length ⟨id, uid, mc, ip, be, la, ud, qu, un, il⟩ = PB at EB HY HN
      clear hc hvl
      have x0 : (wr.alloc (.cells #[.int .i64 id, .int .i64 uid, .string mc, .int .i64 ip, .int .i64 be, .int .i64 la, .int .i64 ud, .int .i64 qu, .int .i64 un, .int .i64 il] 45)).cell? ⟨wr.heap.size, 0, none⟩ = some (.int .i64 id) := by simp
      have x1 : (wr.alloc (.cells #[.int .i64 id, .int .i64 uid, .string mc, .int .i64 ip, .int .i64 be, .int .i64 la, .int .i64 ud, .int .i64 qu, .int .i64 un, .int .i64 il] 45)).cell? ⟨wr.heap.size, 1, none⟩ = some (.int .i64 uid) := by simp
      have x6 : (wr.alloc (.cells #[.int .i64 id, .int .i64 uid, .string mc, .int .i64 ip, .int .i64 be, .int .i64 la, .int .i64 ud, .int .i64 qu, .int .i64 un, .int .i64 il] 45)).cell? ⟨wr.heap.size, 6, none⟩ = some (.int .i64 ud) := by simp
      have x7 : (wr.alloc (.cells #[.int .i64 id, .int .i64 uid, .string mc, .int .i64 ip, .int .i64 be, .int .i64 la, .int .i64 ud, .int .i64 qu, .int .i64 un, .int .i64 il] 45)).cell? ⟨wr.heap.size, 7, none⟩ = some (.int .i64 qu) := by simp
      have x8 : (wr.alloc (.cells #[.int .i64 id, .int .i64 uid, .string mc, .int .i64 ip, .int .i64 be, .int .i64 la, .int .i64 ud, .int .i64 qu, .int .i64 un, .int .i64 il] 45)).cell? ⟨wr.heap.size, 8, none⟩ = some (.int .i64 un) := by simp
      have ks0 := HG1.out.2
      go_wp2_with fail
      generalize (wr.alloc (.cells #[.int .i64 id, .int .i64 uid, .string mc, .int .i64 ip, .int .i64 be, .int .i64 la, .int .i64 ud, .int .i64 qu, .int .i64 un, .int .i64 il] 45)) = wv at HG1 x0 x1 x6 x7 x8 ks0 ⊢
      clear q0 q1 q2 q3 q4 q5 q6 q7 q8 q9 gs0
      refine (T0.out _).mono ?_
      rintro e w1 ⟨rfl, hw⟩
      subst hw
      cases d0 with
      | false =>
        have hno : Hid (ss.all (stB us.length) = false) := HN.out (by rw [EB]; simp)
        clear HY HN EB HO
        go_wp2
        go_ret
        exact ⟨by rw [EBD.out hno.out]; rfl, HG1.out.1⟩
      | true =>
      go_wp2_with fail
      refine (T1.out _).mono ?_
      rintro e w1 ⟨rfl, hw⟩
      subst hw
      cases d1 with
      | false =>
        have hno : Hid (ss.all (stB us.length) = false) := HN.out (by rw [EB]; simp)
        clear HY HN EB HO
        go_wp2
        go_ret
        exact ⟨by rw [EBD.out hno.out]; rfl, HG1.out.1⟩
      | true =>
      go_wp2_with fail
      refine (T2.out _).mono ?_
      rintro e w1 ⟨rfl, hw⟩
      subst hw
      cases d2 with
      | false =>
        have hno : Hid (ss.all (stB us.length) = false) := HN.out (by rw [EB]; simp)
        clear HY HN EB HO
        go_wp2
        go_ret
        exact ⟨by rw [EBD.out hno.out]; rfl, HG1.out.1⟩
      | true =>
      go_wp2_with fail
      refine (T3.out _).mono ?_
      rintro e w1 ⟨rfl, hw⟩
      subst hw
      cases d3 with
      | false =>
        have hno : Hid (ss.all (stB us.length) = false) := HN.out (by rw [EB]; simp)
        clear HY HN EB HO
        go_wp2
        go_ret
        exact ⟨by rw [EBD.out hno.out]; rfl, HG1.out.1⟩
      | true =>
      go_wp2_with fail
      refine (T4.out _).mono ?_
      rintro e w1 ⟨rfl, hw⟩
      subst hw
      cases d4 with
      | false =>
        have hno : Hid (ss.all (stB us.length) = false) := HN.out (by rw [EB]; simp)
        clear HY HN EB HO
        go_wp2
        go_ret
        exact ⟨by rw [EBD.out hno.out]; rfl, HG1.out.1⟩
      | true =>
      have hyes : Hid ((ss.take (k + 1)).all (stB us.length) = true) := HY.out (by rw [EB]; rfl)
      clear HY HN EB HO
      go_wp2
      go_roundw
      case rel => exact ⟨k + 1, by omega, by go_num, hyes, HG1⟩
      case measure => simp [intOf]; omega
    · obtain rfl : k = sl := by omega
      have hall : Hid (ss.all (stB us.length) = true) := all_end hl HO.out
      have hd : Hid (Z = true) := EOK.out hall.out
      clear EOK EBD hall HO
      go_wp2
      go_ret
      exact ⟨by rw [hd.out]; rfl, HG.out.1⟩

theorem Tens.tabS {w : World} (h : Tens w.heap.size w) {W : World} (hb : Below w.heap.size w W) : Lib.TabIs Tryd.prog W "internal/strconv.uint64pow10" .u64 Lib.pow10Tab := h W hb
theorem itoaS (n : Nat) (w : World) (hn : n ≤ 1000000) (h : Lib.TabIs Tryd.prog w "internal/strconv.uint64pow10" .u64 Lib.pow10Tab) : Calls Tryd.prog 36 #[.int .i64 (n : Int)] w fun e w' => e = .returned (.string (strOfNums (dgs n))) ∧ Grw w w' := by
  have := Tryd.strconv_Itoa n (by omega) (by omega) w h
  have e : (⟨(Lib.itoa n).toArray⟩ : ByteArray) = strOfNums (dgs n) := by rw [← dec_str]; rfl
  rw [e] at this
  exact this
set_option maxHeartbeats 8000000 in
theorem sessText_any (nm : ByteArray) (id uid : Int) (mc : ByteArray) (ip be la ud qu un il : Int) (now : Int) (w : World) (hi : 0 ≤ id ∧ id ≤ 10000) (hq : 0 ≤ qu ∧ qu ≤ 1000000) (hd : 0 ≤ ud ∧ ud ≤ qu) (hu : 0 ≤ un ∧ un ≤ 101000) (hn : 0 ≤ now ∧ now ≤ 100000) (hsz : nm.size ≤ 1048576) (ht : Tens w.heap.size w) :
    Calls Tryd.prog 21 #[.agg #[.int .i64 id, .int .i64 uid, .string mc, .int .i64 ip, .int .i64 be, .int .i64 la, .int .i64 ud, .int .i64 qu, .int .i64 un, .int .i64 il], .string nm, .int .i64 now] w fun e w' => e = .returned (.string (stT nm ⟨id, uid, mc, ip, be, la, ud, qu, un, il⟩ now)) ∧ Grw w w' := by
  have HT9 : Hid (Tens w.heap.size w) := ht
  clear ht
  obtain ⟨hi0, hi1⟩ := hi
  obtain ⟨hq0, hq1⟩ := hq
  obtain ⟨hd0, hd1⟩ := hd
  obtain ⟨hu0, hu1⟩ := hu
  obtain ⟨hn0, hn1⟩ := hn
  rcases Int.lt_or_le now un with hc | hc
  · have hM : (if un - now < 0 then 0 else un - now) = (un - now) := by rw [if_neg (by omega)]
    obtain ⟨Z, hS⟩ : ∃ Z, Z = stT nm ⟨id, uid, mc, ip, be, la, ud, qu, un, il⟩ now := ⟨_, rfl⟩
    rw [← hS]
    unfold stT at hS
    dsimp only at hS
    rw [hM] at hS
    have TD : ∀ (m : Int) (w : World), 0 ≤ m → m ≤ 1000000 → Lib.TabIs Tryd.prog w "internal/strconv.uint64pow10" .u64 Lib.pow10Tab → Calls Tryd.prog 36 #[.int .i64 m] w fun e w' => e = .returned (.string (stD m)) ∧ Grw w w' := fun m w h0 h1 h => by
      obtain ⟨p, rfl⟩ := Int.eq_ofNat_of_zero_le h0
      have := itoaS p w (by omega) h
      unfold stD
      rw [Int.toNat_natCast]
      exact this
    have T1 : Hid (∀ w, Lib.TabIs Tryd.prog w "internal/strconv.uint64pow10" .u64 Lib.pow10Tab → Calls Tryd.prog 36 #[.int .i64 id] w fun e w' => e = .returned (.string (stD id)) ∧ Grw w w') := fun w h => TD id w (by omega) (by omega) h
    have T2 : Hid (∀ w, Lib.TabIs Tryd.prog w "internal/strconv.uint64pow10" .u64 Lib.pow10Tab → Calls Tryd.prog 36 #[.int .i64 (qu - ud)] w fun e w' => e = .returned (.string (stD (qu - ud))) ∧ Grw w w') := fun w h => TD _ w (by omega) (by omega) h
    have T3 : Hid (∀ w, Lib.TabIs Tryd.prog w "internal/strconv.uint64pow10" .u64 Lib.pow10Tab → Calls Tryd.prog 36 #[.int .i64 (max (un - now) 0)] w fun e w' => e = .returned (.string (stD (un - now))) ∧ Grw w w') := fun w h => by rw [show max (un - now) 0 = (un - now) by omega]; exact TD (un - now) w (by omega) (by omega) h
    have g1 := stD_size (by omega : 0 ≤ id) (by omega : id ≤ 1000000)
    have g2 := stD_size (by omega : 0 ≤ qu - ud) (by omega)
    have g3 := stD_size (by omega : 0 ≤ ((un - now) : Int)) (by omega)
    generalize stD id = D1 at T1 g1 hS
    generalize stD (qu - ud) = D2 at T2 g2 hS
    generalize stD (un - now) = D3 at T3 g3 hS
    have zs1 : (⟨#[115, 101, 115, 115, 105, 111, 110, 32]⟩ : ByteArray).size = 8 := rfl
    have zs2 : (⟨#[32, 111, 102, 32]⟩ : ByteArray).size = 4 := rfl
    have zs3 : (⟨#[44, 32]⟩ : ByteArray).size = 2 := rfl
    have zs4 : (⟨#[32, 108, 101, 102, 116, 44, 32]⟩ : ByteArray).size = 7 := rfl
    have zs5 : (⟨#[32, 116, 105, 99, 107, 115]⟩ : ByteArray).size = 6 := rfl
    have ha0 : ∀ wx : World, (Op.stringOp .add (⟨#[115, 101, 115, 115, 105, 111, 110, 32]⟩) (D1)).run Tryd.prog wx = .ok (.string (⟨#[115, 101, 115, 115, 105, 111, 110, 32]⟩ ++ D1)) wx := fun wx => run_string_add_sum (P := Tryd.prog) (w := wx) _ _ (by (repeat rw [ByteArray.size_append]); omega)
    have ha1 : ∀ wx : World, (Op.stringOp .add (⟨#[115, 101, 115, 115, 105, 111, 110, 32]⟩ ++ D1) (⟨#[32, 111, 102, 32]⟩)).run Tryd.prog wx = .ok (.string (⟨#[115, 101, 115, 115, 105, 111, 110, 32]⟩ ++ D1 ++ ⟨#[32, 111, 102, 32]⟩)) wx := fun wx => run_string_add_sum (P := Tryd.prog) (w := wx) _ _ (by (repeat rw [ByteArray.size_append]); omega)
    have ha2 : ∀ wx : World, (Op.stringOp .add (⟨#[115, 101, 115, 115, 105, 111, 110, 32]⟩ ++ D1 ++ ⟨#[32, 111, 102, 32]⟩) (nm)).run Tryd.prog wx = .ok (.string (⟨#[115, 101, 115, 115, 105, 111, 110, 32]⟩ ++ D1 ++ ⟨#[32, 111, 102, 32]⟩ ++ nm)) wx := fun wx => run_string_add_sum (P := Tryd.prog) (w := wx) _ _ (by (repeat rw [ByteArray.size_append]); omega)
    have ha3 : ∀ wx : World, (Op.stringOp .add (⟨#[115, 101, 115, 115, 105, 111, 110, 32]⟩ ++ D1 ++ ⟨#[32, 111, 102, 32]⟩ ++ nm) (⟨#[44, 32]⟩)).run Tryd.prog wx = .ok (.string (⟨#[115, 101, 115, 115, 105, 111, 110, 32]⟩ ++ D1 ++ ⟨#[32, 111, 102, 32]⟩ ++ nm ++ ⟨#[44, 32]⟩)) wx := fun wx => run_string_add_sum (P := Tryd.prog) (w := wx) _ _ (by (repeat rw [ByteArray.size_append]); omega)
    have ha4 : ∀ wx : World, (Op.stringOp .add (⟨#[115, 101, 115, 115, 105, 111, 110, 32]⟩ ++ D1 ++ ⟨#[32, 111, 102, 32]⟩ ++ nm ++ ⟨#[44, 32]⟩) (D2)).run Tryd.prog wx = .ok (.string (⟨#[115, 101, 115, 115, 105, 111, 110, 32]⟩ ++ D1 ++ ⟨#[32, 111, 102, 32]⟩ ++ nm ++ ⟨#[44, 32]⟩ ++ D2)) wx := fun wx => run_string_add_sum (P := Tryd.prog) (w := wx) _ _ (by (repeat rw [ByteArray.size_append]); omega)
    have ha5 : ∀ wx : World, (Op.stringOp .add (⟨#[115, 101, 115, 115, 105, 111, 110, 32]⟩ ++ D1 ++ ⟨#[32, 111, 102, 32]⟩ ++ nm ++ ⟨#[44, 32]⟩ ++ D2) (⟨#[32, 108, 101, 102, 116, 44, 32]⟩)).run Tryd.prog wx = .ok (.string (⟨#[115, 101, 115, 115, 105, 111, 110, 32]⟩ ++ D1 ++ ⟨#[32, 111, 102, 32]⟩ ++ nm ++ ⟨#[44, 32]⟩ ++ D2 ++ ⟨#[32, 108, 101, 102, 116, 44, 32]⟩)) wx := fun wx => run_string_add_sum (P := Tryd.prog) (w := wx) _ _ (by (repeat rw [ByteArray.size_append]); omega)
    have ha6 : ∀ wx : World, (Op.stringOp .add (⟨#[115, 101, 115, 115, 105, 111, 110, 32]⟩ ++ D1 ++ ⟨#[32, 111, 102, 32]⟩ ++ nm ++ ⟨#[44, 32]⟩ ++ D2 ++ ⟨#[32, 108, 101, 102, 116, 44, 32]⟩) (D3)).run Tryd.prog wx = .ok (.string (⟨#[115, 101, 115, 115, 105, 111, 110, 32]⟩ ++ D1 ++ ⟨#[32, 111, 102, 32]⟩ ++ nm ++ ⟨#[44, 32]⟩ ++ D2 ++ ⟨#[32, 108, 101, 102, 116, 44, 32]⟩ ++ D3)) wx := fun wx => run_string_add_sum (P := Tryd.prog) (w := wx) _ _ (by (repeat rw [ByteArray.size_append]); omega)
    have ha7 : ∀ wx : World, (Op.stringOp .add (⟨#[115, 101, 115, 115, 105, 111, 110, 32]⟩ ++ D1 ++ ⟨#[32, 111, 102, 32]⟩ ++ nm ++ ⟨#[44, 32]⟩ ++ D2 ++ ⟨#[32, 108, 101, 102, 116, 44, 32]⟩ ++ D3) (⟨#[32, 116, 105, 99, 107, 115]⟩)).run Tryd.prog wx = .ok (.string (⟨#[115, 101, 115, 115, 105, 111, 110, 32]⟩ ++ D1 ++ ⟨#[32, 111, 102, 32]⟩ ++ nm ++ ⟨#[44, 32]⟩ ++ D2 ++ ⟨#[32, 108, 101, 102, 116, 44, 32]⟩ ++ D3 ++ ⟨#[32, 116, 105, 99, 107, 115]⟩)) wx := fun wx => run_string_add_sum (P := Tryd.prog) (w := wx) _ _ (by (repeat rw [ByteArray.size_append]); omega)
    have ew1 : IntKind.i64.wrap (qu - ud) = qu - ud := by rw [IntKind.wrap_i64]; omega
    have ew2 : IntKind.i64.wrap (un - now) = un - now := by rw [IntKind.wrap_i64]; omega
    have HZ : Hid (Z = _) := hS
    clear hS TD hM zs1 zs2 zs3 zs4 zs5 hsz
    go_enter Tryd.func21, Tryd.ntmps21
    go_wp2_with fail
    have y6 : (w.alloc (.cells #[.int .i64 id, .int .i64 uid, .string mc, .int .i64 ip, .int .i64 be, .int .i64 la, .int .i64 ud, .int .i64 qu, .int .i64 un, .int .i64 il] 45)).cell? ⟨w.heap.size, 6, none⟩ = some (.int .i64 ud) := by simp
    have y7 : (w.alloc (.cells #[.int .i64 id, .int .i64 uid, .string mc, .int .i64 ip, .int .i64 be, .int .i64 la, .int .i64 ud, .int .i64 qu, .int .i64 un, .int .i64 il] 45)).cell? ⟨w.heap.size, 7, none⟩ = some (.int .i64 qu) := by simp
    have y8 : (w.alloc (.cells #[.int .i64 id, .int .i64 uid, .string mc, .int .i64 ip, .int .i64 be, .int .i64 la, .int .i64 ud, .int .i64 qu, .int .i64 un, .int .i64 il] 45)).cell? ⟨w.heap.size, 8, none⟩ = some (.int .i64 un) := by simp
    have y0 : (w.alloc (.cells #[.int .i64 id, .int .i64 uid, .string mc, .int .i64 ip, .int .i64 be, .int .i64 la, .int .i64 ud, .int .i64 qu, .int .i64 un, .int .i64 il] 45)).cell? ⟨w.heap.size, 0, none⟩ = some (.int .i64 id) := by simp
    have GW : Hid (Grw w (w.alloc (.cells #[.int .i64 id, .int .i64 uid, .string mc, .int .i64 ip, .int .i64 be, .int .i64 la, .int .i64 ud, .int .i64 qu, .int .i64 un, .int .i64 il] 45))) := (Grw.refl _).alloc _
    generalize (w.alloc (.cells #[.int .i64 id, .int .i64 uid, .string mc, .int .i64 ip, .int .i64 be, .int .i64 la, .int .i64 ud, .int .i64 qu, .int .i64 un, .int .i64 il] 45)) = wa at GW y0 y6 y7 y8 ⊢
    have SS : Hid (wa.drew.cell? ⟨w.heap.size, 6, none⟩ = some (.int .i64 ud) ∧ wa.drew.cell? ⟨w.heap.size, 7, none⟩ = some (.int .i64 qu) ∧ wa.drew.cell? ⟨w.heap.size, 8, none⟩ = some (.int .i64 un)) := ⟨by simp [y6], by simp [y7], by simp [y8]⟩
    go_region_held3 (fun wx => wx.cell? ⟨w.heap.size, 6, none⟩ = some (.int .i64 ud) ∧ wx.cell? ⟨w.heap.size, 7, none⟩ = some (.int .i64 qu) ∧ wx.cell? ⟨w.heap.size, 8, none⟩ = some (.int .i64 un))
      (first | (with_reducible exact SS.out) | (with_reducible assumption) | fail)
      (fail)
    all_goals
      have yd0 : wa.drew.cell? ⟨w.heap.size, 0, none⟩ = some (.int .i64 id) := by simp [y0]
      have GD : Hid (Grw w wa.drew) := GW.out.drew
      clear y0 y6 y7 y8
      generalize wa.drew = wd at GD yd0 ⊢
      go_wp2_with fail
      refine (T1.out _ (HT9.out.tabS GD.out.below)).mono ?_
      rintro e w1 ⟨rfl, g1⟩
      have G1 : Hid (Grw w w1) := GD.out.trans g1
      clear g1 yd0
      go_wp2_with fail
      refine (T2.out _ (HT9.out.tabS G1.out.below)).mono ?_
      rintro e w2 ⟨rfl, g2⟩
      have G2 : Hid (Grw w w2) := G1.out.trans g2
      clear g2
      go_wp2_with fail
      refine (T3.out _ (HT9.out.tabS G2.out.below)).mono ?_
      rintro e w3 ⟨rfl, g3⟩
      have G3 : Hid (Grw w w3) := G2.out.trans g3
      clear g3
      go_wp2
      go_ret
      exact ⟨by rw [HZ.out]; rfl, G3.out⟩
  · have hc2 : ¬ now < un := by omega
    have hc3 : ¬ 0 < un - now := by omega
    have hM : (if un - now < 0 then 0 else un - now) = 0 := by split <;> omega
    obtain ⟨Z, hS⟩ : ∃ Z, Z = stT nm ⟨id, uid, mc, ip, be, la, ud, qu, un, il⟩ now := ⟨_, rfl⟩
    rw [← hS]
    unfold stT at hS
    dsimp only at hS
    rw [hM] at hS
    have TD : ∀ (m : Int) (w : World), 0 ≤ m → m ≤ 1000000 → Lib.TabIs Tryd.prog w "internal/strconv.uint64pow10" .u64 Lib.pow10Tab → Calls Tryd.prog 36 #[.int .i64 m] w fun e w' => e = .returned (.string (stD m)) ∧ Grw w w' := fun m w h0 h1 h => by
      obtain ⟨p, rfl⟩ := Int.eq_ofNat_of_zero_le h0
      have := itoaS p w (by omega) h
      unfold stD
      rw [Int.toNat_natCast]
      exact this
    have T1 : Hid (∀ w, Lib.TabIs Tryd.prog w "internal/strconv.uint64pow10" .u64 Lib.pow10Tab → Calls Tryd.prog 36 #[.int .i64 id] w fun e w' => e = .returned (.string (stD id)) ∧ Grw w w') := fun w h => TD id w (by omega) (by omega) h
    have T2 : Hid (∀ w, Lib.TabIs Tryd.prog w "internal/strconv.uint64pow10" .u64 Lib.pow10Tab → Calls Tryd.prog 36 #[.int .i64 (qu - ud)] w fun e w' => e = .returned (.string (stD (qu - ud))) ∧ Grw w w') := fun w h => TD _ w (by omega) (by omega) h
    have T3 : Hid (∀ w, Lib.TabIs Tryd.prog w "internal/strconv.uint64pow10" .u64 Lib.pow10Tab → Calls Tryd.prog 36 #[.int .i64 (max (un - now) 0)] w fun e w' => e = .returned (.string (stD 0)) ∧ Grw w w') := fun w h => by rw [show max (un - now) 0 = 0 by omega]; exact TD 0 w (by omega) (by omega) h
    have g1 := stD_size (by omega : 0 ≤ id) (by omega : id ≤ 1000000)
    have g2 := stD_size (by omega : 0 ≤ qu - ud) (by omega)
    have g3 := stD_size (by omega : 0 ≤ (0 : Int)) (by omega)
    generalize stD id = D1 at T1 g1 hS
    generalize stD (qu - ud) = D2 at T2 g2 hS
    generalize stD 0 = D3 at T3 g3 hS
    have zs1 : (⟨#[115, 101, 115, 115, 105, 111, 110, 32]⟩ : ByteArray).size = 8 := rfl
    have zs2 : (⟨#[32, 111, 102, 32]⟩ : ByteArray).size = 4 := rfl
    have zs3 : (⟨#[44, 32]⟩ : ByteArray).size = 2 := rfl
    have zs4 : (⟨#[32, 108, 101, 102, 116, 44, 32]⟩ : ByteArray).size = 7 := rfl
    have zs5 : (⟨#[32, 116, 105, 99, 107, 115]⟩ : ByteArray).size = 6 := rfl
    have ha0 : ∀ wx : World, (Op.stringOp .add (⟨#[115, 101, 115, 115, 105, 111, 110, 32]⟩) (D1)).run Tryd.prog wx = .ok (.string (⟨#[115, 101, 115, 115, 105, 111, 110, 32]⟩ ++ D1)) wx := fun wx => run_string_add_sum (P := Tryd.prog) (w := wx) _ _ (by (repeat rw [ByteArray.size_append]); omega)
    have ha1 : ∀ wx : World, (Op.stringOp .add (⟨#[115, 101, 115, 115, 105, 111, 110, 32]⟩ ++ D1) (⟨#[32, 111, 102, 32]⟩)).run Tryd.prog wx = .ok (.string (⟨#[115, 101, 115, 115, 105, 111, 110, 32]⟩ ++ D1 ++ ⟨#[32, 111, 102, 32]⟩)) wx := fun wx => run_string_add_sum (P := Tryd.prog) (w := wx) _ _ (by (repeat rw [ByteArray.size_append]); omega)
    have ha2 : ∀ wx : World, (Op.stringOp .add (⟨#[115, 101, 115, 115, 105, 111, 110, 32]⟩ ++ D1 ++ ⟨#[32, 111, 102, 32]⟩) (nm)).run Tryd.prog wx = .ok (.string (⟨#[115, 101, 115, 115, 105, 111, 110, 32]⟩ ++ D1 ++ ⟨#[32, 111, 102, 32]⟩ ++ nm)) wx := fun wx => run_string_add_sum (P := Tryd.prog) (w := wx) _ _ (by (repeat rw [ByteArray.size_append]); omega)
    have ha3 : ∀ wx : World, (Op.stringOp .add (⟨#[115, 101, 115, 115, 105, 111, 110, 32]⟩ ++ D1 ++ ⟨#[32, 111, 102, 32]⟩ ++ nm) (⟨#[44, 32]⟩)).run Tryd.prog wx = .ok (.string (⟨#[115, 101, 115, 115, 105, 111, 110, 32]⟩ ++ D1 ++ ⟨#[32, 111, 102, 32]⟩ ++ nm ++ ⟨#[44, 32]⟩)) wx := fun wx => run_string_add_sum (P := Tryd.prog) (w := wx) _ _ (by (repeat rw [ByteArray.size_append]); omega)
    have ha4 : ∀ wx : World, (Op.stringOp .add (⟨#[115, 101, 115, 115, 105, 111, 110, 32]⟩ ++ D1 ++ ⟨#[32, 111, 102, 32]⟩ ++ nm ++ ⟨#[44, 32]⟩) (D2)).run Tryd.prog wx = .ok (.string (⟨#[115, 101, 115, 115, 105, 111, 110, 32]⟩ ++ D1 ++ ⟨#[32, 111, 102, 32]⟩ ++ nm ++ ⟨#[44, 32]⟩ ++ D2)) wx := fun wx => run_string_add_sum (P := Tryd.prog) (w := wx) _ _ (by (repeat rw [ByteArray.size_append]); omega)
    have ha5 : ∀ wx : World, (Op.stringOp .add (⟨#[115, 101, 115, 115, 105, 111, 110, 32]⟩ ++ D1 ++ ⟨#[32, 111, 102, 32]⟩ ++ nm ++ ⟨#[44, 32]⟩ ++ D2) (⟨#[32, 108, 101, 102, 116, 44, 32]⟩)).run Tryd.prog wx = .ok (.string (⟨#[115, 101, 115, 115, 105, 111, 110, 32]⟩ ++ D1 ++ ⟨#[32, 111, 102, 32]⟩ ++ nm ++ ⟨#[44, 32]⟩ ++ D2 ++ ⟨#[32, 108, 101, 102, 116, 44, 32]⟩)) wx := fun wx => run_string_add_sum (P := Tryd.prog) (w := wx) _ _ (by (repeat rw [ByteArray.size_append]); omega)
    have ha6 : ∀ wx : World, (Op.stringOp .add (⟨#[115, 101, 115, 115, 105, 111, 110, 32]⟩ ++ D1 ++ ⟨#[32, 111, 102, 32]⟩ ++ nm ++ ⟨#[44, 32]⟩ ++ D2 ++ ⟨#[32, 108, 101, 102, 116, 44, 32]⟩) (D3)).run Tryd.prog wx = .ok (.string (⟨#[115, 101, 115, 115, 105, 111, 110, 32]⟩ ++ D1 ++ ⟨#[32, 111, 102, 32]⟩ ++ nm ++ ⟨#[44, 32]⟩ ++ D2 ++ ⟨#[32, 108, 101, 102, 116, 44, 32]⟩ ++ D3)) wx := fun wx => run_string_add_sum (P := Tryd.prog) (w := wx) _ _ (by (repeat rw [ByteArray.size_append]); omega)
    have ha7 : ∀ wx : World, (Op.stringOp .add (⟨#[115, 101, 115, 115, 105, 111, 110, 32]⟩ ++ D1 ++ ⟨#[32, 111, 102, 32]⟩ ++ nm ++ ⟨#[44, 32]⟩ ++ D2 ++ ⟨#[32, 108, 101, 102, 116, 44, 32]⟩ ++ D3) (⟨#[32, 116, 105, 99, 107, 115]⟩)).run Tryd.prog wx = .ok (.string (⟨#[115, 101, 115, 115, 105, 111, 110, 32]⟩ ++ D1 ++ ⟨#[32, 111, 102, 32]⟩ ++ nm ++ ⟨#[44, 32]⟩ ++ D2 ++ ⟨#[32, 108, 101, 102, 116, 44, 32]⟩ ++ D3 ++ ⟨#[32, 116, 105, 99, 107, 115]⟩)) wx := fun wx => run_string_add_sum (P := Tryd.prog) (w := wx) _ _ (by (repeat rw [ByteArray.size_append]); omega)
    have ew1 : IntKind.i64.wrap (qu - ud) = qu - ud := by rw [IntKind.wrap_i64]; omega
    have ew2 : IntKind.i64.wrap (un - now) = un - now := by rw [IntKind.wrap_i64]; omega
    have HZ : Hid (Z = _) := hS
    clear hS TD hM zs1 zs2 zs3 zs4 zs5 hsz
    go_enter Tryd.func21, Tryd.ntmps21
    go_wp2_with fail
    have y6 : (w.alloc (.cells #[.int .i64 id, .int .i64 uid, .string mc, .int .i64 ip, .int .i64 be, .int .i64 la, .int .i64 ud, .int .i64 qu, .int .i64 un, .int .i64 il] 45)).cell? ⟨w.heap.size, 6, none⟩ = some (.int .i64 ud) := by simp
    have y7 : (w.alloc (.cells #[.int .i64 id, .int .i64 uid, .string mc, .int .i64 ip, .int .i64 be, .int .i64 la, .int .i64 ud, .int .i64 qu, .int .i64 un, .int .i64 il] 45)).cell? ⟨w.heap.size, 7, none⟩ = some (.int .i64 qu) := by simp
    have y8 : (w.alloc (.cells #[.int .i64 id, .int .i64 uid, .string mc, .int .i64 ip, .int .i64 be, .int .i64 la, .int .i64 ud, .int .i64 qu, .int .i64 un, .int .i64 il] 45)).cell? ⟨w.heap.size, 8, none⟩ = some (.int .i64 un) := by simp
    have y0 : (w.alloc (.cells #[.int .i64 id, .int .i64 uid, .string mc, .int .i64 ip, .int .i64 be, .int .i64 la, .int .i64 ud, .int .i64 qu, .int .i64 un, .int .i64 il] 45)).cell? ⟨w.heap.size, 0, none⟩ = some (.int .i64 id) := by simp
    have GW : Hid (Grw w (w.alloc (.cells #[.int .i64 id, .int .i64 uid, .string mc, .int .i64 ip, .int .i64 be, .int .i64 la, .int .i64 ud, .int .i64 qu, .int .i64 un, .int .i64 il] 45))) := (Grw.refl _).alloc _
    generalize (w.alloc (.cells #[.int .i64 id, .int .i64 uid, .string mc, .int .i64 ip, .int .i64 be, .int .i64 la, .int .i64 ud, .int .i64 qu, .int .i64 un, .int .i64 il] 45)) = wa at GW y0 y6 y7 y8 ⊢
    have SS : Hid (wa.drew.cell? ⟨w.heap.size, 6, none⟩ = some (.int .i64 ud) ∧ wa.drew.cell? ⟨w.heap.size, 7, none⟩ = some (.int .i64 qu) ∧ wa.drew.cell? ⟨w.heap.size, 8, none⟩ = some (.int .i64 un)) := ⟨by simp [y6], by simp [y7], by simp [y8]⟩
    go_region_held3 (fun wx => wx.cell? ⟨w.heap.size, 6, none⟩ = some (.int .i64 ud) ∧ wx.cell? ⟨w.heap.size, 7, none⟩ = some (.int .i64 qu) ∧ wx.cell? ⟨w.heap.size, 8, none⟩ = some (.int .i64 un))
      (first | (with_reducible exact SS.out) | (with_reducible assumption) | fail)
      (fail)
    all_goals
      have yd0 : wa.drew.cell? ⟨w.heap.size, 0, none⟩ = some (.int .i64 id) := by simp [y0]
      have GD : Hid (Grw w wa.drew) := GW.out.drew
      clear y0 y6 y7 y8
      generalize wa.drew = wd at GD yd0 ⊢
      go_wp2_with fail
      refine (T1.out _ (HT9.out.tabS GD.out.below)).mono ?_
      rintro e w1 ⟨rfl, g1⟩
      have G1 : Hid (Grw w w1) := GD.out.trans g1
      clear g1 yd0
      go_wp2_with fail
      refine (T2.out _ (HT9.out.tabS G1.out.below)).mono ?_
      rintro e w2 ⟨rfl, g2⟩
      have G2 : Hid (Grw w w2) := G1.out.trans g2
      clear g2
      go_wp2_with fail
      refine (T3.out _ (HT9.out.tabS G2.out.below)).mono ?_
      rintro e w3 ⟨rfl, g3⟩
      have G3 : Hid (Grw w w3) := G2.out.trans g3
      clear g3
      go_wp2
      go_ret
      exact ⟨by rw [HZ.out]; rfl, G3.out⟩
end Go.Proofs.YtappekglflgodabDoor
