/- Nets, the walks: netAround, NetOK, NetHas; the model's NetOK, l05Has, NetHas. -/
import Derived.Test.YtmeejholckelgaaGreatNetB
import Derived.Test.YtmeejholckelgaaGreatTests
import Derived.Test.YtmeejholckelgaaGreatApp
import Derived.Laws.StructEq
import Derived.Test.YtmeejholckelgaaGreatGrw
namespace Go.Proofs.YtmeejholckelgaaGreat
open Go.RowKit Go.PlainAid Go.Proofs.YtmeejholckelgaaGreat.Bt Go.Sort
set_option linter.unusedVariables false
set_option maxRecDepth 20000

/-- Whether it is a net. -/
def nB (ip b : Int) : Bool := dec (0 ≤ ip ∧ ip ≤ 4294967295 ∧ 0 ≤ b ∧ b ≤ 32 ∧ ip % netM b = 0)
/-- Whether a net has an address. -/
def hB (ip b x : Int) : Bool := dec (ip / netM b = x / netM b)

theorem netAround_any (ip : Int) (b : Nat) (w : World) (h0 : 0 ≤ ip) (h1 : ip ≤ 4294967295) (hb : b ≤ 32) :
    Calls Tryz.prog 133 #[.int .i64 ip, .int .i64 b] w fun e w' => e = .returned (.agg #[.int .i64 (ip / netM b * netM b), .int .i64 b]) ∧ Grw w w' := by
  have hm := around ip b h0 h1 hb
  generalize ip / netM b * netM b = r at hm ⊢
  go_enter Tryz.func133, Tryz.ntmps133
  go_wp2
  (try simp only [Exit.inBlock, Exit.then])
  refine bodyPost_ret (v := .agg #[.int .i64 r, .int .i64 b]) (by simp [results, Tryz.results133, go_sem]; try rfl) rfl ?_
  exact ⟨rfl, (Grw.refl _).alloc _⟩

/-- Nets compared. -/
theorem eql_net (x0 x1 y0 y1 : Int) (w : World) : (binOp .eql 44 (.agg #[.int .i64 x0, .int .i64 x1]) (.agg #[.int .i64 y0, .int .i64 y1])).run Tryz.prog w = .ok (.bool (decide (x0 = y0 ∧ x1 = y1))) w := by
  have u3 := Tryz.underlying3
  have a3 := Tryz.isAgg3
  have z3 := Tryz.sizeOf3
  have hS : Tryz.prog.underlying 44 = some (.struct (Tryz.prog.fieldsOf 44)) := by kernel_rfl
  have hp : Tryz.prog.stoodInHeld 44 = false := by kernel_rfl
  rw [run_eql_struct, show (10000 : Nat) = 9999 + 1 from rfl, run_equalIn_agg w 9999 44 _ _ hS hp]
  simp only [Program.fieldsOf, Tryz.underlying44]
  go_simp
  by_cases h1 : x0 = y0 <;> by_cases h2 : x1 = y1 <;> simp [h1, h2]

theorem implNetOK_any (ip b : Int) (w : World) :
    Calls Tryz.prog 131 #[.agg #[.int .i64 ip, .int .i64 b]] w fun e w' => e = .returned (.bool (nB ip b)) ∧ Grw w w' := by
  obtain ⟨q, hq⟩ : ∃ q, q = dec (0 ≤ ip ∧ ip ≤ 4294967295) := ⟨_, rfl⟩
  have HA : Hid (∀ w, Calls Tryz.prog 132 #[.int .i64 ip] w fun e w' => e = .returned (.bool q) ∧ w' = w) := fun w => hq ▸ addressOK_any ip w
  by_cases ha : 0 ≤ ip ∧ ip ≤ 4294967295
  · rw [dec_y ha] at hq
    subst hq
    by_cases hb : b < 0
    · have HN : nB ip b = false := dec_n (by omega)
      rw [HN]; clear HN
      go_enter Tryz.func131, Tryz.ntmps131
      go_wp2_with fail
      refine (HA.out _).mono ?_
      rintro e w1 ⟨rfl, hw⟩
      subst hw
      go_wp2
      go_ret
      exact ⟨rfl, (Grw.refl _).alloc _⟩
    obtain ⟨b, rfl⟩ := Int.eq_ofNat_of_zero_le (by omega : 0 ≤ b)
    by_cases hb : 32 < b
    · have HN : nB ip b = false := dec_n (by omega)
      rw [HN]; clear HN
      go_enter Tryz.func131, Tryz.ntmps131
      go_wp2_with fail
      refine (HA.out _).mono ?_
      rintro e w1 ⟨rfl, hw⟩
      subst hw
      go_wp2
      go_ret
      exact ⟨rfl, (Grw.refl _).alloc _⟩
    have e : nB ip b = decide (ip = ip / netM b * netM b ∧ (b : Int) = b) := by
      have := mul_same ip (netM b) (netM_pos b)
      unfold nB dec
      apply decide_eq_decide.2
      constructor
      · rintro ⟨_, _, _, _, h⟩; exact ⟨this.2 h, rfl⟩
      · rintro ⟨h, _⟩; exact ⟨ha.1, ha.2, by omega, by omega, this.1 h⟩
    rw [e]
    clear e
    have HR : Hid (∀ w, Calls Tryz.prog 133 #[.int .i64 ip, .int .i64 b] w fun e w' => e = .returned (.agg #[.int .i64 (ip / netM b * netM b), .int .i64 b]) ∧ Grw w w') := fun w => netAround_any ip b w ha.1 ha.2 (by omega)
    generalize ip / netM b * netM b = r at HR ⊢
    have he : ∀ w, (binOp .eql 44 (.agg #[.int .i64 ip, .int .i64 b]) (.agg #[.int .i64 r, .int .i64 b])).run Tryz.prog w = .ok (.bool (decide (ip = r ∧ (b : Int) = b))) w := fun w => eql_net ip b r b w
    generalize decide (ip = r ∧ (b : Int) = b) = q at he ⊢
    go_enter Tryz.func131, Tryz.ntmps131
    go_wp2_with fail
    refine (HA.out _).mono ?_
    rintro e w1 ⟨rfl, hw⟩
    subst hw
    go_wp2_with fail
    have hmix : Tryz.prog.follows .mixedOrders = true := by kernel_rfl
    have k0 : ∀ n os, (grow ((w.alloc (.cells #[.int .i64 ip, .int .i64 b] 44)).drewN n) os).cell? ⟨w.heap.size, 0, none⟩ = some (.int .i64 ip) := fun n os => cell_grown (by simp) (by simp) n os
    have k1 : ∀ n os, (grow ((w.alloc (.cells #[.int .i64 ip, .int .i64 b] 44)).drewN n) os).cell? ⟨w.heap.size, 1, none⟩ = some (.int .i64 b) := fun n os => cell_grown (by simp) (by simp) n os
    refine wp_region_quiet_grown (by assumption) (by kernel_rfl) ?_
    repeat (go_big_quiet_step (first | fail | (go_at_call 133; exact Calls.grown_of (HR.out _))))
    refine wpQuiet_nil ?_
    intro _ hw'
    obtain ⟨⟨nq, osq⟩, hw''⟩ := hw'
    subst hw''
    go_wp2
    go_ret
    exact ⟨rfl, ((Grw.refl _).alloc _).trans ⟨nq, osq, rfl⟩⟩
  · have HN : nB ip b = false := dec_n (by omega)
    rw [HN]; clear HN
    rw [dec_n ha] at hq
    subst hq
    go_enter Tryz.func131, Tryz.ntmps131
    go_wp2_with fail
    refine (HA.out _).mono ?_
    rintro e w1 ⟨rfl, hw⟩
    subst hw
    go_wp2
    go_ret
    exact ⟨rfl, (Grw.refl _).alloc _⟩

theorem specNetOK_any (ip b : Int) (w : World) :
    Calls Tryz.prog 114 #[.agg #[.int .i64 ip, .int .i64 b]] w fun e w' => e = .returned (.bool (nB ip b)) ∧ Grw w w' := by
  obtain ⟨q, hq⟩ : ∃ q, q = dec (0 ≤ ip ∧ ip ≤ 4294967295) := ⟨_, rfl⟩
  have HA : Hid (∀ w, Calls Tryz.prog 104 #[.int .i64 ip] w fun e w' => e = .returned (.bool q) ∧ w' = w) := fun w => hq ▸ specIp_any ip w
  obtain ⟨r, hr⟩ : ∃ r, r = dec (0 ≤ b ∧ b ≤ 32) := ⟨_, rfl⟩
  have HI : Hid (∀ w, Calls Tryz.prog 31 #[.int .i64 b, .int .i64 0, .int .i64 32] w fun e w' => e = .returned (.bool r) ∧ w' = w) := fun w => hr ▸ specIn_any b 0 32 w
  by_cases ha : 0 ≤ ip ∧ ip ≤ 4294967295
  · rw [dec_y ha] at hq
    subst hq
    by_cases hb : 0 ≤ b ∧ b ≤ 32
    · rw [dec_y hb] at hr
      subst hr
      obtain ⟨b, rfl⟩ := Int.eq_ofNat_of_zero_le hb.1
      have e : nB ip b = (ip % netM b == 0) := by
        unfold nB dec
        rw [Bool.eq_iff_iff, decide_eq_true_eq, beq_iff_eq]
        exact ⟨fun h => h.2.2.2.2, fun h => ⟨ha.1, ha.2, by omega, by omega, h⟩⟩
      rw [e]
      have hm := within ip b ha.1 ha.2 (by omega)
      generalize ip % netM b = m at hm ⊢
      have c0 : IntKind.i64.wrap (32 - (b : Int)) = ((32 - b : Nat) : Int) := by rw [IntKind.wrap_i64]; omega
      have c1 : IntKind.u64.wrap ((32 - b : Nat) : Int) = ((32 - b : Nat) : Int) := by rw [IntKind.wrap_u64]; omega
      have c2 : wrap64 (2 ^ (32 - b)) = 2 ^ (32 - b) := pow_wrap b
      have c3 : wrap64 (2 ^ (32 - b) - 1) = 2 ^ (32 - b) - 1 := pow_wrap1 b
      clear e
      go_enter Tryz.func114, Tryz.ntmps114
      go_wp2_with fail
      refine (HA.out _).mono ?_
      rintro e w1 ⟨rfl, hw⟩
      subst hw
      go_wp2_with fail
      refine (HI.out _).mono ?_
      rintro e w1 ⟨rfl, hw⟩
      subst hw
      go_wp2
      go_ret
      exact ⟨rfl, (Grw.refl _).alloc _⟩
    · have HN : nB ip b = false := dec_n (by omega)
      rw [HN]; clear HN
      rw [dec_n hb] at hr
      subst hr
      go_enter Tryz.func114, Tryz.ntmps114
      go_wp2_with fail
      refine (HA.out _).mono ?_
      rintro e w1 ⟨rfl, hw⟩
      subst hw
      go_wp2_with fail
      refine (HI.out _).mono ?_
      rintro e w1 ⟨rfl, hw⟩
      subst hw
      go_wp2
      go_ret
      exact ⟨rfl, (Grw.refl _).alloc _⟩
  · have HN : nB ip b = false := dec_n (by omega)
    rw [HN]; clear HN
    rw [dec_n ha] at hq
    subst hq
    go_enter Tryz.func114, Tryz.ntmps114
    go_wp2_with fail
    refine (HA.out _).mono ?_
    rintro e w1 ⟨rfl, hw⟩
    subst hw
    go_wp2
    go_ret
    exact ⟨rfl, (Grw.refl _).alloc _⟩

theorem nB_yes {ip b : Int} (h : nB ip b = true) : 0 ≤ ip ∧ ip ≤ 4294967295 ∧ 0 ≤ b ∧ b ≤ 32 ∧ ip % netM b = 0 := by
  unfold nB dec at h
  exact of_decide_eq_true h
theorem l05Has_any (ip b x : Int) (w : World) (hb0 : 0 ≤ b) (hb1 : b ≤ 32) :
    Calls Tryz.prog 103 #[.agg #[.int .i64 ip, .int .i64 b], .int .i64 x] w fun e w' => e = .returned (.bool (hB ip b x)) ∧ Grw w w' := by
  obtain ⟨b, rfl⟩ := Int.eq_ofNat_of_zero_le hb0
  have e : hB ip b x = (ip / 2 ^ (32 - b) == x / 2 ^ (32 - b)) := by
    unfold hB dec netM
    rw [Bool.eq_iff_iff, decide_eq_true_eq, beq_iff_eq]
    exact Iff.rfl
  rw [e]
  clear e
  have c0 : IntKind.i64.wrap (32 - (b : Int)) = ((32 - b : Nat) : Int) := by rw [IntKind.wrap_i64]; omega
  have c1 : IntKind.u64.wrap ((32 - b : Nat) : Int) = ((32 - b : Nat) : Int) := by rw [IntKind.wrap_u64]; omega
  go_enter Tryz.func103, Tryz.ntmps103
  go_wp2
  go_ret
  exact ⟨rfl, (Grw.refl _).alloc _⟩
/-- What NetHas answers. -/
def nhB (ip b x : Int) : Bool := nB ip b && dec (0 ≤ x ∧ x ≤ 4294967295) && hB ip b x
def nhC (ip b x : Int) : Int := if nB ip b = false then 1 else if dec (0 ≤ x ∧ x ≤ 4294967295) = false then 4 else 0

theorem has_around (ip x : Int) (b : Nat) (h : nB ip b = true) : hB ip b x = decide (ip = x / netM b * netM b ∧ (b : Int) = b) := by
  have := mul_has ip x (netM b) (netM_pos b) (nB_yes h).2.2.2.2
  unfold hB dec
  apply decide_eq_decide.2
  rw [this]
  simp
theorem implNetHas_any (ip b x : Int) (w : World) :
    Calls Tryz.prog 120 #[.agg #[.int .i64 ip, .int .i64 b], .int .i64 x] w fun e w' => e = .returned (.tuple #[.bool (nhB ip b x), .int .i64 (nhC ip b x)]) ∧ Grw w w' := by
  obtain ⟨q, hq⟩ : ∃ q, q = nB ip b := ⟨_, rfl⟩
  have HO : Hid (∀ w, Calls Tryz.prog 131 #[.agg #[.int .i64 ip, .int .i64 b]] w fun e w' => e = .returned (.bool q) ∧ Grw w w') := fun w => hq ▸ implNetOK_any ip b w
  obtain ⟨r, hr⟩ : ∃ r, r = dec (0 ≤ x ∧ x ≤ 4294967295) := ⟨_, rfl⟩
  have HA : Hid (∀ w, Calls Tryz.prog 132 #[.int .i64 x] w fun e w' => e = .returned (.bool r) ∧ w' = w) := fun w => hr ▸ addressOK_any x w
  cases q with
  | false =>
    have e1 : nhB ip b x = false := by unfold nhB; rw [← hq]; rfl
    have e2 : nhC ip b x = 1 := by unfold nhC; rw [← hq]; rfl
    rw [e1, e2]
    clear e1 e2 hq hr
    go_enter Tryz.func120, Tryz.ntmps120
    go_wp2_with fail
    refine (HO.out _).mono ?_
    rintro e w1 ⟨rfl, b1⟩
    have B1 : Hid (Grw w w1) := ((Grw.refl _).alloc _).trans b1
    clear b1
    go_wp2
    go_ret2
    exact ⟨rfl, B1.out⟩
  | true =>
    have hn := nB_yes hq.symm
    cases r with
    | false =>
      have e1 : nhB ip b x = false := by unfold nhB; rw [← hq, ← hr]; rfl
      have e2 : nhC ip b x = 4 := by unfold nhC; rw [← hq, ← hr]; rfl
      rw [e1, e2]
      clear e1 e2 hq hr hn
      go_enter Tryz.func120, Tryz.ntmps120
      go_wp2_with fail
      refine (HO.out _).mono ?_
      rintro e w1 ⟨rfl, b1⟩
      have B1 : Hid (Grw w w1) := ((Grw.refl _).alloc _).trans b1
      clear b1
      go_wp2_with fail
      refine (HA.out _).mono ?_
      rintro e w2 ⟨rfl, hw⟩
      subst hw
      go_wp2
      go_ret2
      exact ⟨rfl, B1.out⟩
    | true =>
      obtain ⟨b, rfl⟩ := Int.eq_ofNat_of_zero_le hn.2.2.1
      have hx : 0 ≤ x ∧ x ≤ 4294967295 := of_decide_eq_true hr.symm
      have e1 : nhB ip b x = decide (ip = x / netM b * netM b ∧ (b : Int) = b) := by unfold nhB; rw [← hq, ← hr, ← has_around ip x b hq.symm]; rfl
      have e2 : nhC ip b x = 0 := by unfold nhC; rw [← hq, ← hr]; rfl
      rw [e1, e2]
      have HR : Hid (∀ w, Calls Tryz.prog 133 #[.int .i64 x, .int .i64 b] w fun e w' => e = .returned (.agg #[.int .i64 (x / netM b * netM b), .int .i64 b]) ∧ Grw w w') := fun w => netAround_any x b w hx.1 hx.2 (by omega)
      clear e1 e2 hq hr hn
      generalize x / netM b * netM b = r at HR ⊢
      have he : ∀ w, (binOp .eql 44 (.agg #[.int .i64 ip, .int .i64 b]) (.agg #[.int .i64 r, .int .i64 b])).run Tryz.prog w = .ok (.bool (decide (ip = r ∧ (b : Int) = b))) w := fun w => eql_net ip b r b w
      generalize decide (ip = r ∧ (b : Int) = b) = q at he ⊢
      have hmix : Tryz.prog.follows .mixedOrders = true := by kernel_rfl
      go_enter Tryz.func120, Tryz.ntmps120
      go_wp2_with fail
      refine (HO.out _).mono ?_
      rintro e w1 ⟨rfl, b1⟩
      have B1 : Hid (Grw w w1) := ((Grw.refl _).alloc _).trans b1
      have q0 : w1.cell? ⟨w.heap.size, 0, none⟩ = some (.int .i64 ip) := by rw [b1.below.cell (by simp)]; simp
      have q1 : w1.cell? ⟨w.heap.size, 1, none⟩ = some (.int .i64 b) := by rw [b1.below.cell (by simp)]; simp
      clear b1
      go_wp2_with fail
      refine (HA.out _).mono ?_
      rintro e w2 ⟨rfl, hw⟩
      subst hw
      have hl : w.heap.size < w2.heap.size := World.block_lt_of_cell? w2 _ q0
      have k0 : ∀ n os, (grow (w2.drewN n) os).cell? ⟨w.heap.size, 0, none⟩ = some (.int .i64 ip) := fun n os => cell_grown (by exact hl) q0 n os
      have k1 : ∀ n os, (grow (w2.drewN n) os).cell? ⟨w.heap.size, 1, none⟩ = some (.int .i64 b) := fun n os => cell_grown (by exact hl) q1 n os
      go_wp2_with fail
      refine wp_region_quiet_grown (by assumption) (by kernel_rfl) ?_
      repeat (go_big_quiet_step (first | fail | (go_at_call 133; exact Calls.grown_of (HR.out _))))
      refine wpQuiet_nil ?_
      intro _ hw'
      obtain ⟨⟨nq, osq⟩, hw''⟩ := hw'
      subst hw''
      go_wp2
      go_ret2
      exact ⟨rfl, B1.out.trans ⟨nq, osq, rfl⟩⟩
end Go.Proofs.YtmeejholckelgaaGreat
