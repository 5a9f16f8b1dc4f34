/- Nets, the walks: netAround, NetOK, NetHas; the model's NetOK, l05Has, NetHas. -/
import Derived.Test.YtimhkeebgogfoaaDoorNetB
import Derived.Test.YtimhkeebgogfoaaDoorTests
import Derived.Test.YtimhkeebgogfoaaDoorApp
import Derived.Laws.StructEq
import Derived.Test.YtimhkeebgogfoaaDoorGrw
namespace Go.Proofs.YtimhkeebgogfoaaDoor
open Go.RowKit Go.PlainAid Go.Proofs.YtimhkeebgogfoaaDoor.Bt Go.Sort
set_option linter.unusedVariables false
set_option maxRecDepth 20000

/-- Whether it is a net. -/
def nB (ip b : Int) : Bool := dec (0 ≤ ip ∧ ip ≤ 4294967295 ∧ 0 ≤ b ∧ b ≤ 32 ∧ ip % netM b = 0)
/-- Whether a net has an address. -/
def hB (ip b x : Int) : Bool := dec (ip / netM b = x / netM b)

theorem netAround_any (ip : Int) (b : Nat) (w : World) (h0 : 0 ≤ ip) (h1 : ip ≤ 4294967295) (hb : b ≤ 32) :
    Calls Tryd.prog 101 #[.int .i64 ip, .int .i64 b] w fun e w' => e = .returned (.agg #[.int .i64 (ip / netM b * netM b), .int .i64 b]) ∧ Grw w w' := by
  have hm := around ip b h0 h1 hb
  generalize ip / netM b * netM b = r at hm ⊢
  go_enter Tryd.func101, Tryd.ntmps101
  go_wp2
  (try simp only [Exit.inBlock, Exit.then])
  refine bodyPost_ret (v := .agg #[.int .i64 r, .int .i64 b]) (by simp [results, Tryd.results101, go_sem]; try rfl) rfl ?_
  exact ⟨rfl, (Grw.refl _).alloc _⟩

/-- Nets compared. -/
theorem eql_net (x0 x1 y0 y1 : Int) (w : World) : (binOp .eql 40 (.agg #[.int .i64 x0, .int .i64 x1]) (.agg #[.int .i64 y0, .int .i64 y1])).run Tryd.prog w = .ok (.bool (decide (x0 = y0 ∧ x1 = y1))) w := by
  have u3 := Tryd.underlying3
  have a3 := Tryd.isAgg3
  have z3 := Tryd.sizeOf3
  have hS : Tryd.prog.underlying 40 = some (.struct (Tryd.prog.fieldsOf 40)) := by kernel_rfl
  have hp : Tryd.prog.stoodInHeld 40 = false := by kernel_rfl
  rw [run_eql_struct, show (10000 : Nat) = 9999 + 1 from rfl, run_equalIn_agg w 9999 40 _ _ hS hp]
  simp only [Program.fieldsOf, Tryd.underlying40]
  go_simp
  by_cases h1 : x0 = y0 <;> by_cases h2 : x1 = y1 <;> simp [h1, h2]

theorem implNetOK_any (ip b : Int) (w : World) :
    Calls Tryd.prog 80 #[.agg #[.int .i64 ip, .int .i64 b]] w fun e w' => e = .returned (.bool (nB ip b)) ∧ Grw w w' := by
  obtain ⟨q, hq⟩ : ∃ q, q = dec (0 ≤ ip ∧ ip ≤ 4294967295) := ⟨_, rfl⟩
  have HA : Hid (∀ w, Calls Tryd.prog 32 #[.int .i64 ip] w fun e w' => e = .returned (.bool q) ∧ w' = w) := fun w => hq ▸ addressOK_any ip w
  by_cases ha : 0 ≤ ip ∧ ip ≤ 4294967295
  · rw [dec_y ha] at hq
    subst hq
    by_cases hb : b < 0
    · have HN : nB ip b = false := dec_n (by omega)
      rw [HN]; clear HN
      go_enter Tryd.func80, Tryd.ntmps80
      go_wp2_with fail
      refine (HA.out _).mono ?_
      rintro e w1 ⟨rfl, hw⟩
      subst hw
      go_wp2
      go_ret
      exact ⟨rfl, (Grw.refl _).alloc _⟩
    obtain ⟨b, rfl⟩ := Int.eq_ofNat_of_zero_le (by omega : 0 ≤ b)
    by_cases hb : 32 < b
    · have HN : nB ip b = false := dec_n (by omega)
      rw [HN]; clear HN
      go_enter Tryd.func80, Tryd.ntmps80
      go_wp2_with fail
      refine (HA.out _).mono ?_
      rintro e w1 ⟨rfl, hw⟩
      subst hw
      go_wp2
      go_ret
      exact ⟨rfl, (Grw.refl _).alloc _⟩
    have e : nB ip b = decide (ip = ip / netM b * netM b ∧ (b : Int) = b) := by
      have := mul_same ip (netM b) (netM_pos b)
      unfold nB dec
      apply decide_eq_decide.2
      constructor
      · rintro ⟨_, _, _, _, h⟩; exact ⟨this.2 h, rfl⟩
      · rintro ⟨h, _⟩; exact ⟨ha.1, ha.2, by omega, by omega, this.1 h⟩
    rw [e]
    clear e
    have HR : Hid (∀ w, Calls Tryd.prog 101 #[.int .i64 ip, .int .i64 b] w fun e w' => e = .returned (.agg #[.int .i64 (ip / netM b * netM b), .int .i64 b]) ∧ Grw w w') := fun w => netAround_any ip b w ha.1 ha.2 (by omega)
    generalize ip / netM b * netM b = r at HR ⊢
    have he : ∀ w, (binOp .eql 40 (.agg #[.int .i64 ip, .int .i64 b]) (.agg #[.int .i64 r, .int .i64 b])).run Tryd.prog w = .ok (.bool (decide (ip = r ∧ (b : Int) = b))) w := fun w => eql_net ip b r b w
    generalize decide (ip = r ∧ (b : Int) = b) = q at he ⊢
    go_enter Tryd.func80, Tryd.ntmps80
    go_wp2_with fail
    refine (HA.out _).mono ?_
    rintro e w1 ⟨rfl, hw⟩
    subst hw
    go_wp2_with fail
    have hmix : Tryd.prog.follows .mixedOrders = true := by kernel_rfl
    have k0 : ∀ n os, (grow ((w.alloc (.cells #[.int .i64 ip, .int .i64 b] 40)).drewN n) os).cell? ⟨w.heap.size, 0, none⟩ = some (.int .i64 ip) := fun n os => cell_grown (by simp) (by simp) n os
    have k1 : ∀ n os, (grow ((w.alloc (.cells #[.int .i64 ip, .int .i64 b] 40)).drewN n) os).cell? ⟨w.heap.size, 1, none⟩ = some (.int .i64 b) := fun n os => cell_grown (by simp) (by simp) n os
    refine wp_region_quiet_grown (by assumption) (by kernel_rfl) ?_
    repeat (go_big_quiet_step (first | fail | (go_at_call 101; exact Calls.grown_of (HR.out _))))
    refine wpQuiet_nil ?_
    intro _ hw'
    obtain ⟨⟨nq, osq⟩, hw''⟩ := hw'
    subst hw''
    go_wp2
    go_ret
    exact ⟨rfl, ((Grw.refl _).alloc _).trans ⟨nq, osq, rfl⟩⟩
  · have HN : nB ip b = false := dec_n (by omega)
    rw [HN]; clear HN
    rw [dec_n ha] at hq
    subst hq
    go_enter Tryd.func80, Tryd.ntmps80
    go_wp2_with fail
    refine (HA.out _).mono ?_
    rintro e w1 ⟨rfl, hw⟩
    subst hw
    go_wp2
    go_ret
    exact ⟨rfl, (Grw.refl _).alloc _⟩

theorem specNetOK_any (ip b : Int) (w : World) :
    Calls Tryd.prog 97 #[.agg #[.int .i64 ip, .int .i64 b]] w fun e w' => e = .returned (.bool (nB ip b)) ∧ Grw w w' := by
  obtain ⟨q, hq⟩ : ∃ q, q = dec (0 ≤ ip ∧ ip ≤ 4294967295) := ⟨_, rfl⟩
  have HA : Hid (∀ w, Calls Tryd.prog 67 #[.int .i64 ip] w fun e w' => e = .returned (.bool q) ∧ w' = w) := fun w => hq ▸ specIp_any ip w
  obtain ⟨r, hr⟩ : ∃ r, r = dec (0 ≤ b ∧ b ≤ 32) := ⟨_, rfl⟩
  have HI : Hid (∀ w, Calls Tryd.prog 54 #[.int .i64 b, .int .i64 0, .int .i64 32] w fun e w' => e = .returned (.bool r) ∧ w' = w) := fun w => hr ▸ specIn_any b 0 32 w
  by_cases ha : 0 ≤ ip ∧ ip ≤ 4294967295
  · rw [dec_y ha] at hq
    subst hq
    by_cases hb : 0 ≤ b ∧ b ≤ 32
    · rw [dec_y hb] at hr
      subst hr
      obtain ⟨b, rfl⟩ := Int.eq_ofNat_of_zero_le hb.1
      have e : nB ip b = (ip % netM b == 0) := by
        unfold nB dec
        rw [Bool.eq_iff_iff, decide_eq_true_eq, beq_iff_eq]
        exact ⟨fun h => h.2.2.2.2, fun h => ⟨ha.1, ha.2, by omega, by omega, h⟩⟩
      rw [e]
      have hm := within ip b ha.1 ha.2 (by omega)
      generalize ip % netM b = m at hm ⊢
      have c0 : IntKind.i64.wrap (32 - (b : Int)) = ((32 - b : Nat) : Int) := by rw [IntKind.wrap_i64]; omega
      have c1 : IntKind.u64.wrap ((32 - b : Nat) : Int) = ((32 - b : Nat) : Int) := by rw [IntKind.wrap_u64]; omega
      have c2 : wrap64 (2 ^ (32 - b)) = 2 ^ (32 - b) := pow_wrap b
      have c3 : wrap64 (2 ^ (32 - b) - 1) = 2 ^ (32 - b) - 1 := pow_wrap1 b
      clear e
      go_enter Tryd.func97, Tryd.ntmps97
      go_wp2_with fail
      refine (HA.out _).mono ?_
      rintro e w1 ⟨rfl, hw⟩
      subst hw
      go_wp2_with fail
      refine (HI.out _).mono ?_
      rintro e w1 ⟨rfl, hw⟩
      subst hw
      go_wp2
      go_ret
      exact ⟨rfl, (Grw.refl _).alloc _⟩
    · have HN : nB ip b = false := dec_n (by omega)
      rw [HN]; clear HN
      rw [dec_n hb] at hr
      subst hr
      go_enter Tryd.func97, Tryd.ntmps97
      go_wp2_with fail
      refine (HA.out _).mono ?_
      rintro e w1 ⟨rfl, hw⟩
      subst hw
      go_wp2_with fail
      refine (HI.out _).mono ?_
      rintro e w1 ⟨rfl, hw⟩
      subst hw
      go_wp2
      go_ret
      exact ⟨rfl, (Grw.refl _).alloc _⟩
  · have HN : nB ip b = false := dec_n (by omega)
    rw [HN]; clear HN
    rw [dec_n ha] at hq
    subst hq
    go_enter Tryd.func97, Tryd.ntmps97
    go_wp2_with fail
    refine (HA.out _).mono ?_
    rintro e w1 ⟨rfl, hw⟩
    subst hw
    go_wp2
    go_ret
    exact ⟨rfl, (Grw.refl _).alloc _⟩

theorem nB_yes {ip b : Int} (h : nB ip b = true) : 0 ≤ ip ∧ ip ≤ 4294967295 ∧ 0 ≤ b ∧ b ≤ 32 ∧ ip % netM b = 0 := by
  unfold nB dec at h
  exact of_decide_eq_true h
/-- What NetHas answers. -/
def nhB (ip b x : Int) : Bool := nB ip b && dec (0 ≤ x ∧ x ≤ 4294967295) && hB ip b x
def nhC (ip b x : Int) : Int := if nB ip b = false then 1 else if dec (0 ≤ x ∧ x ≤ 4294967295) = false then 4 else 0

theorem has_around (ip x : Int) (b : Nat) (h : nB ip b = true) : hB ip b x = decide (ip = x / netM b * netM b ∧ (b : Int) = b) := by
  have := mul_has ip x (netM b) (netM_pos b) (nB_yes h).2.2.2.2
  unfold hB dec
  apply decide_eq_decide.2
  rw [this]
  simp
end Go.Proofs.YtimhkeebgogfoaaDoor
