/- Rules: placeOf, placeOK, protoWord, RuleOK; the model's l07Range, RuleOK. -/
import Derived.Test.YtmeejholckelgaaGreatNetW
import Derived.Test.YtmeejholckelgaaGreatOpenR
import Derived.Test.YtmeejholckelgaaGreatKeeps
namespace Go.Proofs.YtmeejholckelgaaGreat
open Go.RowKit Go.PlainAid Go.Proofs.YtmeejholckelgaaGreat.Bt Go.Sort
set_option linter.unusedVariables false
set_option maxRecDepth 20000

/-- Ports; a proto; a rule. -/
def rgB (lo hi : Int) : Bool := dec (0 ≤ lo ∧ lo ≤ 65535) && dec (lo ≤ hi ∧ hi ≤ 65535)
def prB (p : Int) : Bool := dec (p = 0 ∨ p = 1 ∨ p = 6 ∨ p = 17)
def plB (ip b lo hi : Int) : Bool := nB ip b && rgB lo hi
def ruB (r : RuleV) : Bool := prB r.p && plB r.ip r.b r.lo r.hi
theorem dec_congr {p q : Prop} [Decidable p] [Decidable q] (h : p ↔ q) : dec p = dec q := decide_eq_decide.2 h
theorem rg_ports (lo hi : Int) : (dec (0 ≤ lo ∧ lo ≤ 65535) && (dec (0 ≤ hi ∧ hi ≤ 65535) && decide (lo ≤ hi))) = rgB lo hi := by
  unfold rgB dec
  rw [Bool.eq_iff_iff]
  simp
  omega

theorem l07Range_any (lo hi : Int) (w : World) :
    Calls Tryz.prog 115 #[.agg #[.int .i64 lo, .int .i64 hi]] w fun e w' => e = .returned (.bool (rgB lo hi)) ∧ Grw w w' := by
  obtain ⟨q, hq⟩ : ∃ q, q = dec (0 ≤ lo ∧ lo ≤ 65535) := ⟨_, rfl⟩
  obtain ⟨r, hr⟩ : ∃ r, r = dec (lo ≤ hi ∧ hi ≤ 65535) := ⟨_, rfl⟩
  have HA : Hid (∀ w, Calls Tryz.prog 31 #[.int .i64 lo, .int .i64 0, .int .i64 65535] w fun e w' => e = .returned (.bool q) ∧ w' = w) := fun w => hq ▸ specIn_any lo 0 65535 w
  have HB : Hid (∀ w, Calls Tryz.prog 31 #[.int .i64 hi, .int .i64 lo, .int .i64 65535] w fun e w' => e = .returned (.bool r) ∧ w' = w) := fun w => hr ▸ specIn_any hi lo 65535 w
  have E : Hid (rgB lo hi = (q && r)) := by rw [hq, hr]; rfl
  clear hq hr
  go_enter Tryz.func115, Tryz.ntmps115
  go_wp2_with fail
  refine (HA.out _).mono ?_
  rintro e wx1 ⟨rfl, rfl⟩
  cases q with
  | false =>
    go_wp2
    go_ret
    exact ⟨by rw [E.out]; rfl, ((Grw.refl _).alloc _)⟩
  | true =>
    go_wp2_with fail
    refine (HB.out _).mono ?_
    rintro e wx2 ⟨rfl, rfl⟩
    cases r with
    | false =>
      go_wp2
      go_ret
      exact ⟨by rw [E.out]; rfl, ((Grw.refl _).alloc _)⟩
    | true =>
      go_wp2
      go_ret
      exact ⟨by rw [E.out]; rfl, ((Grw.refl _).alloc _)⟩

set_option maxHeartbeats 1000000 in
theorem specRuleOK_any (p ip b lo hi : Int) (al : Bool) (w : World) :
    Calls Tryz.prog 130 #[.agg #[.int .i64 p, .int .i64 ip, .int .i64 b, .int .i64 lo, .int .i64 hi, .bool al]] w fun e w' => e = .returned (.bool (ruB ⟨p, ip, b, lo, hi, al⟩)) ∧ Grw w w' := by
  obtain ⟨q, hq⟩ : ∃ q, q = nB ip b := ⟨_, rfl⟩
  obtain ⟨r, hr⟩ : ∃ r, r = rgB lo hi := ⟨_, rfl⟩
  have HA : Hid (∀ w, Calls Tryz.prog 114 #[.agg #[.int .i64 ip, .int .i64 b]] w fun e w' => e = .returned (.bool q) ∧ Grw w w') := fun w => hq ▸ specNetOK_any ip b w
  have HB : Hid (∀ w, Calls Tryz.prog 115 #[.agg #[.int .i64 lo, .int .i64 hi]] w fun e w' => e = .returned (.bool r) ∧ Grw w w') := fun w => hr ▸ l07Range_any lo hi w
  have E : Hid (ruB ⟨p, ip, b, lo, hi, al⟩ = (prB p && (q && r))) := by rw [hq, hr]; rfl
  clear hq hr
  generalize ruB ⟨p, ip, b, lo, hi, al⟩ = z at E ⊢
  by_cases hp : p = 0 ∨ p = 1 ∨ p = 6 ∨ p = 17
  · have e1 : prB p = true := dec_y hp
    rw [e1] at E
    rcases hp with hp | hp | hp | hp
    · have n0 : (p == 0) = true := by simp; omega
      have n1 : (p == 1) = false := by simp; omega
      have n2 : (p == 6) = false := by simp; omega
      have n3 : (p == 17) = false := by simp; omega
      go_enter Tryz.func130, Tryz.ntmps130
      go_wp2_with fail
      refine (HA.out _).mono ?_
      rintro e wx1 ⟨rfl, bx⟩
      have k1 : World.cell? _ ⟨w.heap.size, 1, none⟩ = some (.int .i64 ip) := bx.keep (a := ⟨w.heap.size, 1, none⟩) (v := .int .i64 ip) (by simp [go_sem])
      have k2 : World.cell? _ ⟨w.heap.size, 2, none⟩ = some (.int .i64 b) := bx.keep (a := ⟨w.heap.size, 2, none⟩) (v := .int .i64 b) (by simp [go_sem])
      have k3 : World.cell? _ ⟨w.heap.size, 3, none⟩ = some (.int .i64 lo) := bx.keep (a := ⟨w.heap.size, 3, none⟩) (v := .int .i64 lo) (by simp [go_sem])
      have k4 : World.cell? _ ⟨w.heap.size, 4, none⟩ = some (.int .i64 hi) := bx.keep (a := ⟨w.heap.size, 4, none⟩) (v := .int .i64 hi) (by simp [go_sem])
      have BX : Hid (Grw w _) := ((Grw.refl _).alloc _).trans bx
      clear bx
      cases q with
      | false =>
        go_wp2
        go_ret
        exact ⟨by rw [E.out]; rfl, BX.out⟩
      | true =>
        go_wp2_with fail
        refine (HB.out _).mono ?_
        rintro e wx2 ⟨rfl, bx⟩
        replace k1 := bx.keep k1
        replace k2 := bx.keep k2
        replace k3 := bx.keep k3
        replace k4 := bx.keep k4
        replace BX : Hid (Grw w _) := BX.out.trans bx
        clear bx
        cases r with
        | false =>
          go_wp2
          go_ret
          exact ⟨by rw [E.out]; rfl, BX.out⟩
        | true =>
          go_wp2
          go_ret
          exact ⟨by rw [E.out]; rfl, BX.out⟩
    · have n0 : (p == 0) = false := by simp; omega
      have n1 : (p == 1) = true := by simp; omega
      have n2 : (p == 6) = false := by simp; omega
      have n3 : (p == 17) = false := by simp; omega
      go_enter Tryz.func130, Tryz.ntmps130
      go_wp2_with fail
      refine (HA.out _).mono ?_
      rintro e wx1 ⟨rfl, bx⟩
      have k1 : World.cell? _ ⟨w.heap.size, 1, none⟩ = some (.int .i64 ip) := bx.keep (a := ⟨w.heap.size, 1, none⟩) (v := .int .i64 ip) (by simp [go_sem])
      have k2 : World.cell? _ ⟨w.heap.size, 2, none⟩ = some (.int .i64 b) := bx.keep (a := ⟨w.heap.size, 2, none⟩) (v := .int .i64 b) (by simp [go_sem])
      have k3 : World.cell? _ ⟨w.heap.size, 3, none⟩ = some (.int .i64 lo) := bx.keep (a := ⟨w.heap.size, 3, none⟩) (v := .int .i64 lo) (by simp [go_sem])
      have k4 : World.cell? _ ⟨w.heap.size, 4, none⟩ = some (.int .i64 hi) := bx.keep (a := ⟨w.heap.size, 4, none⟩) (v := .int .i64 hi) (by simp [go_sem])
      have BX : Hid (Grw w _) := ((Grw.refl _).alloc _).trans bx
      clear bx
      cases q with
      | false =>
        go_wp2
        go_ret
        exact ⟨by rw [E.out]; rfl, BX.out⟩
      | true =>
        go_wp2_with fail
        refine (HB.out _).mono ?_
        rintro e wx2 ⟨rfl, bx⟩
        replace k1 := bx.keep k1
        replace k2 := bx.keep k2
        replace k3 := bx.keep k3
        replace k4 := bx.keep k4
        replace BX : Hid (Grw w _) := BX.out.trans bx
        clear bx
        cases r with
        | false =>
          go_wp2
          go_ret
          exact ⟨by rw [E.out]; rfl, BX.out⟩
        | true =>
          go_wp2
          go_ret
          exact ⟨by rw [E.out]; rfl, BX.out⟩
    · have n0 : (p == 0) = false := by simp; omega
      have n1 : (p == 1) = false := by simp; omega
      have n2 : (p == 6) = true := by simp; omega
      have n3 : (p == 17) = false := by simp; omega
      go_enter Tryz.func130, Tryz.ntmps130
      go_wp2_with fail
      refine (HA.out _).mono ?_
      rintro e wx1 ⟨rfl, bx⟩
      have k1 : World.cell? _ ⟨w.heap.size, 1, none⟩ = some (.int .i64 ip) := bx.keep (a := ⟨w.heap.size, 1, none⟩) (v := .int .i64 ip) (by simp [go_sem])
      have k2 : World.cell? _ ⟨w.heap.size, 2, none⟩ = some (.int .i64 b) := bx.keep (a := ⟨w.heap.size, 2, none⟩) (v := .int .i64 b) (by simp [go_sem])
      have k3 : World.cell? _ ⟨w.heap.size, 3, none⟩ = some (.int .i64 lo) := bx.keep (a := ⟨w.heap.size, 3, none⟩) (v := .int .i64 lo) (by simp [go_sem])
      have k4 : World.cell? _ ⟨w.heap.size, 4, none⟩ = some (.int .i64 hi) := bx.keep (a := ⟨w.heap.size, 4, none⟩) (v := .int .i64 hi) (by simp [go_sem])
      have BX : Hid (Grw w _) := ((Grw.refl _).alloc _).trans bx
      clear bx
      cases q with
      | false =>
        go_wp2
        go_ret
        exact ⟨by rw [E.out]; rfl, BX.out⟩
      | true =>
        go_wp2_with fail
        refine (HB.out _).mono ?_
        rintro e wx2 ⟨rfl, bx⟩
        replace k1 := bx.keep k1
        replace k2 := bx.keep k2
        replace k3 := bx.keep k3
        replace k4 := bx.keep k4
        replace BX : Hid (Grw w _) := BX.out.trans bx
        clear bx
        cases r with
        | false =>
          go_wp2
          go_ret
          exact ⟨by rw [E.out]; rfl, BX.out⟩
        | true =>
          go_wp2
          go_ret
          exact ⟨by rw [E.out]; rfl, BX.out⟩
    · have n0 : (p == 0) = false := by simp; omega
      have n1 : (p == 1) = false := by simp; omega
      have n2 : (p == 6) = false := by simp; omega
      have n3 : (p == 17) = true := by simp; omega
      go_enter Tryz.func130, Tryz.ntmps130
      go_wp2_with fail
      refine (HA.out _).mono ?_
      rintro e wx1 ⟨rfl, bx⟩
      have k1 : World.cell? _ ⟨w.heap.size, 1, none⟩ = some (.int .i64 ip) := bx.keep (a := ⟨w.heap.size, 1, none⟩) (v := .int .i64 ip) (by simp [go_sem])
      have k2 : World.cell? _ ⟨w.heap.size, 2, none⟩ = some (.int .i64 b) := bx.keep (a := ⟨w.heap.size, 2, none⟩) (v := .int .i64 b) (by simp [go_sem])
      have k3 : World.cell? _ ⟨w.heap.size, 3, none⟩ = some (.int .i64 lo) := bx.keep (a := ⟨w.heap.size, 3, none⟩) (v := .int .i64 lo) (by simp [go_sem])
      have k4 : World.cell? _ ⟨w.heap.size, 4, none⟩ = some (.int .i64 hi) := bx.keep (a := ⟨w.heap.size, 4, none⟩) (v := .int .i64 hi) (by simp [go_sem])
      have BX : Hid (Grw w _) := ((Grw.refl _).alloc _).trans bx
      clear bx
      cases q with
      | false =>
        go_wp2
        go_ret
        exact ⟨by rw [E.out]; rfl, BX.out⟩
      | true =>
        go_wp2_with fail
        refine (HB.out _).mono ?_
        rintro e wx2 ⟨rfl, bx⟩
        replace k1 := bx.keep k1
        replace k2 := bx.keep k2
        replace k3 := bx.keep k3
        replace k4 := bx.keep k4
        replace BX : Hid (Grw w _) := BX.out.trans bx
        clear bx
        cases r with
        | false =>
          go_wp2
          go_ret
          exact ⟨by rw [E.out]; rfl, BX.out⟩
        | true =>
          go_wp2
          go_ret
          exact ⟨by rw [E.out]; rfl, BX.out⟩
  · have e1 : prB p = false := dec_n hp
    rw [e1] at E
    have n0 : (p == 0) = false := by simp; omega
    have n1 : (p == 1) = false := by simp; omega
    have n2 : (p == 6) = false := by simp; omega
    have n3 : (p == 17) = false := by simp; omega
    go_enter Tryz.func130, Tryz.ntmps130
    go_wp2
    go_ret
    exact ⟨by rw [E.out]; rfl, (Grw.refl _).alloc _⟩

theorem placeOf_any (p ip b lo hi : Int) (al : Bool) (w : World) :
    Calls Tryz.prog 156 #[.agg #[.int .i64 p, .int .i64 ip, .int .i64 b, .int .i64 lo, .int .i64 hi, .bool al]] w fun e w' => e = .returned (.agg #[.int .i64 ip, .int .i64 b, .int .i64 lo, .int .i64 hi]) ∧ Grw w w' := by
  go_enter Tryz.func156, Tryz.ntmps156
  go_wp2
  (try simp only [Exit.inBlock, Exit.then])
  refine bodyPost_ret (v := .agg #[.int .i64 ip, .int .i64 b, .int .i64 lo, .int .i64 hi]) (by simp [results, Tryz.results156, go_sem]; try rfl) rfl ?_
  exact ⟨rfl, ((Grw.refl _).alloc _).alloc _⟩

set_option maxHeartbeats 1000000 in
theorem placeOK_any (ip b lo hi : Int) (w : World) (hl : lo ≤ 9223372036854775807) (hh : hi ≤ 9223372036854775807) :
    Calls Tryz.prog 134 #[.agg #[.int .i64 ip, .int .i64 b, .int .i64 lo, .int .i64 hi]] w fun e w' => e = .returned (.bool (plB ip b lo hi)) ∧ Grw w w' := by
  obtain ⟨q, hq⟩ : ∃ q, q = nB ip b := ⟨_, rfl⟩
  obtain ⟨r, hr⟩ : ∃ r, r = dec (0 ≤ lo ∧ lo ≤ 65535) := ⟨_, rfl⟩
  obtain ⟨s, hs⟩ : ∃ s, s = dec (0 ≤ hi ∧ hi ≤ 65535) := ⟨_, rfl⟩
  obtain ⟨u, hu⟩ : ∃ u, u = decide (lo ≤ hi) := ⟨_, rfl⟩
  have HA : Hid (∀ w, Calls Tryz.prog 131 #[.agg #[.int .i64 ip, .int .i64 b]] w fun e w' => e = .returned (.bool q) ∧ Grw w w') := fun w => hq ▸ implNetOK_any ip b w
  have HB : Hid (∀ w, Calls Tryz.prog 147 #[.int .i64 lo] w fun e w' => e = .returned (.bool r) ∧ w' = w) := fun w => hr ▸ portOK_any lo w hl
  have HC : Hid (∀ w, Calls Tryz.prog 147 #[.int .i64 hi] w fun e w' => e = .returned (.bool s) ∧ w' = w) := fun w => hs ▸ portOK_any hi w hh
  have E : Hid (plB ip b lo hi = (q && (r && (s && u)))) := by
    rw [hq, hr, hs, hu, rg_ports]
    rfl
  have hu' : decide (lo ≤ hi) = u := hu.symm
  clear hq hr hs hu
  go_enter Tryz.func134, Tryz.ntmps134
  go_wp2_with fail
  refine (HA.out _).mono ?_
  rintro e wx1 ⟨rfl, bx⟩
  have k0 : World.cell? _ ⟨w.heap.size, 0, none⟩ = some (.int .i64 ip) := bx.keep (a := ⟨w.heap.size, 0, none⟩) (v := .int .i64 ip) (by simp [go_sem])
  have k1 : World.cell? _ ⟨w.heap.size, 1, none⟩ = some (.int .i64 b) := bx.keep (a := ⟨w.heap.size, 1, none⟩) (v := .int .i64 b) (by simp [go_sem])
  have k2 : World.cell? _ ⟨w.heap.size, 2, none⟩ = some (.int .i64 lo) := bx.keep (a := ⟨w.heap.size, 2, none⟩) (v := .int .i64 lo) (by simp [go_sem])
  have k3 : World.cell? _ ⟨w.heap.size, 3, none⟩ = some (.int .i64 hi) := bx.keep (a := ⟨w.heap.size, 3, none⟩) (v := .int .i64 hi) (by simp [go_sem])
  have BX : Hid (Grw w _) := ((Grw.refl _).alloc _).trans bx
  clear bx
  cases q with
  | false =>
    go_wp2
    go_ret
    exact ⟨by rw [E.out]; rfl, BX.out⟩
  | true =>
    go_wp2_with fail
    refine (HB.out _).mono ?_
    rintro e wx2 ⟨rfl, rfl⟩
    cases r with
    | false =>
      go_wp2
      go_ret
      exact ⟨by rw [E.out]; rfl, BX.out⟩
    | true =>
      go_wp2_with fail
      refine (HC.out _).mono ?_
      rintro e wx3 ⟨rfl, rfl⟩
      cases s with
      | false =>
        go_wp2
        go_ret
        exact ⟨by rw [E.out]; rfl, BX.out⟩
      | true =>
        go_wp2
        go_ret
        exact ⟨by rw [E.out]; rfl, BX.out⟩

/-- The word of a proto. -/
def pwS (p : Int) : ByteArray := if p = 0 then ⟨#[97, 110, 121]⟩ else if p = 1 then ⟨#[105, 99, 109, 112]⟩ else if p = 6 then ⟨#[116, 99, 112]⟩ else if p = 17 then ⟨#[117, 100, 112]⟩ else ⟨#[]⟩
theorem protoWord_any (p : Int) (w : World) :
    Calls Tryz.prog 155 #[.int .i64 p] w fun e w' => e = .returned (.string (pwS p)) ∧ w' = w := by
  by_cases h0 : p = 0
  · subst h0
    go_enter Tryz.func155, Tryz.ntmps155
    go_wp2
    go_ret
    exact ⟨rfl, rfl⟩
  by_cases h1 : p = 1
  · subst h1
    go_enter Tryz.func155, Tryz.ntmps155
    go_wp2
    go_ret
    exact ⟨rfl, rfl⟩
  by_cases h2 : p = 6
  · subst h2
    go_enter Tryz.func155, Tryz.ntmps155
    go_wp2
    go_ret
    exact ⟨rfl, rfl⟩
  by_cases h3 : p = 17
  · subst h3
    go_enter Tryz.func155, Tryz.ntmps155
    go_wp2
    go_ret
    exact ⟨rfl, rfl⟩
  have e : pwS p = ⟨#[]⟩ := by unfold pwS; rw [if_neg h0, if_neg h1, if_neg h2, if_neg h3]
  rw [e]
  have n0 : (p == 0) = false := by simp; omega
  have n1 : (p == 1) = false := by simp; omega
  have n2 : (p == 6) = false := by simp; omega
  have n3 : (p == 17) = false := by simp; omega
  go_enter Tryz.func155, Tryz.ntmps155
  go_wp2
  go_ret
  exact ⟨rfl, rfl⟩

set_option maxHeartbeats 1000000 in
theorem implRuleOK_any (p ip b lo hi : Int) (al : Bool) (w : World) (hl : lo ≤ 9223372036854775807) (hh : hi ≤ 9223372036854775807) :
    Calls Tryz.prog 148 #[.agg #[.int .i64 p, .int .i64 ip, .int .i64 b, .int .i64 lo, .int .i64 hi, .bool al]] w fun e w' => e = .returned (.bool (ruB ⟨p, ip, b, lo, hi, al⟩)) ∧ Grw w w' := by
  obtain ⟨r, hr⟩ : ∃ r, r = plB ip b lo hi := ⟨_, rfl⟩
  have HP := fun w => protoWord_any p w
  have HA : Hid (∀ w, Calls Tryz.prog 155 #[.int .i64 p] w fun e w' => e = .returned (.string (pwS p)) ∧ w' = w) := fun w => protoWord_any p w
  have HB : Hid (∀ w, Calls Tryz.prog 156 #[.agg #[.int .i64 p, .int .i64 ip, .int .i64 b, .int .i64 lo, .int .i64 hi, .bool al]] w fun e w' => e = .returned (.agg #[.int .i64 ip, .int .i64 b, .int .i64 lo, .int .i64 hi]) ∧ Grw w w') := fun w => placeOf_any p ip b lo hi al w
  have HC : Hid (∀ w, Calls Tryz.prog 134 #[.agg #[.int .i64 ip, .int .i64 b, .int .i64 lo, .int .i64 hi]] w fun e w' => e = .returned (.bool r) ∧ Grw w w') := fun w => hr ▸ placeOK_any ip b lo hi w hl hh
  have E : Hid (ruB ⟨p, ip, b, lo, hi, al⟩ = (prB p && r)) := by rw [hr]; rfl
  clear hr HP
  generalize ruB ⟨p, ip, b, lo, hi, al⟩ = z at E ⊢
  by_cases hp : p = 0 ∨ p = 1 ∨ p = 6 ∨ p = 17
  · have e1 : prB p = true := dec_y hp
    rw [e1] at E
    have hS : ((pwS p).toList == []) = false := by rcases hp with rfl | rfl | rfl | rfl <;> simp [pwS]
    generalize pwS p = S at HA hS
    go_enter Tryz.func148, Tryz.ntmps148
    go_wp2_with fail
    refine (HA.out _).mono ?_
    rintro e wx1 ⟨rfl, rfl⟩
    go_wp2_with fail
    refine (HB.out _).mono ?_
    rintro e wx2 ⟨rfl, bx⟩
    have k0 : World.cell? _ ⟨w.heap.size, 0, none⟩ = some (.int .i64 p) := bx.keep (a := ⟨w.heap.size, 0, none⟩) (v := .int .i64 p) (by simp [go_sem])
    have k1 : World.cell? _ ⟨w.heap.size, 1, none⟩ = some (.int .i64 ip) := bx.keep (a := ⟨w.heap.size, 1, none⟩) (v := .int .i64 ip) (by simp [go_sem])
    have k2 : World.cell? _ ⟨w.heap.size, 2, none⟩ = some (.int .i64 b) := bx.keep (a := ⟨w.heap.size, 2, none⟩) (v := .int .i64 b) (by simp [go_sem])
    have k3 : World.cell? _ ⟨w.heap.size, 3, none⟩ = some (.int .i64 lo) := bx.keep (a := ⟨w.heap.size, 3, none⟩) (v := .int .i64 lo) (by simp [go_sem])
    have k4 : World.cell? _ ⟨w.heap.size, 4, none⟩ = some (.int .i64 hi) := bx.keep (a := ⟨w.heap.size, 4, none⟩) (v := .int .i64 hi) (by simp [go_sem])
    have k5 : World.cell? _ ⟨w.heap.size, 5, none⟩ = some (.bool al) := bx.keep (a := ⟨w.heap.size, 5, none⟩) (v := .bool al) (by simp [go_sem])
    have BX : Hid (Grw w _) := ((Grw.refl _).alloc _).trans bx
    clear bx
    go_wp2_with fail
    refine (HC.out _).mono ?_
    rintro e wx3 ⟨rfl, bx⟩
    replace k0 := bx.keep k0
    replace k1 := bx.keep k1
    replace k2 := bx.keep k2
    replace k3 := bx.keep k3
    replace k4 := bx.keep k4
    replace k5 := bx.keep k5
    replace BX : Hid (Grw w _) := BX.out.trans bx
    clear bx
    go_wp2
    go_ret
    exact ⟨by rw [E.out]; rfl, BX.out⟩
  · have e1 : prB p = false := dec_n hp
    rw [e1] at E
    have e : pwS p = ⟨#[]⟩ := by unfold pwS; rw [if_neg (by omega), if_neg (by omega), if_neg (by omega), if_neg (by omega)]
    rw [e] at HA
    go_enter Tryz.func148, Tryz.ntmps148
    go_wp2_with fail
    refine (HA.out _).mono ?_
    rintro e wx1 ⟨rfl, rfl⟩
    go_wp2
    go_ret
    exact ⟨by rw [E.out]; rfl, (Grw.refl _).alloc _⟩

end Go.Proofs.YtmeejholckelgaaGreat
