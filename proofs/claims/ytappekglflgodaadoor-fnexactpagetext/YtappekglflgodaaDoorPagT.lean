/- PageText of the model, at every argument. -/
import Derived.Test.YtappekglflgodaaDoorPagS
namespace Go.Proofs.YtappekglflgodaaDoor
open Go.RowKit Go.PlainAid Go.Sort
set_option linter.unusedVariables false
set_option maxRecDepth 20000

set_option maxHeartbeats 2000000 in
theorem specPg_any (st : Int) (wh bo : ByteArray) (w : World) (hwh : wh.size ≤ 9223372036854775807) (hbo : bo.size ≤ 9223372036854775807) :
    Calls Tryd.prog 17 #[.int .i64 st, .string wh, .string bo] w fun e w' => e = .returned (.tuple #[.string (pgS st wh bo), .int .i64 (pgC st wh bo)]) ∧ Below w.heap.size w w' := by
  by_cases hl1 : 65536 < wh.size
  · have E := pg_long (st := st) (wh := wh) (bo := bo) (.inl hl1)
    rw [E.1, E.2]
    have t1 : decide ((65536 : Int) < (wh.size : Int)) = true := decide_eq_true (by omega)
    clear E hl1
    go_enter Tryd.func17, Tryd.ntmps17
    go_wp2
    go_ret2
    exact ⟨rfl, Below.refl _ _⟩
  by_cases hl2 : 65536 < bo.size
  · have E := pg_long (st := st) (wh := wh) (bo := bo) (.inr hl2)
    rw [E.1, E.2]
    have t1 : decide ((65536 : Int) < (wh.size : Int)) = false := decide_eq_false (by omega)
    have t2 : decide ((65536 : Int) < (bo.size : Int)) = true := decide_eq_true (by omega)
    clear E hl1 hl2
    go_enter Tryd.func17, Tryd.ntmps17
    go_wp2
    go_ret2
    exact ⟨rfl, Below.refl _ _⟩
  have hnl : ¬ (65536 < wh.size ∨ 65536 < bo.size) := by omega
  have t1 : decide ((65536 : Int) < (wh.size : Int)) = false := decide_eq_false (by omega)
  have t2 : decide ((65536 : Int) < (bo.size : Int)) = false := decide_eq_false (by omega)
  have HN : Hid (pgB st wh bo = false → pgC st wh bo = 4 ∧ pgS st wh bo = ⟨#[]⟩) := fun h => pg_no hnl h
  have HY : Hid (pgB st wh bo = true → pgC st wh bo = 0 ∧ pgS st wh bo = pgT st wh bo) := fun h => pg_yes hnl h
  have HB : Hid (pgB st wh bo = true → (200 ≤ st ∧ st ≤ 503) ∧ wh.size ≤ 40 ∧ bo.size ≤ 100) := pgB_says
  have TS : Hid (∀ w, Calls Tryd.prog 20 #[.int .i64 st] w fun e w' => e = .returned (.string (swS st)) ∧ w' = w) := fun w => specSw_any st w
  have TP : Hid (∀ w, Calls Tryd.prog 47 #[.string wh] w fun e w' => e = .returned (.bool (ptB wh)) ∧ w' = w) := fun w => l11Path_any wh w hwh
  have EB : pgB st wh bo = ((!((swS st).toList == [])) && ((wh.toList == []) || ptB wh) && !decide ((100 : Int) < (bo.size : Int))) := rfl
  clear hl1 hl2 hnl
  generalize pgC st wh bo = C at HN HY ⊢
  generalize pgS st wh bo = T at HN HY ⊢
  generalize pgB st wh bo = PB at HN HY HB EB
  generalize hsw : (swS st) = SW at TS EB
  have HSW : Hid (swS st = SW) := hsw
  clear hsw
  generalize e1 : (SW.toList == []) = d1 at EB
  generalize e2 : (wh.toList == []) = d2 at EB
  generalize e4 : decide ((100 : Int) < (bo.size : Int)) = d4 at EB
  generalize ptB wh = d3 at TP EB
  cases d1 with
  | true =>
    obtain ⟨rfl, rfl⟩ := HN.out (by rw [EB]; rfl)
    clear HN HY HB EB TP
    go_enter Tryd.func17, Tryd.ntmps17
    go_wp2_with fail
    refine (TS.out _).mono ?_
    rintro e w1 ⟨rfl, hw⟩
    subst hw
    go_wp2
    go_ret2
    exact ⟨rfl, Below.refl _ _⟩
  | false =>
  cases d2 with
  | true =>
    cases d4 with
    | true =>
      obtain ⟨rfl, rfl⟩ := HN.out (by rw [EB]; rfl)
      clear HN HY HB EB TP
      go_enter Tryd.func17, Tryd.ntmps17
      go_wp2_with fail
      refine (TS.out _).mono ?_
      rintro e w1 ⟨rfl, hw⟩
      subst hw
      go_wp2
      go_ret2
      exact ⟨rfl, Below.refl _ _⟩
    | false =>
      have hpb : PB = true := by rw [EB]; rfl
      obtain ⟨⟨s0, s1⟩, s2, s3⟩ := HB.out hpb
      obtain ⟨rfl, HT⟩ := HY.out hpb
      rw [HT]
      clear HN HY HB EB TP HT hpb
      have TG : Hid (∀ w, Calls Tryd.prog 48 #[.int .i64 st, .string wh, .string bo] w fun e w' => e = .returned (.string (pgT st wh bo)) ∧ Below w.heap.size w w') := fun w => l11Page_any st wh bo w s0 s1 s2 s3
      generalize pgT st wh bo = Z at TG ⊢
      clear s0 s1 s2 s3
      go_enter Tryd.func17, Tryd.ntmps17
      go_wp2_with fail
      refine (TS.out _).mono ?_
      rintro e w1 ⟨rfl, hw⟩
      subst hw
      go_wp2_with fail
      refine (TG.out _).mono ?_
      rintro e w5 ⟨rfl, b5⟩
      go_wp2
      go_ret2
      exact ⟨rfl, b5⟩

  | false =>
    cases d3 with
    | false =>
      obtain ⟨rfl, rfl⟩ := HN.out (by rw [EB]; rfl)
      clear HN HY HB EB
      go_enter Tryd.func17, Tryd.ntmps17
      go_wp2_with fail
      refine (TS.out _).mono ?_
      rintro e w1 ⟨rfl, hw⟩
      subst hw
      go_wp2_with fail
      refine (TP.out _).mono ?_
      rintro e w1 ⟨rfl, hw⟩
      subst hw
      go_wp2
      go_ret2
      exact ⟨rfl, Below.refl _ _⟩
    | true =>
      cases d4 with
      | true =>
        obtain ⟨rfl, rfl⟩ := HN.out (by rw [EB]; rfl)
        clear HN HY HB EB
        go_enter Tryd.func17, Tryd.ntmps17
        go_wp2_with fail
        refine (TS.out _).mono ?_
        rintro e w1 ⟨rfl, hw⟩
        subst hw
        go_wp2_with fail
        refine (TP.out _).mono ?_
        rintro e w1 ⟨rfl, hw⟩
        subst hw
        go_wp2
        go_ret2
        exact ⟨rfl, Below.refl _ _⟩
      | false =>
        have hpb : PB = true := by rw [EB]; rfl
        obtain ⟨⟨s0, s1⟩, s2, s3⟩ := HB.out hpb
        obtain ⟨rfl, HT⟩ := HY.out hpb
        rw [HT]
        clear HN HY HB EB HT hpb
        have TG : Hid (∀ w, Calls Tryd.prog 48 #[.int .i64 st, .string wh, .string bo] w fun e w' => e = .returned (.string (pgT st wh bo)) ∧ Below w.heap.size w w') := fun w => l11Page_any st wh bo w s0 s1 s2 s3
        generalize pgT st wh bo = Z at TG ⊢
        clear s0 s1 s2 s3
        go_enter Tryd.func17, Tryd.ntmps17
        go_wp2_with fail
        refine (TS.out _).mono ?_
        rintro e w1 ⟨rfl, hw⟩
        subst hw
        go_wp2_with fail
        refine (TP.out _).mono ?_
        rintro e w1 ⟨rfl, hw⟩
        subst hw
        go_wp2_with fail
        refine (TG.out _).mono ?_
        rintro e w5 ⟨rfl, b5⟩
        go_wp2
        go_ret2
        exact ⟨rfl, b5⟩

end Go.Proofs.YtappekglflgodaaDoor
