/- The model's flows by their ends: l09Find, FlowFind. -/
import Derived.Test.YthokaemeadhkjaaFloS
import Derived.Test.YthokaemeadhkjaaFloJ
namespace Go.Proofs.Ythokaemeadhkjaa
open Go.RowKit Go.PlainAid Go.Proofs.Ythokaemeadhkjaa.Bt Go.Sort
set_option linter.unusedVariables false
set_option maxRecDepth 20000

theorem ask9_any (y port : Int) (w : World) : Calls Try.prog 61 #[.int .i64 y, .int .i64 port] w fun e w' => e = .returned (.bool (dec (0 ≤ y ∧ y ≤ 4294967295) && dec (0 ≤ port ∧ port ≤ 65535))) ∧ w' = w := by
  obtain ⟨r1, hr1⟩ : ∃ r, r = dec (0 ≤ y ∧ y ≤ 4294967295) := ⟨_, rfl⟩
  obtain ⟨r2, hr2⟩ : ∃ r, r = dec (0 ≤ port ∧ port ≤ 65535) := ⟨_, rfl⟩
  have HA : Hid (∀ w, Calls Try.prog 73 #[.int .i64 y] w fun e w' => e = .returned (.bool r1) ∧ w' = w) := fun w => hr1 ▸ specIp_any y w
  have HB : Hid (∀ w, Calls Try.prog 74 #[.int .i64 port] w fun e w' => e = .returned (.bool r2) ∧ w' = w) := fun w => hr2 ▸ specPort_any port w
  rw [← hr1, ← hr2]
  clear hr1 hr2
  cases r1 with
  | false =>
    go_enter Try.func61, Try.ntmps61
    go_wp2_with fail
    refine (HA.out _).mono ?_
    rintro e w1 ⟨rfl, rfl⟩
    go_wp2
    go_ret
    exact ⟨rfl, rfl⟩
  | true =>
    go_enter Try.func61, Try.ntmps61
    go_wp2_with fail
    refine (HA.out _).mono ?_
    rintro e w1 ⟨rfl, rfl⟩
    go_wp2_with fail
    refine (HB.out _).mono ?_
    rintro e w1 ⟨rfl, rfl⟩
    go_wp2
    go_ret
    exact ⟨rfl, rfl⟩
/-- What l09Find answers. -/
def lfK (M : EnV → Option Int) (e : EnV) : Int := if fkT M e = true then fkK M e else -1
theorem lf_this {fs : List FlowV} (hap : apOk fs fs.length) {e : EnV} {i : Nat} {f : FlowV} (hf : fs[i]? = some f) (he : enOf f = e) : lfK (plM fs fs.length) e = (i : Int) ∧ fkB (plM fs fs.length) e = false := by
  obtain ⟨h1, h2, h3⟩ := fk_this hap hf he
  exact ⟨by unfold lfK; rw [if_pos h1, h3], h2⟩
theorem lf_back {fs : List FlowV} (hap : apOk fs fs.length) {e : EnV} {i : Nat} {f : FlowV} (hf : fs[i]? = some f) (he : enOf f = enT e) (hne : enOf f ≠ e) (hno : apAt fs i e) : lfK (plM fs fs.length) e = (i : Int) ∧ fkB (plM fs fs.length) e = true := by
  obtain ⟨h1, h2, h3⟩ := fk_back hap hf he hne (fun j g hj hg => (hno j g hj hg).1)
  exact ⟨by unfold lfK; rw [if_pos h1, h3], h2⟩
theorem lf_none {fs : List FlowV} {e : EnV} (h : apAt fs fs.length e) : lfK (plM fs fs.length) e = -1 ∧ fkB (plM fs fs.length) e = false := by
  have h1 := fk_none h
  refine ⟨by unfold lfK; rw [if_neg (by rw [h1]; simp)], ?_⟩
  unfold fkT at h1
  simp at h1
  unfold fkB
  rw [h1.1, h1.2]
  rfl
set_option maxHeartbeats 2000000 in
theorem l09Find_any (a : Option Addr) (len cap : Nat) (fs : List FlowV) (p x xp y yp : Int) (w : World) (h : Rw FlR 9 w a fs) (hl : fs.length = len) (hm : len ≤ 4096) (hap : apOk fs fs.length) :
    Calls Try.prog 44 #[.slice a len cap, .int .i64 p, .int .i64 x, .int .i64 xp, .int .i64 y, .int .i64 yp] w fun e w' => e = .returned (.tuple #[.int .i64 (lfK (plM fs fs.length) ⟨p, x, xp, y, yp⟩), .bool (fkB (plM fs fs.length) ⟨p, x, xp, y, yp⟩)]) ∧ Grw w w' := by
  have RW : Hid (Rw FlR 9 w a fs) := h
  have HAP : Hid (apOk fs fs.length) := hap
  clear h hap
  go_enter Try.func44, Try.ntmps44
  go_wp2
  go_loopw [14] (fun z wr => ∃ k : Nat, k ≤ len ∧ z = .int .i64 k ∧ Hid (apAt fs k ⟨p, x, xp, y, yp⟩) ∧ Hid (Grw w wr)) (fun z _ => len - (intOf z).toNat)
  case atStart => exact ⟨0, Nat.zero_le _, rfl, apAt_zero _ _, Grw.refl _⟩
  case round =>
    obtain ⟨k, hk, rfl, HA, HG⟩ := hrel
    by_cases hlt : k < len
    · obtain ⟨f, hf⟩ := at_of hl hlt
      have hltz : (k : Int) < (len : Int) := by omega
      obtain ⟨b, off, vs, rfl, hb, hvl, hR, hc⟩ := RW.out.at FR.kp HG.out.below hf
      obtain ⟨pr, mc, si, sp, di, dp, st, un, ow⟩ := f
      obtain ⟨rfl, -⟩ := hR
      have q0 : wr.cell? ⟨b, off + k * 9, none⟩ = some (.int .i64 pr) := hc 0 _ rfl
      have q1 : wr.cell? ⟨b, off + k * 9 + 1, none⟩ = some (.string mc) := hc 1 _ rfl
      have q2 : wr.cell? ⟨b, off + k * 9 + 2, none⟩ = some (.int .i64 si) := hc 2 _ rfl
      have q3 : wr.cell? ⟨b, off + k * 9 + 3, none⟩ = some (.int .i64 sp) := hc 3 _ rfl
      have q4 : wr.cell? ⟨b, off + k * 9 + 4, none⟩ = some (.int .i64 di) := hc 4 _ rfl
      have q5 : wr.cell? ⟨b, off + k * 9 + 5, none⟩ = some (.int .i64 dp) := hc 5 _ rfl
      have q6 : wr.cell? ⟨b, off + k * 9 + 6, none⟩ = some (.int .i64 st) := hc 6 _ rfl
      have q7 : wr.cell? ⟨b, off + k * 9 + 7, none⟩ = some (.int .i64 un) := hc 7 _ rfl
      have q8 : wr.cell? ⟨b, off + k * 9 + 8, none⟩ = some (.int .i64 ow) := hc 8 _ rfl
      clear hc hvl
      have HS1 : Hid (∀ w, Calls Try.prog 59 #[.agg #[.int .i64 pr, .string mc, .int .i64 si, .int .i64 sp, .int .i64 di, .int .i64 dp, .int .i64 st, .int .i64 un, .int .i64 ow], .int .i64 p, .int .i64 x, .int .i64 xp, .int .i64 y, .int .i64 yp] w fun e w' => e = .returned (.bool (enB (enOf ⟨pr, mc, si, sp, di, dp, st, un, ow⟩) ⟨p, x, xp, y, yp⟩)) ∧ Grw w w') := fun w => l09Same_any pr mc si sp di dp st un ow p x xp y yp w
      have HS2 : Hid (∀ w, Calls Try.prog 59 #[.agg #[.int .i64 pr, .string mc, .int .i64 si, .int .i64 sp, .int .i64 di, .int .i64 dp, .int .i64 st, .int .i64 un, .int .i64 ow], .int .i64 p, .int .i64 y, .int .i64 yp, .int .i64 x, .int .i64 xp] w fun e w' => e = .returned (.bool (enB (enOf ⟨pr, mc, si, sp, di, dp, st, un, ow⟩) (enT ⟨p, x, xp, y, yp⟩))) ∧ Grw w w') := fun w => l09Same_any pr mc si sp di dp st un ow p y yp x xp w
      by_cases he1 : enOf ⟨pr, mc, si, sp, di, dp, st, un, ow⟩ = ⟨p, x, xp, y, yp⟩
      · rw [enB_yes he1] at HS1
        obtain ⟨e1, e2⟩ := lf_this HAP.out hf he1
        have E1 : Hid (lfK (plM fs fs.length) ⟨p, x, xp, y, yp⟩ = (k : Int)) := e1
        have E2 : Hid (fkB (plM fs fs.length) ⟨p, x, xp, y, yp⟩ = false) := e2
        clear e1 e2 he1 HA hf HS2
        go_wp2_with fail
        refine (HS1.out _).mono ?_
        rintro e w4 ⟨rfl, g4⟩
        have HG4 : Hid (Grw w w4) := HG.out.trans g4
        clear g4 HG
        go_wp2
        go_ret2
        exact ⟨by rw [E1.out, E2.out]; rfl, HG4.out⟩
      · rw [enB_no he1] at HS1
        by_cases he2 : enOf ⟨pr, mc, si, sp, di, dp, st, un, ow⟩ = enT ⟨p, x, xp, y, yp⟩
        · rw [enB_yes he2] at HS2
          obtain ⟨e1, e2⟩ := lf_back HAP.out hf he2 he1 HA.out
          have E1 : Hid (lfK (plM fs fs.length) ⟨p, x, xp, y, yp⟩ = (k : Int)) := e1
          have E2 : Hid (fkB (plM fs fs.length) ⟨p, x, xp, y, yp⟩ = true) := e2
          clear e1 e2 he1 he2 HA hf
          go_wp2_with fail
          refine (HS1.out _).mono ?_
          rintro e w4 ⟨rfl, g4⟩
          have r0 := g4.keep q0
          have r1 := g4.keep q1
          have r2 := g4.keep q2
          have r3 := g4.keep q3
          have r4 := g4.keep q4
          have r5 := g4.keep q5
          have r6 := g4.keep q6
          have r7 := g4.keep q7
          have r8 := g4.keep q8
          have HG4 : Hid (Grw w w4) := HG.out.trans g4
          clear g4 HG q0 q1 q2 q3 q4 q5 q6 q7 q8
          go_wp2_with fail
          refine (HS2.out _).mono ?_
          rintro e w5 ⟨rfl, g5⟩
          have HG5 : Hid (Grw w w5) := HG4.out.trans g5
          clear g5 HG4
          go_wp2
          go_ret2
          exact ⟨by rw [E1.out, E2.out]; rfl, HG5.out⟩
        · rw [enB_no he2] at HS2
          have HA2 : Hid (apAt fs (k + 1) ⟨p, x, xp, y, yp⟩) := apAt_step HA.out hf he1 he2
          clear he1 he2 HA hf
          go_wp2_with fail
          refine (HS1.out _).mono ?_
          rintro e w4 ⟨rfl, g4⟩
          have r0 := g4.keep q0
          have r1 := g4.keep q1
          have r2 := g4.keep q2
          have r3 := g4.keep q3
          have r4 := g4.keep q4
          have r5 := g4.keep q5
          have r6 := g4.keep q6
          have r7 := g4.keep q7
          have r8 := g4.keep q8
          have HG4 : Hid (Grw w w4) := HG.out.trans g4
          clear g4 HG q0 q1 q2 q3 q4 q5 q6 q7 q8
          go_wp2_with fail
          refine (HS2.out _).mono ?_
          rintro e w5 ⟨rfl, g5⟩
          have HG5 : Hid (Grw w w5) := HG4.out.trans g5
          clear g5 HG4 HS1 HS2 r0 r1 r2 r3 r4 r5 r6 r7 r8
          go_wp2
          go_roundw
          case rel => exact ⟨k + 1, by omega, by go_num, HA2, HG5⟩
          case measure => simp [intOf]; omega
    · obtain rfl : k = len := by omega
      obtain ⟨e1, e2⟩ := lf_none (fs := fs) (e := ⟨p, x, xp, y, yp⟩) (by rw [hl]; exact HA.out)
      have E1 : Hid (lfK (plM fs fs.length) ⟨p, x, xp, y, yp⟩ = -1) := e1
      have E2 : Hid (fkB (plM fs fs.length) ⟨p, x, xp, y, yp⟩ = false) := e2
      clear e1 e2 HA
      go_wp2
      go_ret2
      exact ⟨by rw [E1.out, E2.out]; rfl, HG.out⟩
theorem fkK_nn (fs : List FlowV) (e : EnV) : 0 ≤ fkK (plM fs fs.length) e := by
  have hn : ∀ e, 0 ≤ (plM fs fs.length e).getD 0 := by
    intro e
    cases h : plM fs fs.length e with
    | none => exact Int.le_refl _
    | some v =>
      obtain ⟨j, g, _, _, _, rfl⟩ := plM_some h
      exact Int.natCast_nonneg j
  unfold fkK
  split
  · exact hn _
  · exact hn _
set_option maxHeartbeats 2000000 in
theorem specFind_any (a : Option Addr) (len cap : Nat) (fs : List FlowV) (pr si sp di dp : Int) (w : World) (h : Rw FlR 9 w a fs) (hl : fs.length = len) (hm : len ≤ 1048576) :
    Calls Try.prog 26 #[.slice a len cap, .int .i64 pr, .int .i64 si, .int .i64 sp, .int .i64 di, .int .i64 dp] w fun e w' => e = .returned (.tuple #[.int .i64 (fdK fs ⟨pr, si, sp, di, dp⟩), .bool (fdB fs ⟨pr, si, sp, di, dp⟩), .int .i64 (fdC fs ⟨pr, si, sp, di, dp⟩)]) ∧ Grw w w' := by
  have RW : Hid (Rw FlR 9 w a fs) := h
  have HF : Hid (Calls Try.prog 23 #[.slice a len cap] w fun e w' => e = .returned (.bool (foB fs)) ∧ Grw w w') := specFlowsOK_any a len cap fs w h hl hm
  by_cases hbig : 4096 < len
  · have hz : (4096 : Int) < (len : Int) := by omega
    have e0 : ffC fs = 2 := if_pos (by omega)
    have e1 : fdC fs ⟨pr, si, sp, di, dp⟩ = 2 := by unfold fdC; rw [if_pos (by rw [e0]; decide), e0]
    have E1 : Hid (fdC fs ⟨pr, si, sp, di, dp⟩ = 2) := e1
    have E2 : Hid (fdK fs ⟨pr, si, sp, di, dp⟩ = 0) := if_pos (by rw [e1]; decide)
    have E3 : Hid (fdB fs ⟨pr, si, sp, di, dp⟩ = false) := if_pos (by rw [e1]; decide)
    rw [E1.out, E2.out, E3.out]
    clear e0 e1 E1 E2 E3 h HF
    go_enter Try.func26, Try.ntmps26
    go_wp2
    go_ret3
    exact ⟨rfl, Grw.refl _⟩
  have h4z : decide ((4096 : Int) < (len : Int)) = false := by simp; omega
  cases hq : foB fs with
  | false =>
    have e0 : ffC fs = 1 := by unfold ffC; rw [if_neg (by omega), if_pos hq]
    have e1 : fdC fs ⟨pr, si, sp, di, dp⟩ = 1 := by unfold fdC; rw [if_pos (by rw [e0]; decide), e0]
    have E1 : Hid (fdC fs ⟨pr, si, sp, di, dp⟩ = 1) := e1
    have E2 : Hid (fdK fs ⟨pr, si, sp, di, dp⟩ = 0) := if_pos (by rw [e1]; decide)
    have E3 : Hid (fdB fs ⟨pr, si, sp, di, dp⟩ = false) := if_pos (by rw [e1]; decide)
    rw [E1.out, E2.out, E3.out]
    rw [hq] at HF
    clear e0 e1 E1 E2 E3 h hq
    go_enter Try.func26, Try.ntmps26
    go_wp2_with fail
    refine HF.out.mono ?_
    rintro e w2 ⟨rfl, g2⟩
    go_wp2
    go_ret3
    exact ⟨rfl, g2⟩
  | true =>
  have e0 : ffC fs = 0 := by unfold ffC; rw [if_neg (by omega), if_neg (by rw [hq]; simp)]
  rw [hq] at HF
  have E1 : fdC fs ⟨pr, si, sp, di, dp⟩ = if enR ⟨pr, si, sp, di, dp⟩ = false then 4 else if fkT (plM fs fs.length) ⟨pr, si, sp, di, dp⟩ = false then 5 else 0 := if_neg (by simp [e0])
  have E2 : fdK fs ⟨pr, si, sp, di, dp⟩ = if fdC fs ⟨pr, si, sp, di, dp⟩ ≠ 0 then 0 else fkK (plM fs fs.length) ⟨pr, si, sp, di, dp⟩ := rfl
  have E3 : fdB fs ⟨pr, si, sp, di, dp⟩ = if fdC fs ⟨pr, si, sp, di, dp⟩ ≠ 0 then false else fkB (plM fs fs.length) ⟨pr, si, sp, di, dp⟩ := rfl
  have HR : enR ⟨pr, si, sp, di, dp⟩ = (dec (0 ≤ pr ∧ pr ≤ 255) && ((dec (0 ≤ si ∧ si ≤ 4294967295) && dec (0 ≤ sp ∧ sp ≤ 65535)) && (dec (0 ≤ di ∧ di ≤ 4294967295) && dec (0 ≤ dp ∧ dp ≤ 65535)))) := rfl
  have T1 : Hid (∀ w, Calls Try.prog 43 #[.int .i64 pr, .int .i64 0, .int .i64 255] w fun e w' => e = .returned (.bool (dec (0 ≤ pr ∧ pr ≤ 255))) ∧ w' = w) := fun w => specIn_any pr 0 255 w
  have T2 : Hid (∀ w, Calls Try.prog 61 #[.int .i64 si, .int .i64 sp] w fun e w' => e = .returned (.bool (dec (0 ≤ si ∧ si ≤ 4294967295) && dec (0 ≤ sp ∧ sp ≤ 65535))) ∧ w' = w) := fun w => ask9_any si sp w
  have T3 : Hid (∀ w, Calls Try.prog 61 #[.int .i64 di, .int .i64 dp] w fun e w' => e = .returned (.bool (dec (0 ≤ di ∧ di ≤ 4294967295) && dec (0 ≤ dp ∧ dp ≤ 65535))) ∧ w' = w) := fun w => ask9_any di dp w
  have HL : Hid (∀ w, Rw FlR 9 w a fs → Calls Try.prog 44 #[.slice a len cap, .int .i64 pr, .int .i64 si, .int .i64 sp, .int .i64 di, .int .i64 dp] w fun e w' => e = .returned (.tuple #[.int .i64 (lfK (plM fs fs.length) ⟨pr, si, sp, di, dp⟩), .bool (fkB (plM fs fs.length) ⟨pr, si, sp, di, dp⟩)]) ∧ Grw w w') := fun w h => l09Find_any a len cap fs pr si sp di dp w h hl (by omega) (foB_says hq).2.2
  have EL : lfK (plM fs fs.length) ⟨pr, si, sp, di, dp⟩ = if fkT (plM fs fs.length) ⟨pr, si, sp, di, dp⟩ = true then fkK (plM fs fs.length) ⟨pr, si, sp, di, dp⟩ else -1 := rfl
  have H0 : 0 ≤ fkK (plM fs fs.length) ⟨pr, si, sp, di, dp⟩ := fkK_nn fs ⟨pr, si, sp, di, dp⟩
  clear h e0 hq
  generalize fkK (plM fs fs.length) ⟨pr, si, sp, di, dp⟩ = z0 at E2 EL H0
  generalize fkB (plM fs fs.length) ⟨pr, si, sp, di, dp⟩ = z1 at E3 HL
  generalize fkT (plM fs fs.length) ⟨pr, si, sp, di, dp⟩ = z2 at E1 EL
  generalize lfK (plM fs fs.length) ⟨pr, si, sp, di, dp⟩ = z3 at HL EL
  generalize enR ⟨pr, si, sp, di, dp⟩ = z4 at E1 HR
  generalize dec (0 ≤ pr ∧ pr ≤ 255) = t1 at HR T1
  generalize (dec (0 ≤ si ∧ si ≤ 4294967295) && dec (0 ≤ sp ∧ sp ≤ 65535)) = t2 at HR T2
  generalize (dec (0 ≤ di ∧ di ≤ 4294967295) && dec (0 ≤ dp ∧ dp ≤ 65535)) = t3 at HR T3
  generalize fdC fs ⟨pr, si, sp, di, dp⟩ = y1 at E1 E2 E3 ⊢
  generalize fdK fs ⟨pr, si, sp, di, dp⟩ = y2 at E2 ⊢
  generalize fdB fs ⟨pr, si, sp, di, dp⟩ = y3 at E3 ⊢
  cases t1 with
  | false =>
    obtain rfl : z4 = false := by rw [HR]; simp
    rw [if_pos rfl] at E1
    subst E1
    rw [if_pos (by simp)] at E2 E3
    subst E2 E3
    clear HR
    go_enter Try.func26, Try.ntmps26
    go_wp2_with fail
    refine HF.out.mono ?_
    rintro e w2 ⟨rfl, g2⟩
    go_wp2_with fail
    refine (T1.out _).mono ?_
    rintro e w9 ⟨rfl, rfl⟩
    go_wp2
    go_ret3
    exact ⟨rfl, g2⟩
  | true =>
    cases t2 with
    | false =>
      obtain rfl : z4 = false := by rw [HR]; simp
      rw [if_pos rfl] at E1
      subst E1
      rw [if_pos (by simp)] at E2 E3
      subst E2 E3
      clear HR
      go_enter Try.func26, Try.ntmps26
      go_wp2_with fail
      refine HF.out.mono ?_
      rintro e w2 ⟨rfl, g2⟩
      go_wp2_with fail
      refine (T1.out _).mono ?_
      rintro e w9 ⟨rfl, rfl⟩
      go_wp2_with fail
      refine (T2.out _).mono ?_
      rintro e w9 ⟨rfl, rfl⟩
      go_wp2
      go_ret3
      exact ⟨rfl, g2⟩
    | true =>
      cases t3 with
      | false =>
        obtain rfl : z4 = false := by rw [HR]; simp
        rw [if_pos rfl] at E1
        subst E1
        rw [if_pos (by simp)] at E2 E3
        subst E2 E3
        clear HR
        go_enter Try.func26, Try.ntmps26
        go_wp2_with fail
        refine HF.out.mono ?_
        rintro e w2 ⟨rfl, g2⟩
        go_wp2_with fail
        refine (T1.out _).mono ?_
        rintro e w9 ⟨rfl, rfl⟩
        go_wp2_with fail
        refine (T2.out _).mono ?_
        rintro e w9 ⟨rfl, rfl⟩
        go_wp2_with fail
        refine (T3.out _).mono ?_
        rintro e w9 ⟨rfl, rfl⟩
        go_wp2
        go_ret3
        exact ⟨rfl, g2⟩
      | true =>
        obtain rfl : z4 = true := by rw [HR]; rfl
        rw [if_neg (by simp)] at E1
        clear HR
        cases z2 with
        | false =>
          rw [if_neg (by simp)] at EL
          subst EL
          rw [if_pos rfl] at E1
          subst E1
          rw [if_pos (by simp)] at E2 E3
          subst E2 E3
          go_enter Try.func26, Try.ntmps26
          go_wp2_with fail
          refine HF.out.mono ?_
          rintro e w2 ⟨rfl, g2⟩
          go_wp2_with fail
          refine (T1.out _).mono ?_
          rintro e w9 ⟨rfl, rfl⟩
          go_wp2_with fail
          refine (T2.out _).mono ?_
          rintro e w9 ⟨rfl, rfl⟩
          go_wp2_with fail
          refine (T3.out _).mono ?_
          rintro e w9 ⟨rfl, rfl⟩
          go_wp2_with fail
          refine (HL.out _ (RW.out.keep FR.kp g2.below)).mono ?_
          rintro e w3 ⟨rfl, g3⟩
          have HG3 : Hid (Grw w w3) := g2.trans g3
          clear g2 g3
          go_wp2
          go_ret3
          exact ⟨rfl, HG3.out⟩
        | true =>
          rw [if_pos rfl] at EL
          have hlt0 : decide (z3 < 0) = false := by rw [EL]; simp; omega
          subst EL
          rw [if_neg (by simp)] at E1
          subst E1
          rw [if_neg (by simp)] at E2 E3
          subst E2 E3
          go_enter Try.func26, Try.ntmps26
          go_wp2_with fail
          refine HF.out.mono ?_
          rintro e w2 ⟨rfl, g2⟩
          go_wp2_with fail
          refine (T1.out _).mono ?_
          rintro e w9 ⟨rfl, rfl⟩
          go_wp2_with fail
          refine (T2.out _).mono ?_
          rintro e w9 ⟨rfl, rfl⟩
          go_wp2_with fail
          refine (T3.out _).mono ?_
          rintro e w9 ⟨rfl, rfl⟩
          go_wp2_with fail
          refine (HL.out _ (RW.out.keep FR.kp g2.below)).mono ?_
          rintro e w3 ⟨rfl, g3⟩
          have HG3 : Hid (Grw w w3) := g2.trans g3
          clear g2 g3
          go_wp2
          go_ret3
          exact ⟨rfl, HG3.out⟩
end Go.Proofs.Ythokaemeadhkjaa
