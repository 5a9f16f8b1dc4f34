/- The program's flows by their ends: placeOfEnds, flowPlaces, flowsApart, FlowsOK, flowsFault, FlowFind. -/
import Derived.Test.YtlebblmlbhnppaaGreatFloI
import Derived.Deep.RegionHeld3
namespace Go.Proofs.YtlebblmlbhnppaaGreat
open Go.RowKit Go.PlainAid Go.Proofs.YtlebblmlbhnppaaGreat.Bt Go.Sort
set_option linter.unusedVariables false
set_option maxRecDepth 20000

theorem wf_leF {n : Int} (h : (Lit.int .i64 n).wf = true) : n ≤ 9223372036854775807 := by
  have : IntKind.i64.min = -9223372036854775808 := by decide
  have : IntKind.i64.max = 9223372036854775807 := by decide
  simp [Lit.wf] at h
  omega
theorem nat_wf {k : Nat} (h : k ≤ 4096) : (Lit.int .i64 (k : Int)).wf = true := by
  have : IntKind.i64.min = -9223372036854775808 := by decide
  have : IntKind.i64.max = 9223372036854775807 := by decide
  simp [Lit.wf]
  omega
set_option maxHeartbeats 1000000 in
theorem placeOfEnds_any (b n : Nat) (M : EnV → Option Int) (pr si sp di dp : Int) (w : World) (h : OwnM w b n M) (he : EnOk ⟨pr, si, sp, di, dp⟩) :
    Calls Tryz.prog 207 #[.map (some b), .agg #[.int .i64 pr, .int .i64 si, .int .i64 sp, .int .i64 di, .int .i64 dp]] w fun e w' => e = .returned (.tuple #[.int .i64 (fkK M ⟨pr, si, sp, di, dp⟩), .bool (fkB M ⟨pr, si, sp, di, dp⟩), .bool (fkT M ⟨pr, si, sp, di, dp⟩)]) ∧ Grw w w' := by
  have HO : Hid (OwnM w b n M) := h
  have HT : Hid (∀ w, Calls Tryz.prog 250 #[.agg #[.int .i64 pr, .int .i64 si, .int .i64 sp, .int .i64 di, .int .i64 dp]] w fun e w' => e = .returned (.agg #[.int .i64 pr, .int .i64 di, .int .i64 dp, .int .i64 si, .int .i64 sp]) ∧ Grw w w') := fun w => turned_any pr si sp di dp w
  have L1 : (Instr.lookup 276 (.map (some b)) (.agg #[.int .i64 pr, .int .i64 si, .int .i64 sp, .int .i64 di, .int .i64 dp]) true).run Tryz.prog (w.alloc (.cells #[.int .i64 pr, .int .i64 si, .int .i64 sp, .int .i64 di, .int .i64 dp] 274)) = .ok (.tuple #[.int .i64 ((M ⟨pr, si, sp, di, dp⟩).getD 0), .bool (M ⟨pr, si, sp, di, dp⟩).isSome]) (w.alloc (.cells #[.int .i64 pr, .int .i64 si, .int .i64 sp, .int .i64 di, .int .i64 dp] 274)) := (h.alloc _).look he
  have L2 : Hid (∀ w2, OwnM w2 b n M → (Instr.lookup 276 (.map (some b)) (.agg #[.int .i64 pr, .int .i64 di, .int .i64 dp, .int .i64 si, .int .i64 sp]) true).run Tryz.prog w2 = .ok (.tuple #[.int .i64 ((M (enT ⟨pr, si, sp, di, dp⟩)).getD 0), .bool (M (enT ⟨pr, si, sp, di, dp⟩)).isSome]) w2) := fun w2 h2 => h2.look (e := enT ⟨pr, si, sp, di, dp⟩) (enT_ok he)
  have E1 : fkK M ⟨pr, si, sp, di, dp⟩ = if (M ⟨pr, si, sp, di, dp⟩).isSome then (M ⟨pr, si, sp, di, dp⟩).getD 0 else (M (enT ⟨pr, si, sp, di, dp⟩)).getD 0 := rfl
  have E2 : fkB M ⟨pr, si, sp, di, dp⟩ = if (M ⟨pr, si, sp, di, dp⟩).isSome then false else (M (enT ⟨pr, si, sp, di, dp⟩)).isSome := rfl
  have E3 : fkT M ⟨pr, si, sp, di, dp⟩ = ((M ⟨pr, si, sp, di, dp⟩).isSome || (M (enT ⟨pr, si, sp, di, dp⟩)).isSome) := rfl
  clear h he
  generalize hx : M ⟨pr, si, sp, di, dp⟩ = x at *
  generalize hy : M (enT ⟨pr, si, sp, di, dp⟩) = y at *
  clear hx hy
  cases x with
  | some v =>
    have F1 : Hid (fkK M ⟨pr, si, sp, di, dp⟩ = v) := E1
    have F2 : Hid (fkB M ⟨pr, si, sp, di, dp⟩ = false) := E2
    have F3 : Hid (fkT M ⟨pr, si, sp, di, dp⟩ = true) := E3
    clear E1 E2 E3
    have L1' : (Instr.lookup 276 (.map (some b)) (.agg #[.int .i64 pr, .int .i64 si, .int .i64 sp, .int .i64 di, .int .i64 dp]) true).run Tryz.prog (w.alloc (.cells #[.int .i64 pr, .int .i64 si, .int .i64 sp, .int .i64 di, .int .i64 dp] 274)) = .ok (.tuple #[.int .i64 v, .bool true]) (w.alloc (.cells #[.int .i64 pr, .int .i64 si, .int .i64 sp, .int .i64 di, .int .i64 dp] 274)) := L1
    clear L1
    go_enter Tryz.func207, Tryz.ntmps207
    go_wp2
    go_ret3
    exact ⟨by rw [F1.out, F2.out, F3.out]; rfl, (Grw.refl _).alloc _⟩
  | none =>
    have F1 : Hid (fkK M ⟨pr, si, sp, di, dp⟩ = y.getD 0) := E1
    have F2 : Hid (fkB M ⟨pr, si, sp, di, dp⟩ = y.isSome) := E2
    have F3 : Hid (fkT M ⟨pr, si, sp, di, dp⟩ = y.isSome) := by
      show _ = _
      have := E3
      simpa using this
    clear E1 E2 E3
    have L1' : (Instr.lookup 276 (.map (some b)) (.agg #[.int .i64 pr, .int .i64 si, .int .i64 sp, .int .i64 di, .int .i64 dp]) true).run Tryz.prog (w.alloc (.cells #[.int .i64 pr, .int .i64 si, .int .i64 sp, .int .i64 di, .int .i64 dp] 274)) = .ok (.tuple #[.int .i64 0, .bool false]) (w.alloc (.cells #[.int .i64 pr, .int .i64 si, .int .i64 sp, .int .i64 di, .int .i64 dp] 274)) := L1
    clear L1
    generalize y.getD 0 = v at *
    generalize y.isSome = q at *
    go_enter Tryz.func207, Tryz.ntmps207
    go_wp2_with fail
    refine (HT.out _).mono ?_
    rintro e w2 ⟨rfl, g2⟩
    have L3 := L2.out w2 ((HO.out.alloc _).now g2.below)
    have HG : Hid (Grw w w2) := ((Grw.refl _).alloc _).trans g2
    clear g2 L2 HO
    go_wp2
    go_ret3
    exact ⟨by rw [F1.out, F2.out, F3.out]; rfl, HG.out⟩
set_option maxHeartbeats 4000000 in
theorem flowsApart_any (a : Option Addr) (len cap : Nat) (fs : List FlowV) (w : World) (h : Rw FlR 9 w a fs) (hok : ∀ x, x ∈ fs → FlRok x) (hl : fs.length = len) (hm : len ≤ 4096) :
    Calls Tryz.prog 155 #[.slice a len cap] w fun e w' => e = .returned (.bool (apB fs)) ∧ Below w.heap.size w w' := by
  have RW : Hid (Rw FlR 9 w a fs) := h
  have HK : Hid (∀ x, x ∈ fs → FlRok x) := hok
  clear h hok
  have hmm := @run_makeMap Tryz.prog
  go_enter Tryz.func155, Tryz.ntmps155
  go_wp2
  go_loopw [12] (fun x wr => ∃ k : Nat, k ≤ len ∧ x = .int .i64 k ∧ Hid (apOk fs k) ∧ Hid (OwnM wr w.heap.size k (plM fs k) ∧ Below w.heap.size w wr)) (fun x _ => len - (intOf x).toNat)
  case atStart => exact ⟨0, Nat.zero_le _, rfl, apOk_zero fs, OwnM.made w, (Below.refl _ _).alloc (Nat.le_refl _) _⟩
  case round =>
    obtain ⟨k, hk, rfl, HA, HG⟩ := hrel
    by_cases hlt : k < len
    · obtain ⟨x, hx⟩ := at_of hl hlt
      have hltz : (k : Int) < (len : Int) := by omega
      have HS : Hid (plM fs (k + 1) = upM (plM fs k) (enOf x) (some (k : Int))) := plM_step hx
      obtain ⟨b, off, vs, rfl, hb, hvl, hR, hc⟩ := RW.out.at FR.kp HG.out.2 hx
      have HKx := HK.out _ (List.mem_of_getElem? hx)
      obtain ⟨pr, mc, si, sp, di, dp, st, un, ow⟩ := x
      obtain ⟨rfl, -⟩ := hR
      have q0 : wr.cell? ⟨b, off + k * 9, none⟩ = some (.int .i64 pr) := hc 0 _ rfl
      have q1 : wr.cell? ⟨b, off + k * 9 + 1, none⟩ = some (.string mc) := hc 1 _ rfl
      have q2 : wr.cell? ⟨b, off + k * 9 + 2, none⟩ = some (.int .i64 si) := hc 2 _ rfl
      have q3 : wr.cell? ⟨b, off + k * 9 + 3, none⟩ = some (.int .i64 sp) := hc 3 _ rfl
      have q4 : wr.cell? ⟨b, off + k * 9 + 4, none⟩ = some (.int .i64 di) := hc 4 _ rfl
      have q5 : wr.cell? ⟨b, off + k * 9 + 5, none⟩ = some (.int .i64 dp) := hc 5 _ rfl
      have q6 : wr.cell? ⟨b, off + k * 9 + 6, none⟩ = some (.int .i64 st) := hc 6 _ rfl
      have q7 : wr.cell? ⟨b, off + k * 9 + 7, none⟩ = some (.int .i64 un) := hc 7 _ rfl
      have q8 : wr.cell? ⟨b, off + k * 9 + 8, none⟩ = some (.int .i64 ow) := hc 8 _ rfl
      clear hc hvl
      have HE : Hid (∀ w, Calls Tryz.prog 204 #[.agg #[.int .i64 pr, .string mc, .int .i64 si, .int .i64 sp, .int .i64 di, .int .i64 dp, .int .i64 st, .int .i64 un, .int .i64 ow]] w fun e w' => e = .returned (.agg #[.int .i64 pr, .int .i64 si, .int .i64 sp, .int .i64 di, .int .i64 dp]) ∧ Grw w w') := fun w => endsOf_any pr mc si sp di dp st un ow w
      have HP : Hid (∀ w2, OwnM w2 w.heap.size k (plM fs k) → Calls Tryz.prog 207 #[.map (some w.heap.size), .agg #[.int .i64 pr, .int .i64 si, .int .i64 sp, .int .i64 di, .int .i64 dp]] w2 fun e w' => e = .returned (.tuple #[.int .i64 (fkK (plM fs k) ⟨pr, si, sp, di, dp⟩), .bool (fkB (plM fs k) ⟨pr, si, sp, di, dp⟩), .bool (fkT (plM fs k) ⟨pr, si, sp, di, dp⟩)]) ∧ Grw w2 w') := fun w2 h2 => placeOfEnds_any w.heap.size k (plM fs k) pr si sp di dp w2 h2 (enOf_ok HKx)
      have HQ : Hid (fkT (plM fs k) ⟨pr, si, sp, di, dp⟩ = false → apOk fs (k + 1)) := fun h => apOk_step HA.out hx (fk_there h)
      have HN : Hid (fkT (plM fs k) ⟨pr, si, sp, di, dp⟩ = true → apB fs = false) := fun h => apB_no (fun h2 => by
        have := fk_none (h2 k _ (by omega) hx)
        rw [show enOf ⟨pr, mc, si, sp, di, dp, st, un, ow⟩ = ⟨pr, si, sp, di, dp⟩ from rfl, h] at this
        cases this)
      generalize fkK (plM fs k) ⟨pr, si, sp, di, dp⟩ = z0 at HP
      generalize fkB (plM fs k) ⟨pr, si, sp, di, dp⟩ = z1 at HP
      generalize fkT (plM fs k) ⟨pr, si, sp, di, dp⟩ = z2 at HP HQ HN
      clear hx HA
      go_wp2_with fail
      refine (HE.out _).mono ?_
      rintro e w2 ⟨rfl, g2⟩
      have b2 : Below w.heap.size w w2 := (HG.out.2.alloc HG.out.2.size _).trans (g2.below.mono (by have := HG.out.2.size; simp; omega))
      have o2 : OwnM w2 w.heap.size k (plM fs k) := (HG.out.1.alloc _).now g2.below
      have k0 : w2.cell? ⟨wr.heap.size, 0, none⟩ = some (.int .i64 pr) := g2.keep (by simp)
      have k1 : w2.cell? ⟨wr.heap.size, 1, none⟩ = some (.string mc) := g2.keep (by simp)
      have k2 : w2.cell? ⟨wr.heap.size, 2, none⟩ = some (.int .i64 si) := g2.keep (by simp)
      have k3 : w2.cell? ⟨wr.heap.size, 3, none⟩ = some (.int .i64 sp) := g2.keep (by simp)
      have k4 : w2.cell? ⟨wr.heap.size, 4, none⟩ = some (.int .i64 di) := g2.keep (by simp)
      have k5 : w2.cell? ⟨wr.heap.size, 5, none⟩ = some (.int .i64 dp) := g2.keep (by simp)
      have k6 : w2.cell? ⟨wr.heap.size, 6, none⟩ = some (.int .i64 st) := g2.keep (by simp)
      have k7 : w2.cell? ⟨wr.heap.size, 7, none⟩ = some (.int .i64 un) := g2.keep (by simp)
      have k8 : w2.cell? ⟨wr.heap.size, 8, none⟩ = some (.int .i64 ow) := g2.keep (by simp)
      have H2 : Hid (OwnM w2 w.heap.size k (plM fs k) ∧ Below w.heap.size w w2) := ⟨o2, b2⟩
      clear g2 b2 o2 HG q0 q1 q2 q3 q4 q5 q6 q7 q8
      go_wp2_with fail
      refine (HP.out _ H2.out.1).mono ?_
      rintro e w3 ⟨rfl, g3⟩
      replace k0 := g3.keep k0
      replace k1 := g3.keep k1
      replace k2 := g3.keep k2
      replace k3 := g3.keep k3
      replace k4 := g3.keep k4
      replace k5 := g3.keep k5
      replace k6 := g3.keep k6
      replace k7 := g3.keep k7
      replace k8 := g3.keep k8
      have H3 : Hid (OwnM w3 w.heap.size k (plM fs k) ∧ Below w.heap.size w w3) := ⟨H2.out.1.now g3.below, H2.out.2.trans (g3.below.mono H2.out.2.size)⟩
      clear g3 H2 HP
      cases z2 with
      | true =>
        have hd : Hid (apB fs = false) := HN.out rfl
        clear HN HQ
        go_wp2
        go_ret
        exact ⟨by rw [hd.out]; rfl, H3.out.2⟩
      | false =>
        have HA2 : Hid (apOk fs (k + 1)) := HQ.out rfl
        clear HN HQ
        go_wp2_with fail
        refine (HE.out _).mono ?_
        rintro e w4 ⟨rfl, g4⟩
        have b4 : Below w.heap.size w w4 := H3.out.2.trans (g4.below.mono H3.out.2.size)
        have o4 : OwnM w4 w.heap.size k (plM fs k) := H3.out.1.now g4.below
        obtain ⟨w7, hupd, o7, g7⟩ := o4.update (e := enOf ⟨pr, mc, si, sp, di, dp, st, un, ow⟩) (enOf_ok HKx) (k : Int) (nat_wf (by omega)) (by unfold maxLen; omega)
        have hupd' : (Instr.mapUpdate 276 (.map (some w.heap.size)) (.agg #[.int .i64 pr, .int .i64 si, .int .i64 sp, .int .i64 di, .int .i64 dp]) (.int .i64 (k : Int))).run Tryz.prog w4 = .ok () w7 := hupd
        have HG7 : Hid (OwnM w7 w.heap.size (k + 1) (plM fs (k + 1)) ∧ Below w.heap.size w w7) := ⟨by rw [HS.out]; exact o7, b4.grown g7 b4.size (fun k hk => by cases hk; exact Nat.le_refl _)⟩
        clear o7 g7 hupd g4 b4 o4 H3 HE HS HKx k0 k1 k2 k3 k4 k5 k6 k7 k8
        go_wp2
        go_roundw
        case rel => exact ⟨k + 1, by omega, by go_num, HA2, HG7⟩
        case measure => simp [intOf]; omega
    · obtain rfl : k = len := by omega
      have hd : Hid (apB fs = true) := apB_yes (by rw [hl]; exact HA.out)
      go_wp2
      go_ret
      exact ⟨by rw [hd.out]; rfl, HG.out.2⟩
set_option maxHeartbeats 4000000 in
theorem implFlowsOK_any (a : Option Addr) (len cap : Nat) (fs : List FlowV) (w : World) (h : Rw FlR 9 w a fs) (hok : ∀ x, x ∈ fs → FlRok x) (hl : fs.length = len) (hm : len ≤ 1048576) :
    Calls Tryz.prog 81 #[.slice a len cap] w fun e w' => e = .returned (.bool (foB fs)) ∧ Below w.heap.size w w' := by
  have RW : Hid (Rw FlR 9 w a fs) := h
  have HK : Hid (∀ x, x ∈ fs → FlRok x) := hok
  by_cases h8 : 8 < len
  · have hz : (8 : Int) < (len : Int) := by omega
    have hd : Hid (foB fs = false) := foB_long (by omega)
    clear h hok
    go_enter Tryz.func81, Tryz.ntmps81
    go_wp2
    go_ret
    exact ⟨by rw [hd.out]; rfl, Below.refl _ _⟩
  have h8z : decide ((8 : Int) < (len : Int)) = false := by simp; omega
  have HA : Hid (∀ w, Rw FlR 9 w a fs → Calls Tryz.prog 155 #[.slice a len cap] w fun e w' => e = .returned (.bool (apB fs)) ∧ Below w.heap.size w w') := fun w h => flowsApart_any a len cap fs w h HK.out hl (by omega)
  clear h hok
  go_enter Tryz.func81, Tryz.ntmps81
  go_wp2
  go_loopw [10] (fun x wr => ∃ k : Nat, k ≤ len ∧ x = .int .i64 k ∧ Hid (alOk fs k) ∧ Hid (Grw w wr)) (fun x _ => len - (intOf x).toNat)
  case atStart => exact ⟨0, Nat.zero_le _, rfl, alOk_zero fs, Grw.refl _⟩
  case round =>
    obtain ⟨k, hk, rfl, HO, HG⟩ := hrel
    by_cases hlt : k < len
    · obtain ⟨x, hx⟩ := at_of hl hlt
      have hltz : (k : Int) < (len : Int) := by omega
      obtain ⟨b, off, vs, rfl, hb, hvl, hR, hc⟩ := RW.out.at FR.kp HG.out.below hx
      have HKx := HK.out _ (List.mem_of_getElem? hx)
      obtain ⟨pr, mc, si, sp, di, dp, st, un, ow⟩ := x
      obtain ⟨rfl, -⟩ := hR
      have q0 : wr.cell? ⟨b, off + k * 9, none⟩ = some (.int .i64 pr) := hc 0 _ rfl
      have q1 : wr.cell? ⟨b, off + k * 9 + 1, none⟩ = some (.string mc) := hc 1 _ rfl
      have q2 : wr.cell? ⟨b, off + k * 9 + 2, none⟩ = some (.int .i64 si) := hc 2 _ rfl
      have q3 : wr.cell? ⟨b, off + k * 9 + 3, none⟩ = some (.int .i64 sp) := hc 3 _ rfl
      have q4 : wr.cell? ⟨b, off + k * 9 + 4, none⟩ = some (.int .i64 di) := hc 4 _ rfl
      have q5 : wr.cell? ⟨b, off + k * 9 + 5, none⟩ = some (.int .i64 dp) := hc 5 _ rfl
      have q6 : wr.cell? ⟨b, off + k * 9 + 6, none⟩ = some (.int .i64 st) := hc 6 _ rfl
      have q7 : wr.cell? ⟨b, off + k * 9 + 7, none⟩ = some (.int .i64 un) := hc 7 _ rfl
      have q8 : wr.cell? ⟨b, off + k * 9 + 8, none⟩ = some (.int .i64 ow) := hc 8 _ rfl
      clear hc hvl
      have HF : Hid (∀ w, Calls Tryz.prog 154 #[.agg #[.int .i64 pr, .string mc, .int .i64 si, .int .i64 sp, .int .i64 di, .int .i64 dp, .int .i64 st, .int .i64 un, .int .i64 ow]] w fun e w' => e = .returned (.bool (flB ⟨pr, mc, si, sp, di, dp, st, un, ow⟩)) ∧ Grw w w') := fun w => flowOK_any pr mc si sp di dp st un ow w (wf_leF HKx.1) (wf_leF HKx.2.2.2.1) (wf_leF HKx.2.2.2.2.2.1)
      clear HKx
      cases hq : flB ⟨pr, mc, si, sp, di, dp, st, un, ow⟩ with
      | false =>
        rw [hq] at HF
        have hd : Hid (foB fs = false) := foB_al hx hq
        clear hq hx HO
        go_wp2_with fail
        refine (HF.out _).mono ?_
        rintro e w2 ⟨rfl, g2⟩
        have HG2 : Hid (Grw w w2) := (HG.out.alloc _).trans g2
        clear g2 HG
        go_wp2
        go_ret
        exact ⟨by rw [hd.out]; rfl, HG2.out.below⟩
      | true =>
        rw [hq] at HF
        have HO2 : Hid (alOk fs (k + 1)) := alOk_step HO.out hx hq
        clear hq hx HO
        go_wp2_with fail
        refine (HF.out _).mono ?_
        rintro e w2 ⟨rfl, g2⟩
        have HG2 : Hid (Grw w w2) := (HG.out.alloc _).trans g2
        clear g2 HG HF q0 q1 q2 q3 q4 q5 q6 q7 q8
        go_wp2
        go_roundw
        case rel => exact ⟨k + 1, by omega, by go_num, HO2, HG2⟩
        case measure => simp [intOf]; omega
    · obtain rfl : k = len := by omega
      have hd : Hid (foB fs = apB fs) := foB_ap (by omega) (by rw [hl]; exact HO.out)
      clear HO
      go_wp2_with fail
      refine (HA.out _ (RW.out.keep FR.kp HG.out.below)).mono ?_
      rintro e w2 ⟨rfl, g2⟩
      have HG2 : Hid (Below w.heap.size w w2) := HG.out.below.trans (g2.mono HG.out.below.size)
      clear g2 HG
      go_wp2
      go_ret
      exact ⟨by rw [hd.out]; rfl, HG2.out⟩
/-- What is alike in the calls with flows. -/
noncomputable def ffC (fs : List FlowV) : Int := if 4096 < fs.length then 2 else if foB fs = false then 1 else 0
structure KeptE (w wx : World) : Prop where
  out : Below w.heap.size w wx
def SE (q : Nat) (pr si sp di dp : Int) (W wx : World) : Prop := wx.cell? ⟨q, 0, none⟩ = some (.int .i64 pr) ∧ wx.cell? ⟨q, 1, none⟩ = some (.int .i64 si) ∧ wx.cell? ⟨q, 2, none⟩ = some (.int .i64 sp) ∧ wx.cell? ⟨q, 3, none⟩ = some (.int .i64 di) ∧ wx.cell? ⟨q, 4, none⟩ = some (.int .i64 dp) ∧ KeptE W wx
theorem SE.below {q : Nat} {pr si sp di dp : Int} {W wx wy : World} (h : SE q pr si sp di dp W wx) (hb : Below wx.heap.size wx wy) : SE q pr si sp di dp W wy :=
  ⟨bkeep hb h.1, bkeep hb h.2.1, bkeep hb h.2.2.1, bkeep hb h.2.2.2.1, bkeep hb h.2.2.2.2.1, ⟨h.2.2.2.2.2.out.trans (hb.mono h.2.2.2.2.2.out.size)⟩⟩
/-- What FlowFind answers. -/
noncomputable def fdC (fs : List FlowV) (e : EnV) : Int := if ffC fs ≠ 0 then ffC fs else if enR e = false then 4 else if fkT (plM fs fs.length) e = false then 5 else 0
noncomputable def fdK (fs : List FlowV) (e : EnV) : Int := if fdC fs e ≠ 0 then 0 else fkK (plM fs fs.length) e
noncomputable def fdB (fs : List FlowV) (e : EnV) : Bool := if fdC fs e ≠ 0 then false else fkB (plM fs fs.length) e
end Go.Proofs.YtlebblmlbhnppaaGreat
