/- The model's flows: l09Same, l09Flow, FlowsOK, l09Find, FlowFind. -/
import Derived.Test.YtlebblmlbhnppaaGreatJ37
import Derived.Test.YtlebblmlbhnppaaGreatJ34
namespace Go.Proofs.YtlebblmlbhnppaaGreat
open Go.RowKit Go.PlainAid Go.Proofs.YtlebblmlbhnppaaGreat.Bt Go.Sort
set_option linter.unusedVariables false
set_option maxRecDepth 20000
theorem mac9_spec (s : ByteArray) (w : World) : Calls Tryz.prog 110 #[.string s] w fun e w' => e = .returned (.bool (dec (s.size = 6))) ∧ w' = w := by
  by_cases h : s.size = 6
  · rw [dec_y h]
    have hz : ((s.size : Int) == 6) = true := by simp; omega
    go_enter Tryz.func110, Tryz.ntmps110
    go_wp2
    go_ret
    exact ⟨rfl, rfl⟩
  · rw [dec_n h]
    have hz : ((s.size : Int) == 6) = false := by simp; omega
    go_enter Tryz.func110, Tryz.ntmps110
    go_wp2
    go_ret
    exact ⟨rfl, rfl⟩
set_option maxHeartbeats 1000000 in
theorem l09Same_any (pr : Int) (mc : ByteArray) (si sp di dp st un ow : Int) (p a ap b bp : Int) (w : World) :
    Calls Tryz.prog 150 #[.agg #[.int .i64 pr, .string mc, .int .i64 si, .int .i64 sp, .int .i64 di, .int .i64 dp, .int .i64 st, .int .i64 un, .int .i64 ow], .int .i64 p, .int .i64 a, .int .i64 ap, .int .i64 b, .int .i64 bp] w fun e w' => e = .returned (.bool (enB (enOf ⟨pr, mc, si, sp, di, dp, st, un, ow⟩) ⟨p, a, ap, b, bp⟩)) ∧ Grw w w' := by
  have E : enB (enOf ⟨pr, mc, si, sp, di, dp, st, un, ow⟩) ⟨p, a, ap, b, bp⟩ = ((pr == p) && ((si == a) && ((sp == ap) && ((di == b) && (dp == bp))))) := rfl
  rw [E]
  clear E
  generalize hb0 : (pr == p) = t0
  generalize hb1 : (si == a) = t1
  generalize hb2 : (sp == ap) = t2
  generalize hb3 : (di == b) = t3
  generalize hb4 : (dp == bp) = t4
  cases t0 with
  | false =>
    go_enter Tryz.func150, Tryz.ntmps150
    go_wp2
    go_ret
    exact ⟨rfl, (Grw.refl _).alloc _⟩
  | true =>
    cases t1 with
    | false =>
      go_enter Tryz.func150, Tryz.ntmps150
      go_wp2
      go_ret
      exact ⟨rfl, (Grw.refl _).alloc _⟩
    | true =>
      cases t2 with
      | false =>
        go_enter Tryz.func150, Tryz.ntmps150
        go_wp2
        go_ret
        exact ⟨rfl, (Grw.refl _).alloc _⟩
      | true =>
        cases t3 with
        | false =>
          go_enter Tryz.func150, Tryz.ntmps150
          go_wp2
          go_ret
          exact ⟨rfl, (Grw.refl _).alloc _⟩
        | true =>
          cases t4 with
          | false =>
            go_enter Tryz.func150, Tryz.ntmps150
            go_wp2
            go_ret
            exact ⟨rfl, (Grw.refl _).alloc _⟩
          | true =>
            go_enter Tryz.func150, Tryz.ntmps150
            go_wp2
            go_ret
            exact ⟨rfl, (Grw.refl _).alloc _⟩
set_option maxHeartbeats 2000000 in
theorem l09Flow_any (pr : Int) (mc : ByteArray) (si sp di dp st un ow : Int) (w : World) :
    Calls Tryz.prog 149 #[.agg #[.int .i64 pr, .string mc, .int .i64 si, .int .i64 sp, .int .i64 di, .int .i64 dp, .int .i64 st, .int .i64 un, .int .i64 ow]] w fun e w' => e = .returned (.bool (flB ⟨pr, mc, si, sp, di, dp, st, un, ow⟩)) ∧ Grw w w' := by
  have T0 : Hid (∀ w, Calls Tryz.prog 76 #[.int .i64 pr, .int .i64 0, .int .i64 255] w fun e w' => e = .returned (.bool (dec (0 ≤ pr ∧ pr ≤ 255))) ∧ w' = w) := fun w => specIn_any pr 0 255 w
  have T1 : Hid (∀ w, Calls Tryz.prog 110 #[.string mc] w fun e w' => e = .returned (.bool (dec (mc.size = 6))) ∧ w' = w) := fun w => mac9_spec mc w
  have T2 : Hid (∀ w, Calls Tryz.prog 77 #[.int .i64 si] w fun e w' => e = .returned (.bool (dec (0 ≤ si ∧ si ≤ 4294967295))) ∧ w' = w) := fun w => specIp_any si w
  have T3 : Hid (∀ w, Calls Tryz.prog 77 #[.int .i64 di] w fun e w' => e = .returned (.bool (dec (0 ≤ di ∧ di ≤ 4294967295))) ∧ w' = w) := fun w => specIp_any di w
  have T4 : Hid (∀ w, Calls Tryz.prog 199 #[.int .i64 sp] w fun e w' => e = .returned (.bool (dec (0 ≤ sp ∧ sp ≤ 65535))) ∧ w' = w) := fun w => specPort_any sp w
  have T5 : Hid (∀ w, Calls Tryz.prog 199 #[.int .i64 dp] w fun e w' => e = .returned (.bool (dec (0 ≤ dp ∧ dp ≤ 65535))) ∧ w' = w) := fun w => specPort_any dp w
  have T6 : Hid (∀ w, Calls Tryz.prog 76 #[.int .i64 st, .int .i64 1, .int .i64 3] w fun e w' => e = .returned (.bool (dec (1 ≤ st ∧ st ≤ 3))) ∧ w' = w) := fun w => specIn_any st 1 3 w
  have T7 : Hid (∀ w, Calls Tryz.prog 76 #[.int .i64 un, .int .i64 0, .int .i64 100100] w fun e w' => e = .returned (.bool (dec (0 ≤ un ∧ un ≤ 100100))) ∧ w' = w) := fun w => specIn_any un 0 100100 w
  have T8 : Hid (∀ w, Calls Tryz.prog 76 #[.int .i64 ow, .int .i64 0, .int .i64 10000] w fun e w' => e = .returned (.bool (dec (0 ≤ ow ∧ ow ≤ 10000))) ∧ w' = w) := fun w => specIn_any ow 0 10000 w
  obtain ⟨z, hz⟩ : ∃ z, z = flB ⟨pr, mc, si, sp, di, dp, st, un, ow⟩ := ⟨_, rfl⟩
  have E : Hid (z = (dec (0 ≤ pr ∧ pr ≤ 255) && (dec (mc.size = 6) && (dec (0 ≤ si ∧ si ≤ 4294967295) && (dec (0 ≤ di ∧ di ≤ 4294967295) && (dec (0 ≤ sp ∧ sp ≤ 65535) && (dec (0 ≤ dp ∧ dp ≤ 65535) && (dec (1 ≤ st ∧ st ≤ 3) && (dec (0 ≤ un ∧ un ≤ 100100) && (dec (0 ≤ ow ∧ ow ≤ 10000))))))))))) := by
    rw [hz]
    rfl
  rw [← hz]
  clear hz
  generalize dec (0 ≤ pr ∧ pr ≤ 255) = t0 at T0 E
  generalize dec (mc.size = 6) = t1 at T1 E
  generalize dec (0 ≤ si ∧ si ≤ 4294967295) = t2 at T2 E
  generalize dec (0 ≤ di ∧ di ≤ 4294967295) = t3 at T3 E
  generalize dec (0 ≤ sp ∧ sp ≤ 65535) = t4 at T4 E
  generalize dec (0 ≤ dp ∧ dp ≤ 65535) = t5 at T5 E
  generalize dec (1 ≤ st ∧ st ≤ 3) = t6 at T6 E
  generalize dec (0 ≤ un ∧ un ≤ 100100) = t7 at T7 E
  generalize dec (0 ≤ ow ∧ ow ≤ 10000) = t8 at T8 E
  go_enter Tryz.func149, Tryz.ntmps149
  go_wp2_with fail
  refine (T0.out _).mono ?_
  rintro e w9 ⟨rfl, rfl⟩
  cases t0 with
  | false =>
    have hv : Hid (z = false) := by show z = false; rw [E.out]; simp
    go_wp2
    go_ret
    exact ⟨by rw [hv.out]; rfl, (Grw.refl _).alloc _⟩
  | true =>
    go_wp2_with fail
    refine (T1.out _).mono ?_
    rintro e w9 ⟨rfl, rfl⟩
    cases t1 with
    | false =>
      have hv : Hid (z = false) := by show z = false; rw [E.out]; simp
      go_wp2
      go_ret
      exact ⟨by rw [hv.out]; rfl, (Grw.refl _).alloc _⟩
    | true =>
      go_wp2_with fail
      refine (T2.out _).mono ?_
      rintro e w9 ⟨rfl, rfl⟩
      cases t2 with
      | false =>
        have hv : Hid (z = false) := by show z = false; rw [E.out]; simp
        go_wp2
        go_ret
        exact ⟨by rw [hv.out]; rfl, (Grw.refl _).alloc _⟩
      | true =>
        go_wp2_with fail
        refine (T3.out _).mono ?_
        rintro e w9 ⟨rfl, rfl⟩
        cases t3 with
        | false =>
          have hv : Hid (z = false) := by show z = false; rw [E.out]; simp
          go_wp2
          go_ret
          exact ⟨by rw [hv.out]; rfl, (Grw.refl _).alloc _⟩
        | true =>
          go_wp2_with fail
          refine (T4.out _).mono ?_
          rintro e w9 ⟨rfl, rfl⟩
          cases t4 with
          | false =>
            have hv : Hid (z = false) := by show z = false; rw [E.out]; simp
            go_wp2
            go_ret
            exact ⟨by rw [hv.out]; rfl, (Grw.refl _).alloc _⟩
          | true =>
            go_wp2_with fail
            refine (T5.out _).mono ?_
            rintro e w9 ⟨rfl, rfl⟩
            cases t5 with
            | false =>
              have hv : Hid (z = false) := by show z = false; rw [E.out]; simp
              go_wp2
              go_ret
              exact ⟨by rw [hv.out]; rfl, (Grw.refl _).alloc _⟩
            | true =>
              go_wp2_with fail
              refine (T6.out _).mono ?_
              rintro e w9 ⟨rfl, rfl⟩
              cases t6 with
              | false =>
                have hv : Hid (z = false) := by show z = false; rw [E.out]; simp
                go_wp2
                go_ret
                exact ⟨by rw [hv.out]; rfl, (Grw.refl _).alloc _⟩
              | true =>
                go_wp2_with fail
                refine (T7.out _).mono ?_
                rintro e w9 ⟨rfl, rfl⟩
                cases t7 with
                | false =>
                  have hv : Hid (z = false) := by show z = false; rw [E.out]; simp
                  go_wp2
                  go_ret
                  exact ⟨by rw [hv.out]; rfl, (Grw.refl _).alloc _⟩
                | true =>
                  go_wp2_with fail
                  refine (T8.out _).mono ?_
                  rintro e w9 ⟨rfl, rfl⟩
                  have hv : Hid (z = t8) := by show z = t8; rw [E.out]; simp
                  go_wp2
                  go_ret
                  exact ⟨by rw [hv.out]; rfl, (Grw.refl _).alloc _⟩
set_option maxHeartbeats 4000000 in
theorem specFlowsOK_any (a : Option Addr) (len cap : Nat) (fs : List FlowV) (w : World) (h : Rw FlR 9 w a fs) (hl : fs.length = len) (hm : len ≤ 1048576) :
    Calls Tryz.prog 74 #[.slice a len cap] w fun e w' => e = .returned (.bool (foB fs)) ∧ Grw w w' := by
  have RW : Hid (Rw FlR 9 w a fs) := h
  clear h
  by_cases h4 : 4096 < len
  · have hz : (4096 : Int) < (len : Int) := by omega
    have hd : Hid (foB fs = false) := foB_long (by omega)
    go_enter Tryz.func74, Tryz.ntmps74
    go_wp2
    go_ret
    exact ⟨by rw [hd.out]; rfl, Grw.refl _⟩
  have h4z : decide ((4096 : Int) < (len : Int)) = false := by simp; omega
  by_cases h8 : 8 < len
  · have hz : (8 : Int) < (len : Int) := by omega
    have hd : Hid (foB fs = false) := foB_long (by omega)
    go_enter Tryz.func74, Tryz.ntmps74
    go_wp2
    go_ret
    exact ⟨by rw [hd.out]; rfl, Grw.refl _⟩
  have h8z : decide ((8 : Int) < (len : Int)) = false := by simp; omega
  go_enter Tryz.func74, Tryz.ntmps74
  go_wp2
  go_loopw [3] (fun x wr => ∃ i : Nat, i ≤ len ∧ x = .int .i64 i ∧ Hid (alOk fs i ∧ apOk fs i) ∧ Hid (Grw w wr)) (fun x _ => len - (intOf x).toNat)
  case atStart => exact ⟨0, Nat.zero_le _, rfl, ⟨alOk_zero fs, apOk_zero fs⟩, Grw.refl _⟩
  case round =>
    obtain ⟨i, hi, rfl, HO, HG⟩ := hrel
    by_cases hlt : i < len
    · obtain ⟨x, hx⟩ := at_of hl hlt
      have hiz : (i : Int) < (len : Int) := by omega
      obtain ⟨b, off, vs, rfl, hb, hvl, hR, hc⟩ := RW.out.at FR.kp HG.out.below hx
      obtain ⟨pr, mc, si, sp, di, dp, st, un, ow⟩ := x
      obtain ⟨rfl, -⟩ := hR
      have q0 : wr.cell? ⟨b, off + i * 9, none⟩ = some (.int .i64 pr) := hc 0 _ rfl
      have q1 : wr.cell? ⟨b, off + i * 9 + 1, none⟩ = some (.string mc) := hc 1 _ rfl
      have q2 : wr.cell? ⟨b, off + i * 9 + 2, none⟩ = some (.int .i64 si) := hc 2 _ rfl
      have q3 : wr.cell? ⟨b, off + i * 9 + 3, none⟩ = some (.int .i64 sp) := hc 3 _ rfl
      have q4 : wr.cell? ⟨b, off + i * 9 + 4, none⟩ = some (.int .i64 di) := hc 4 _ rfl
      have q5 : wr.cell? ⟨b, off + i * 9 + 5, none⟩ = some (.int .i64 dp) := hc 5 _ rfl
      have q6 : wr.cell? ⟨b, off + i * 9 + 6, none⟩ = some (.int .i64 st) := hc 6 _ rfl
      have q7 : wr.cell? ⟨b, off + i * 9 + 7, none⟩ = some (.int .i64 un) := hc 7 _ rfl
      have q8 : wr.cell? ⟨b, off + i * 9 + 8, none⟩ = some (.int .i64 ow) := hc 8 _ rfl
      have HF : Hid (∀ w, Calls Tryz.prog 149 #[.agg #[.int .i64 pr, .string mc, .int .i64 si, .int .i64 sp, .int .i64 di, .int .i64 dp, .int .i64 st, .int .i64 un, .int .i64 ow]] w fun e w' => e = .returned (.bool (flB ⟨pr, mc, si, sp, di, dp, st, un, ow⟩)) ∧ Grw w w') := fun w => l09Flow_any pr mc si sp di dp st un ow w
      clear hc hvl
      cases hq : flB ⟨pr, mc, si, sp, di, dp, st, un, ow⟩ with
      | false =>
        rw [hq] at HF
        have hd : Hid (foB fs = false) := foB_al hx hq
        clear hq hx HO
        go_wp2_with fail
        refine (HF.out _).mono ?_
        rintro e w2 ⟨rfl, g2⟩
        have HG2 : Hid (Grw w w2) := (HG.out.alloc _).trans g2
        clear g2 HG
        go_wp2
        go_ret
        exact ⟨by rw [hd.out]; rfl, HG2.out⟩
      | true =>
        rw [hq] at HF
        have HA : Hid (alOk fs (i + 1)) := alOk_step HO.out.1 hx hq
        have HP : Hid (apOk fs i) := HO.out.2
        clear hq HO
        go_wp2_with fail
        refine (HF.out _).mono ?_
        rintro e w2 ⟨rfl, g2⟩
        have HG2 : Hid (Grw w w2) := (HG.out.alloc _).trans g2
        have k0 : w2.cell? ⟨wr.heap.size, 0, none⟩ = some (.int .i64 pr) := g2.keep (by simp)
        have k1 : w2.cell? ⟨wr.heap.size, 1, none⟩ = some (.string mc) := g2.keep (by simp)
        have k2 : w2.cell? ⟨wr.heap.size, 2, none⟩ = some (.int .i64 si) := g2.keep (by simp)
        have k3 : w2.cell? ⟨wr.heap.size, 3, none⟩ = some (.int .i64 sp) := g2.keep (by simp)
        have k4 : w2.cell? ⟨wr.heap.size, 4, none⟩ = some (.int .i64 di) := g2.keep (by simp)
        have k5 : w2.cell? ⟨wr.heap.size, 5, none⟩ = some (.int .i64 dp) := g2.keep (by simp)
        have k6 : w2.cell? ⟨wr.heap.size, 6, none⟩ = some (.int .i64 st) := g2.keep (by simp)
        have k7 : w2.cell? ⟨wr.heap.size, 7, none⟩ = some (.int .i64 un) := g2.keep (by simp)
        have k8 : w2.cell? ⟨wr.heap.size, 8, none⟩ = some (.int .i64 ow) := g2.keep (by simp)
        clear g2 HG HF q0 q1 q2 q3 q4 q5 q6 q7 q8
        go_wp2
        generalize wr.heap.size = B0 at k0 k1 k2 k3 k4 k5 k6 k7 k8 ⊢
        clear wr
        go_loopw [5] (fun y wr2 => ∃ k : Nat, k ≤ i ∧ y = .int .i64 k ∧ Hid (apAt fs k (enOf ⟨pr, mc, si, sp, di, dp, st, un, ow⟩)) ∧ Hid (Grw w2 wr2)) (fun y _ => i - (intOf y).toNat)
        case atStart => exact ⟨0, Nat.zero_le _, rfl, apAt_zero _ _, Grw.refl _⟩
        case round =>
          obtain ⟨k, hk, rfl, HB, HG3⟩ := hrel
          by_cases hki : k < i
          · obtain ⟨y, hy⟩ := at_of (k := k) hl (by omega)
            have hkz : (k : Int) < (i : Int) := by omega
            have hkl : (k : Int) < (len : Int) := by omega
            obtain ⟨b', off', vs', e', hb', hvl', hR', hc'⟩ := RW.out.at FR.kp (HG2.out.trans HG3.out).below hy
            cases e'
            obtain ⟨pr2, mc2, si2, sp2, di2, dp2, st2, un2, ow2⟩ := y
            obtain ⟨rfl, -⟩ := hR'
            have p0 : wr.cell? ⟨b, off + k * 9, none⟩ = some (.int .i64 pr2) := hc' 0 _ rfl
            have p1 : wr.cell? ⟨b, off + k * 9 + 1, none⟩ = some (.string mc2) := hc' 1 _ rfl
            have p2 : wr.cell? ⟨b, off + k * 9 + 2, none⟩ = some (.int .i64 si2) := hc' 2 _ rfl
            have p3 : wr.cell? ⟨b, off + k * 9 + 3, none⟩ = some (.int .i64 sp2) := hc' 3 _ rfl
            have p4 : wr.cell? ⟨b, off + k * 9 + 4, none⟩ = some (.int .i64 di2) := hc' 4 _ rfl
            have p5 : wr.cell? ⟨b, off + k * 9 + 5, none⟩ = some (.int .i64 dp2) := hc' 5 _ rfl
            have p6 : wr.cell? ⟨b, off + k * 9 + 6, none⟩ = some (.int .i64 st2) := hc' 6 _ rfl
            have p7 : wr.cell? ⟨b, off + k * 9 + 7, none⟩ = some (.int .i64 un2) := hc' 7 _ rfl
            have p8 : wr.cell? ⟨b, off + k * 9 + 8, none⟩ = some (.int .i64 ow2) := hc' 8 _ rfl
            have m0 : ∀ o, (wr.alloc o).cell? ⟨B0, 0, none⟩ = some (.int .i64 pr) := fun o => acell (HG3.out.keep k0) o
            have m1 : ∀ o, (wr.alloc o).cell? ⟨B0, 1, none⟩ = some (.string mc) := fun o => acell (HG3.out.keep k1) o
            have m2 : ∀ o, (wr.alloc o).cell? ⟨B0, 2, none⟩ = some (.int .i64 si) := fun o => acell (HG3.out.keep k2) o
            have m3 : ∀ o, (wr.alloc o).cell? ⟨B0, 3, none⟩ = some (.int .i64 sp) := fun o => acell (HG3.out.keep k3) o
            have m4 : ∀ o, (wr.alloc o).cell? ⟨B0, 4, none⟩ = some (.int .i64 di) := fun o => acell (HG3.out.keep k4) o
            have m5 : ∀ o, (wr.alloc o).cell? ⟨B0, 5, none⟩ = some (.int .i64 dp) := fun o => acell (HG3.out.keep k5) o
            have m6 : ∀ o, (wr.alloc o).cell? ⟨B0, 6, none⟩ = some (.int .i64 st) := fun o => acell (HG3.out.keep k6) o
            have m7 : ∀ o, (wr.alloc o).cell? ⟨B0, 7, none⟩ = some (.int .i64 un) := fun o => acell (HG3.out.keep k7) o
            have m8 : ∀ o, (wr.alloc o).cell? ⟨B0, 8, none⟩ = some (.int .i64 ow) := fun o => acell (HG3.out.keep k8) o
            clear hc' hvl' hb'
            have HS1 : Hid (∀ w, Calls Tryz.prog 150 #[.agg #[.int .i64 pr2, .string mc2, .int .i64 si2, .int .i64 sp2, .int .i64 di2, .int .i64 dp2, .int .i64 st2, .int .i64 un2, .int .i64 ow2], .int .i64 pr, .int .i64 si, .int .i64 sp, .int .i64 di, .int .i64 dp] w fun e w' => e = .returned (.bool (enB (enOf ⟨pr2, mc2, si2, sp2, di2, dp2, st2, un2, ow2⟩) (enOf ⟨pr, mc, si, sp, di, dp, st, un, ow⟩))) ∧ Grw w w') := fun w => l09Same_any pr2 mc2 si2 sp2 di2 dp2 st2 un2 ow2 pr si sp di dp w
            have HS2 : Hid (∀ w, Calls Tryz.prog 150 #[.agg #[.int .i64 pr2, .string mc2, .int .i64 si2, .int .i64 sp2, .int .i64 di2, .int .i64 dp2, .int .i64 st2, .int .i64 un2, .int .i64 ow2], .int .i64 pr, .int .i64 di, .int .i64 dp, .int .i64 si, .int .i64 sp] w fun e w' => e = .returned (.bool (enB (enOf ⟨pr2, mc2, si2, sp2, di2, dp2, st2, un2, ow2⟩) (enT (enOf ⟨pr, mc, si, sp, di, dp, st, un, ow⟩)))) ∧ Grw w w') := fun w => l09Same_any pr2 mc2 si2 sp2 di2 dp2 st2 un2 ow2 pr di dp si sp w
            by_cases he1 : enOf ⟨pr2, mc2, si2, sp2, di2, dp2, st2, un2, ow2⟩ = enOf ⟨pr, mc, si, sp, di, dp, st, un, ow⟩
            · rw [enB_yes he1] at HS1
              have hd : Hid (foB fs = false) := foB_at hx hki hy (.inl he1)
              clear he1 HB HA HP hx hy HS2
              go_wp2_with fail
              refine (HS1.out _).mono ?_
              rintro e w4 ⟨rfl, g4⟩
              have HG4 : Hid (Grw w w4) := ((HG2.out.trans HG3.out).alloc _).trans g4
              clear g4 HG2 HG3 m0 m1 m2 m3 m4 m5 m6 m7 m8 p0 p1 p2 p3 p4 p5 p6 p7 p8 k0 k1 k2 k3 k4 k5 k6 k7 k8
              go_wp2
              go_ret
              exact ⟨by rw [hd.out]; rfl, HG4.out⟩
            · rw [enB_no he1] at HS1
              by_cases he2 : enOf ⟨pr2, mc2, si2, sp2, di2, dp2, st2, un2, ow2⟩ = enT (enOf ⟨pr, mc, si, sp, di, dp, st, un, ow⟩)
              · rw [enB_yes he2] at HS2
                have hd : Hid (foB fs = false) := foB_at hx hki hy (.inr he2)
                clear he1 he2 HB HA HP hx hy
                go_wp2_with fail
                refine (HS1.out _).mono ?_
                rintro e w4 ⟨rfl, g4⟩
                have n0 : w4.cell? ⟨B0, 0, none⟩ = some (.int .i64 pr) := g4.keep (m0 _)
                have r0 : w4.cell? ⟨wr.heap.size, 0, none⟩ = some (.int .i64 pr2) := g4.keep (by simp)
                have n1 : w4.cell? ⟨B0, 1, none⟩ = some (.string mc) := g4.keep (m1 _)
                have r1 : w4.cell? ⟨wr.heap.size, 1, none⟩ = some (.string mc2) := g4.keep (by simp)
                have n2 : w4.cell? ⟨B0, 2, none⟩ = some (.int .i64 si) := g4.keep (m2 _)
                have r2 : w4.cell? ⟨wr.heap.size, 2, none⟩ = some (.int .i64 si2) := g4.keep (by simp)
                have n3 : w4.cell? ⟨B0, 3, none⟩ = some (.int .i64 sp) := g4.keep (m3 _)
                have r3 : w4.cell? ⟨wr.heap.size, 3, none⟩ = some (.int .i64 sp2) := g4.keep (by simp)
                have n4 : w4.cell? ⟨B0, 4, none⟩ = some (.int .i64 di) := g4.keep (m4 _)
                have r4 : w4.cell? ⟨wr.heap.size, 4, none⟩ = some (.int .i64 di2) := g4.keep (by simp)
                have n5 : w4.cell? ⟨B0, 5, none⟩ = some (.int .i64 dp) := g4.keep (m5 _)
                have r5 : w4.cell? ⟨wr.heap.size, 5, none⟩ = some (.int .i64 dp2) := g4.keep (by simp)
                have n6 : w4.cell? ⟨B0, 6, none⟩ = some (.int .i64 st) := g4.keep (m6 _)
                have r6 : w4.cell? ⟨wr.heap.size, 6, none⟩ = some (.int .i64 st2) := g4.keep (by simp)
                have n7 : w4.cell? ⟨B0, 7, none⟩ = some (.int .i64 un) := g4.keep (m7 _)
                have r7 : w4.cell? ⟨wr.heap.size, 7, none⟩ = some (.int .i64 un2) := g4.keep (by simp)
                have n8 : w4.cell? ⟨B0, 8, none⟩ = some (.int .i64 ow) := g4.keep (m8 _)
                have r8 : w4.cell? ⟨wr.heap.size, 8, none⟩ = some (.int .i64 ow2) := g4.keep (by simp)
                have HG4 : Hid (Grw w w4) := ((HG2.out.trans HG3.out).alloc _).trans g4
                clear g4 HG2 HG3 m0 m1 m2 m3 m4 m5 m6 m7 m8 p0 p1 p2 p3 p4 p5 p6 p7 p8 k0 k1 k2 k3 k4 k5 k6 k7 k8
                go_wp2_with fail
                refine (HS2.out _).mono ?_
                rintro e w5 ⟨rfl, g5⟩
                have HG5 : Hid (Grw w w5) := HG4.out.trans g5
                clear g5 HG4
                go_wp2
                go_ret
                exact ⟨by rw [hd.out]; rfl, HG5.out⟩
              · rw [enB_no he2] at HS2
                have HB2 : Hid (apAt fs (k + 1) (enOf ⟨pr, mc, si, sp, di, dp, st, un, ow⟩)) := apAt_step HB.out hy he1 he2
                clear he1 he2 HB
                go_wp2_with fail
                refine (HS1.out _).mono ?_
                rintro e w4 ⟨rfl, g4⟩
                have n0 : w4.cell? ⟨B0, 0, none⟩ = some (.int .i64 pr) := g4.keep (m0 _)
                have r0 : w4.cell? ⟨wr.heap.size, 0, none⟩ = some (.int .i64 pr2) := g4.keep (by simp)
                have n1 : w4.cell? ⟨B0, 1, none⟩ = some (.string mc) := g4.keep (m1 _)
                have r1 : w4.cell? ⟨wr.heap.size, 1, none⟩ = some (.string mc2) := g4.keep (by simp)
                have n2 : w4.cell? ⟨B0, 2, none⟩ = some (.int .i64 si) := g4.keep (m2 _)
                have r2 : w4.cell? ⟨wr.heap.size, 2, none⟩ = some (.int .i64 si2) := g4.keep (by simp)
                have n3 : w4.cell? ⟨B0, 3, none⟩ = some (.int .i64 sp) := g4.keep (m3 _)
                have r3 : w4.cell? ⟨wr.heap.size, 3, none⟩ = some (.int .i64 sp2) := g4.keep (by simp)
                have n4 : w4.cell? ⟨B0, 4, none⟩ = some (.int .i64 di) := g4.keep (m4 _)
                have r4 : w4.cell? ⟨wr.heap.size, 4, none⟩ = some (.int .i64 di2) := g4.keep (by simp)
                have n5 : w4.cell? ⟨B0, 5, none⟩ = some (.int .i64 dp) := g4.keep (m5 _)
                have r5 : w4.cell? ⟨wr.heap.size, 5, none⟩ = some (.int .i64 dp2) := g4.keep (by simp)
                have n6 : w4.cell? ⟨B0, 6, none⟩ = some (.int .i64 st) := g4.keep (m6 _)
                have r6 : w4.cell? ⟨wr.heap.size, 6, none⟩ = some (.int .i64 st2) := g4.keep (by simp)
                have n7 : w4.cell? ⟨B0, 7, none⟩ = some (.int .i64 un) := g4.keep (m7 _)
                have r7 : w4.cell? ⟨wr.heap.size, 7, none⟩ = some (.int .i64 un2) := g4.keep (by simp)
                have n8 : w4.cell? ⟨B0, 8, none⟩ = some (.int .i64 ow) := g4.keep (m8 _)
                have r8 : w4.cell? ⟨wr.heap.size, 8, none⟩ = some (.int .i64 ow2) := g4.keep (by simp)
                have HG4 : Hid (Grw w2 w4) := (HG3.out.alloc _).trans g4
                clear g4 HG3 m0 m1 m2 m3 m4 m5 m6 m7 m8 p0 p1 p2 p3 p4 p5 p6 p7 p8
                go_wp2_with fail
                refine (HS2.out _).mono ?_
                rintro e w5 ⟨rfl, g5⟩
                have HG5 : Hid (Grw w2 w5) := HG4.out.trans g5
                clear g5 HG4 n0 r0 n1 r1 n2 r2 n3 r3 n4 r4 n5 r5 n6 r6 n7 r7 n8 r8
                go_wp2
                go_roundw
                case rel => exact ⟨k + 1, by omega, by go_num, HB2, HG5⟩
                case measure => simp [intOf]; omega
          · obtain rfl : k = i := by omega
            have hkz : ¬ (k : Int) < (k : Int) := by omega
            have HP2 : Hid (apOk fs (k + 1)) := apOk_step HP.out hx HB.out
            clear HP HB hx
            go_wp2
            exact ⟨⟨k + 1, by omega, by go_num, ⟨HA.out, HP2.out⟩, HG2.out.trans HG3.out⟩, by simp [intOf]; omega⟩
    · obtain rfl : i = len := by omega
      have hd : Hid (foB fs = true) := foB_yes (by omega) (by rw [hl]; exact HO.out.1) (by rw [hl]; exact HO.out.2)
      clear HO
      go_wp2
      go_ret
      exact ⟨by rw [hd.out]; rfl, HG.out⟩
end Go.Proofs.YtlebblmlbhnppaaGreat
