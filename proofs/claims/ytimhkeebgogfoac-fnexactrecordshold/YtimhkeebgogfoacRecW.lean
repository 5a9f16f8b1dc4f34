/- RecordsHold, the program's and the model's. -/
import Derived.Test.YtimhkeebgogfoacLawGu
import Derived.Test.YtimhkeebgogfoacRecP
namespace Go.Proofs.Ytimhkeebgogfoac
open Go.RowKit Go.PlainAid Go.Proofs.Ytimhkeebgogfoac.Bt Go.Sort Go.Maps Go.WideAt Go.WideMaps
set_option linter.unusedVariables false
set_option maxRecDepth 20000

/-- What the first k records say of x. -/
def recBg (rs : List RecV) (x : RecV) (k : Nat) (bg : Bool) : Prop := (∀ j e, j < k → rs[j]? = some e → e.id = x.id → e.st = false ∧ x.st = true ∧ e.tm ≤ x.tm) ∧ (bg = true ↔ ∃ j e, j < k ∧ rs[j]? = some e ∧ e.id = x.id)
set_option maxHeartbeats 4000000 in
theorem l08Records_any (a : Option Addr) (len cap : Nat) (rs : List RecV) (w : World) (h : Rw ReR 5 w a rs) (hl : rs.length = len) (hm : len ≤ 4096) :
    Calls Try.prog 25 #[.slice a len cap] w fun e w' => e = .returned (.bool (recB rs)) ∧ Grw w w' := by
  have RW : Hid (Rw ReR 5 w a rs) := h
  clear h
  have hmix : Try.prog.follows .mixedOrders = true := by kernel_rfl
  go_enter Try.func25, Try.ntmps25
  go_wp2
  go_loopw [3] (fun x wr => ∃ i : Nat, i ≤ len ∧ x = .int .i64 i ∧ Hid (recOk rs i) ∧ Hid (Grw w wr)) (fun x _ => len - (intOf x).toNat)
  case atStart => exact ⟨0, Nat.zero_le _, rfl, recOk_zero rs, Grw.refl _⟩
  case round =>
    obtain ⟨i, hi, rfl, HO, HG⟩ := hrel
    by_cases hlt : i < len
    · obtain ⟨x, hx⟩ := at_of hl hlt
      have hiz : (i : Int) < (len : Int) := by omega
      go_wp2
      generalize wr = w3 at HG ⊢
      go_loopw [4, 5] (fun p y wr => ∃ (k : Nat) (bg : Bool), k ≤ i ∧ y = .int .i64 k ∧ p = .bool bg ∧ Hid (recBg rs x k bg) ∧ Hid (Grw w wr)) (fun _ y _ => i - (intOf y).toNat)
      case atStart => exact ⟨0, false, Nat.zero_le _, rfl, rfl, ⟨fun j e hj => absurd hj (by omega), ⟨(fun h => by cases h), (fun ⟨j, e, hj, _⟩ => absurd hj (by omega))⟩⟩, HG.out⟩
      case round =>
        obtain ⟨k, bg, hk, rfl, rfl, HB, HG2⟩ := hrel
        clear HG
        obtain ⟨b, off, vs, rfl, hb, hvl, hR, hc⟩ := RW.out.at ReR.kp HG2.out.below hx
        by_cases hki : k < i
        · obtain ⟨y, hy⟩ := at_of (k := k) hl (by omega)
          obtain ⟨b', off', vs', e', hb', hvl', hR', hc'⟩ := RW.out.at ReR.kp HG2.out.below hy
          cases e'
          obtain ⟨id, tm, ca, bt, st⟩ := x
          obtain ⟨id2, tm2, ca2, bt2, st2⟩ := y
          obtain ⟨rfl, -⟩ := hR
          obtain ⟨rfl, -⟩ := hR'
          have q0 : wr.cell? ⟨b, off + i * 5, none⟩ = some (.int .i64 id) := hc 0 _ rfl
          have q1 : wr.cell? ⟨b, off + i * 5 + 1, none⟩ = some (.int .i64 tm) := hc 1 _ rfl
          have q2 : wr.cell? ⟨b, off + i * 5 + 2, none⟩ = some (.int .i64 ca) := hc 2 _ rfl
          have q3 : wr.cell? ⟨b, off + i * 5 + 3, none⟩ = some (.int .i64 bt) := hc 3 _ rfl
          have q4 : wr.cell? ⟨b, off + i * 5 + 4, none⟩ = some (.bool st) := hc 4 _ rfl
          have y0 : ∀ n os, (grow (wr.drewN n) os).cell? ⟨b, off + i * 5, none⟩ = some (.int .i64 id) := fun n os => bkeep (Grw.below ⟨n, os, rfl⟩) q0
          have y1 : ∀ n os, (grow (wr.drewN n) os).cell? ⟨b, off + i * 5 + 1, none⟩ = some (.int .i64 tm) := fun n os => bkeep (Grw.below ⟨n, os, rfl⟩) q1
          have y4 : ∀ n os, (grow (wr.drewN n) os).cell? ⟨b, off + i * 5 + 4, none⟩ = some (.bool st) := fun n os => bkeep (Grw.below ⟨n, os, rfl⟩) q4
          have p0 : wr.cell? ⟨b, off + k * 5, none⟩ = some (.int .i64 id2) := hc' 0 _ rfl
          have p1 : wr.cell? ⟨b, off + k * 5 + 1, none⟩ = some (.int .i64 tm2) := hc' 1 _ rfl
          have p2 : wr.cell? ⟨b, off + k * 5 + 2, none⟩ = some (.int .i64 ca2) := hc' 2 _ rfl
          have p3 : wr.cell? ⟨b, off + k * 5 + 3, none⟩ = some (.int .i64 bt2) := hc' 3 _ rfl
          have p4 : wr.cell? ⟨b, off + k * 5 + 4, none⟩ = some (.bool st2) := hc' 4 _ rfl
          have z0 : ∀ n os, (grow (wr.drewN n) os).cell? ⟨b, off + k * 5, none⟩ = some (.int .i64 id2) := fun n os => bkeep (Grw.below ⟨n, os, rfl⟩) p0
          have z1 : ∀ n os, (grow (wr.drewN n) os).cell? ⟨b, off + k * 5 + 1, none⟩ = some (.int .i64 tm2) := fun n os => bkeep (Grw.below ⟨n, os, rfl⟩) p1
          have z4 : ∀ n os, (grow (wr.drewN n) os).cell? ⟨b, off + k * 5 + 4, none⟩ = some (.bool st2) := fun n os => bkeep (Grw.below ⟨n, os, rfl⟩) p4
          have hkl : (k : Int) < (len : Int) := by omega
          have hkz : (k : Int) < (i : Int) := by omega
          clear hc hc' hvl hvl' hb'
          by_cases he : id2 = id
          · have hne : (id2 != id) = false := by simp [he]
            have hor : (st2 = true ∨ st = false ∨ tm < tm2) ∨ (st2 = false ∧ st = true ∧ tm2 ≤ tm) := by
              cases st2 <;> cases st <;> simp <;> omega
            rcases hor with hbad | ⟨g1, g2, g3⟩
            · have hd : Hid (recB rs = false) := recB_no hx (fun h => by
                have := h.1 k _ hki hy he
                simp at this
                rcases hbad with h1 | h1 | h1
                · rw [h1] at this; simp at this
                · rw [h1] at this; simp at this
                · omega)
              clear HB HO RW hx hy
              go_wp2_with fail
              refine wp_region_quiet_grown (by assumption) (by kernel_rfl) ?_
              repeat (go_big_quiet_step (first | fail | fail))
              refine wpQuiet_nil ?_
              intro _ hw'
              obtain ⟨⟨nq, osq⟩, hw''⟩ := hw'
              subst hw''
              have t1 := y1 nq osq
              have t4 := y4 nq osq
              have s1 := z1 nq osq
              have s4 := z4 nq osq
              have HG3 : Hid (Grw w (grow (wr.drewN nq) osq)) := HG2.out.trans ⟨nq, osq, rfl⟩
              clear y0 y1 y4 z0 z1 z4 q0 q1 q2 q3 q4 p0 p1 p2 p3 p4 HG2
              generalize (grow (wr.drewN nq) osq) = w5 at t1 t4 s1 s4 HG3 ⊢
              cases st2 with
              | true =>
                have v1 : ∀ n os, (grow (w5.drewN n) os).cell? ⟨b, off + i * 5 + 1, none⟩ = some (.int .i64 tm) := fun n os => bkeep (Grw.below ⟨n, os, rfl⟩) t1
                have u1 : ∀ n os, (grow (w5.drewN n) os).cell? ⟨b, off + k * 5 + 1, none⟩ = some (.int .i64 tm2) := fun n os => bkeep (Grw.below ⟨n, os, rfl⟩) s1
                have v4 : ∀ n os, (grow (w5.drewN n) os).cell? ⟨b, off + i * 5 + 4, none⟩ = some (.bool st) := fun n os => bkeep (Grw.below ⟨n, os, rfl⟩) t4
                have u4 : ∀ n os, (grow (w5.drewN n) os).cell? ⟨b, off + k * 5 + 4, none⟩ = some (.bool true) := fun n os => bkeep (Grw.below ⟨n, os, rfl⟩) s4
                go_wp2_with fail
                refine wp_region_quiet_grown (by assumption) (by kernel_rfl) ?_
                repeat (go_big_quiet_step (first | fail | fail))
                refine wpQuiet_nil ?_
                intro _ hw'
                obtain ⟨⟨nq, osq⟩, hw''⟩ := hw'
                subst hw''
                have HG4 : Hid (Grw w (grow (w5.drewN nq) osq)) := HG3.out.trans ⟨nq, osq, rfl⟩
                go_wp2
                go_ret
                exact ⟨by rw [hd.out]; rfl, HG4.out⟩
              | false =>
                cases st with
                | false =>
                  have v1 : ∀ n os, (grow (w5.drewN n) os).cell? ⟨b, off + i * 5 + 1, none⟩ = some (.int .i64 tm) := fun n os => bkeep (Grw.below ⟨n, os, rfl⟩) t1
                  have u1 : ∀ n os, (grow (w5.drewN n) os).cell? ⟨b, off + k * 5 + 1, none⟩ = some (.int .i64 tm2) := fun n os => bkeep (Grw.below ⟨n, os, rfl⟩) s1
                  have v4 : ∀ n os, (grow (w5.drewN n) os).cell? ⟨b, off + i * 5 + 4, none⟩ = some (.bool false) := fun n os => bkeep (Grw.below ⟨n, os, rfl⟩) t4
                  have u4 : ∀ n os, (grow (w5.drewN n) os).cell? ⟨b, off + k * 5 + 4, none⟩ = some (.bool false) := fun n os => bkeep (Grw.below ⟨n, os, rfl⟩) s4
                  go_wp2_with fail
                  refine wp_region_quiet_grown (by assumption) (by kernel_rfl) ?_
                  repeat (go_big_quiet_step (first | fail | fail))
                  refine wpQuiet_nil ?_
                  intro _ hw'
                  obtain ⟨⟨nq, osq⟩, hw''⟩ := hw'
                  subst hw''
                  have HG4 : Hid (Grw w (grow (w5.drewN nq) osq)) := HG3.out.trans ⟨nq, osq, rfl⟩
                  go_wp2
                  go_ret
                  exact ⟨by rw [hd.out]; rfl, HG4.out⟩
                | true =>
                  have hgt : decide (tm < tm2) = true := decide_eq_true (by simpa using hbad)
                  have v1 : ∀ n os, (grow (w5.drewN n) os).cell? ⟨b, off + i * 5 + 1, none⟩ = some (.int .i64 tm) := fun n os => bkeep (Grw.below ⟨n, os, rfl⟩) t1
                  have u1 : ∀ n os, (grow (w5.drewN n) os).cell? ⟨b, off + k * 5 + 1, none⟩ = some (.int .i64 tm2) := fun n os => bkeep (Grw.below ⟨n, os, rfl⟩) s1
                  have v4 : ∀ n os, (grow (w5.drewN n) os).cell? ⟨b, off + i * 5 + 4, none⟩ = some (.bool true) := fun n os => bkeep (Grw.below ⟨n, os, rfl⟩) t4
                  have u4 : ∀ n os, (grow (w5.drewN n) os).cell? ⟨b, off + k * 5 + 4, none⟩ = some (.bool false) := fun n os => bkeep (Grw.below ⟨n, os, rfl⟩) s4
                  go_wp2_with fail
                  refine wp_region_quiet_grown (by assumption) (by kernel_rfl) ?_
                  repeat (go_big_quiet_step (first | fail | fail))
                  refine wpQuiet_nil ?_
                  intro _ hw'
                  obtain ⟨⟨nq, osq⟩, hw''⟩ := hw'
                  subst hw''
                  have HG4 : Hid (Grw w (grow (w5.drewN nq) osq)) := HG3.out.trans ⟨nq, osq, rfl⟩
                  go_wp2
                  go_ret
                  exact ⟨by rw [hd.out]; rfl, HG4.out⟩
            · have HB' : Hid (recBg rs ⟨id, tm, ca, bt, st⟩ (k + 1) true) := by
                refine ⟨fun j e hj hje hid => ?_, ⟨fun _ => ⟨k, _, by omega, hy, he⟩, fun _ => rfl⟩⟩
                by_cases hjk : j < k
                · exact HB.out.1 j e hjk hje hid
                · obtain rfl : j = k := by omega
                  rw [hy] at hje
                  cases hje
                  exact ⟨g1, g2, g3⟩
              clear HB HO RW hx hy
              subst g1 g2
              have hle : decide (tm < tm2) = false := decide_eq_false (by omega)
              go_wp2_with fail
              refine wp_region_quiet_grown (by assumption) (by kernel_rfl) ?_
              repeat (go_big_quiet_step (first | fail | fail))
              refine wpQuiet_nil ?_
              intro _ hw'
              obtain ⟨⟨nq, osq⟩, hw''⟩ := hw'
              subst hw''
              have t1 := y1 nq osq
              have t4 := y4 nq osq
              have s1 := z1 nq osq
              have s4 := z4 nq osq
              have HG3 : Hid (Grw w (grow (wr.drewN nq) osq)) := HG2.out.trans ⟨nq, osq, rfl⟩
              clear y0 y1 y4 z0 z1 z4 q0 q1 q2 q3 q4 p0 p1 p2 p3 p4 HG2
              generalize (grow (wr.drewN nq) osq) = w5 at t1 t4 s1 s4 HG3 ⊢
              have v1 : ∀ n os, (grow (w5.drewN n) os).cell? ⟨b, off + i * 5 + 1, none⟩ = some (.int .i64 tm) := fun n os => bkeep (Grw.below ⟨n, os, rfl⟩) t1
              have u1 : ∀ n os, (grow (w5.drewN n) os).cell? ⟨b, off + k * 5 + 1, none⟩ = some (.int .i64 tm2) := fun n os => bkeep (Grw.below ⟨n, os, rfl⟩) s1
              have v4 : ∀ n os, (grow (w5.drewN n) os).cell? ⟨b, off + i * 5 + 4, none⟩ = some (.bool true) := fun n os => bkeep (Grw.below ⟨n, os, rfl⟩) t4
              have u4 : ∀ n os, (grow (w5.drewN n) os).cell? ⟨b, off + k * 5 + 4, none⟩ = some (.bool false) := fun n os => bkeep (Grw.below ⟨n, os, rfl⟩) s4
              go_wp2_with fail
              refine wp_region_quiet_grown (by assumption) (by kernel_rfl) ?_
              repeat (go_big_quiet_step (first | fail | fail))
              refine wpQuiet_nil ?_
              intro _ hw'
              obtain ⟨⟨nq, osq⟩, hw''⟩ := hw'
              subst hw''
              have HG4 : Hid (Grw w (grow (w5.drewN nq) osq)) := HG3.out.trans ⟨nq, osq, rfl⟩
              clear v1 u1 v4 u4 t1 t4 s1 s4 HG3
              go_wp2
              go_roundw
              case rel => exact ⟨k + 1, true, by omega, by go_num, rfl, HB', HG4⟩
              case measure => simp [intOf]; omega
          · have hne : (id2 != id) = true := by simp [he]
            have HB' : Hid (recBg rs ⟨id, tm, ca, bt, st⟩ (k + 1) bg) := by
              refine ⟨fun j e hj hje hid => ?_, ⟨fun hbg => ?_, fun ⟨j, e, hj, hje, hid⟩ => ?_⟩⟩
              · by_cases hjk : j < k
                · exact HB.out.1 j e hjk hje hid
                · obtain rfl : j = k := by omega
                  rw [hy] at hje
                  cases hje
                  exact absurd hid he
              · obtain ⟨j, e, hj, hje, hid⟩ := HB.out.2.1 hbg
                exact ⟨j, e, by omega, hje, hid⟩
              · refine HB.out.2.2 ⟨j, e, ?_, hje, hid⟩
                by_cases hjk : j < k
                · exact hjk
                · obtain rfl : j = k := by omega
                  rw [hy] at hje
                  cases hje
                  exact absurd hid he
            clear HB HO RW hx hy
            go_wp2_with fail
            refine wp_region_quiet_grown (by assumption) (by kernel_rfl) ?_
            repeat (go_big_quiet_step (first | fail | fail))
            refine wpQuiet_nil ?_
            intro _ hw'
            obtain ⟨⟨nq, osq⟩, hw''⟩ := hw'
            subst hw''
            have t1 := y1 nq osq
            have t4 := y4 nq osq
            have s1 := z1 nq osq
            have s4 := z4 nq osq
            have HG3 : Hid (Grw w (grow (wr.drewN nq) osq)) := HG2.out.trans ⟨nq, osq, rfl⟩
            clear y0 y1 y4 z0 z1 z4 q0 q1 q2 q3 q4 p0 p1 p2 p3 p4 HG2
            generalize (grow (wr.drewN nq) osq) = w5 at t1 t4 s1 s4 HG3 ⊢
            clear t1 t4 s1 s4
            go_wp2
            go_roundw
            case rel => exact ⟨k + 1, bg, by omega, by go_num, rfl, HB', HG3⟩
            case measure => simp [intOf]; omega
        · obtain rfl : k = i := by omega
          obtain ⟨id, tm, ca, bt, st⟩ := x
          obtain ⟨rfl, -⟩ := hR
          have q0 : wr.cell? ⟨b, off + k * 5, none⟩ = some (.int .i64 id) := hc 0 _ rfl
          have q1 : wr.cell? ⟨b, off + k * 5 + 1, none⟩ = some (.int .i64 tm) := hc 1 _ rfl
          have q2 : wr.cell? ⟨b, off + k * 5 + 2, none⟩ = some (.int .i64 ca) := hc 2 _ rfl
          have q3 : wr.cell? ⟨b, off + k * 5 + 3, none⟩ = some (.int .i64 bt) := hc 3 _ rfl
          have q4 : wr.cell? ⟨b, off + k * 5 + 4, none⟩ = some (.bool st) := hc 4 _ rfl
          clear hc hvl
          have hkz : ¬ (k : Int) < (k : Int) := by omega
          by_cases hs : st = bg
          · have HO' : Hid (recOk rs (k + 1)) := recOk_step HO.out hx ⟨HB.out.1, by rw [← HB.out.2]; show st = true ↔ bg = true; rw [hs]⟩
            subst hs
            have hsn : (st != st) = false := by simp
            clear HB HO hx
            go_wp2
            exact ⟨⟨k + 1, by omega, by go_num, HO', HG2⟩, by simp [intOf]; omega⟩
          · have hd : Hid (recB rs = false) := recB_no hx (fun h => by
              have := h.2
              rw [← HB.out.2] at this
              apply hs
              cases st <;> cases bg <;> simp_all)
            have hsn : (st == bg) = false := by cases st <;> cases bg <;> simp_all
            clear HB HO hx hs
            go_wp2
            go_ret
            exact ⟨by rw [hd.out]; rfl, HG2.out⟩
    · obtain rfl : i = len := by omega
      have hd : Hid (recB rs = true) := recB_yes (by rw [hl]; exact HO.out)
      clear HO
      go_wp2
      go_ret
      exact ⟨by rw [hd.out]; rfl, HG.out⟩
set_option maxHeartbeats 1000000 in
theorem specRecordsHold_any (a : Option Addr) (len cap : Nat) (rs : List RecV) (w : World) (h : Rw ReR 5 w a rs) (hl : rs.length = len) (hm : len ≤ 4096) :
    Calls Try.prog 11 #[.slice a len cap] w fun e w' => e = .returned (.tuple #[.bool (recB rs), .int .i64 0]) ∧ Grw w w' := by
  have RW : Hid (Rw ReR 5 w a rs) := h
  have HA : Hid (∀ w, Rw ReR 5 w a rs → Calls Try.prog 25 #[.slice a len cap] w fun e w' => e = .returned (.bool (recB rs)) ∧ Grw w w') := fun w h => l08Records_any a len cap rs w h hl hm
  clear h
  have hz : (len : Int) ≤ 4096 := by omega
  generalize recB rs = z at HA ⊢
  go_enter Try.func11, Try.ntmps11
  go_wp2_with fail
  refine (HA.out _ RW.out).mono ?_
  rintro e w1 ⟨rfl, g1⟩
  go_wp2
  go_ret2
  exact ⟨rfl, g1⟩
theorem specRecordsHold_long (a : Option Addr) (len cap : Nat) (w : World) (hm : 4096 < len) :
    Calls Try.prog 11 #[.slice a len cap] w fun e w' => e = .returned (.tuple #[.bool false, .int .i64 2]) ∧ Grw w w' := by
  have hz : (4096 : Int) < (len : Int) := by omega
  go_enter Try.func11, Try.ntmps11
  go_wp2
  go_ret2
  exact ⟨rfl, Grw.refl _⟩
theorem implRecordsHold_long (a : Option Addr) (len cap : Nat) (w : World) (hm : 4096 < len) :
    Calls Try.prog 13 #[.slice a len cap] w fun e w' => e = .returned (.tuple #[.bool false, .int .i64 2]) ∧ Below w.heap.size w w' := by
  have hz : (4096 : Int) < (len : Int) := by omega
  go_enter Try.func13, Try.ntmps13
  go_wp2
  go_ret2
  exact ⟨rfl, Below.refl _ _⟩
theorem keyI : Keyed Try.prog 3 := int_keyed Try.underlying3
theorem zeroSpan (w : World) : (zeroValue 65).run Try.prog w = .ok (.agg #[.int .i64 0, .bool false]) w := by kernel_rfl
set_option maxHeartbeats 4000000 in
theorem implRecordsHold_any (a : Option Addr) (len cap : Nat) (rs : List RecV) (w : World) (h : Rw ReR 5 w a rs) (hl : rs.length = len) (hm : len ≤ 4096) :
    Calls Try.prog 13 #[.slice a len cap] w fun e w' => e = .returned (.tuple #[.bool (recB rs), .int .i64 0]) ∧ Below w.heap.size w w' := by
  have RW : Hid (Rw ReR 5 w a rs) := h
  clear h
  have hz : (len : Int) ≤ 4096 := by omega
  have hmm := @run_makeMap Try.prog
  go_enter Try.func13, Try.ntmps13
  go_wp2
  go_loopw [15] (fun x wr => ∃ k : Nat, k ≤ len ∧ x = .int .i64 k ∧ Hid (recOk rs k) ∧ Hid (wr.ownsMap Try.prog 3 (spanElem (H := Unit)) w.heap.size k (recD (rs.take k)) ∧ Below w.heap.size w wr)) (fun x _ => len - (intOf x).toNat)
  case atStart => exact ⟨0, Nat.zero_le _, rfl, recOk_zero rs, World.ownsMap_made w _ _ _, (Below.refl _ _).alloc (Nat.le_refl _) _⟩
  case round =>
    obtain ⟨k, hk, rfl, HO, HG⟩ := hrel
    by_cases hlt : k < len
    · obtain ⟨x, hx⟩ := at_of hl hlt
      have hltz : (k : Int) < (len : Int) := by omega
      obtain ⟨b, off, vs, rfl, hb, hvl, hR, hc⟩ := RW.out.at ReR.kp HG.out.2 hx
      obtain ⟨id, tm, ca, bt, st⟩ := x
      obtain ⟨rfl, hok⟩ := hR
      have q0 : wr.cell? ⟨b, off + k * 5, none⟩ = some (.int .i64 id) := hc 0 _ rfl
      have q1 : wr.cell? ⟨b, off + k * 5 + 1, none⟩ = some (.int .i64 tm) := hc 1 _ rfl
      have q2 : wr.cell? ⟨b, off + k * 5 + 2, none⟩ = some (.int .i64 ca) := hc 2 _ rfl
      have q3 : wr.cell? ⟨b, off + k * 5 + 3, none⟩ = some (.int .i64 bt) := hc 3 _ rfl
      have q4 : wr.cell? ⟨b, off + k * 5 + 4, none⟩ = some (.bool st) := hc 4 _ rfl
      have HD := recD_says (H := Unit) rs id k (by omega)
      have hwf : (Lit.int .i64 id).wf = true := hok.1
      obtain ⟨v, pl, hlook, hv⟩ := (HG.out.1.alloc (.cells #[.int .i64 id, .int .i64 tm, .int .i64 ca, .int .i64 bt, .bool st] 60)).look_ok keyI Try.underlying63 (zeroSpan _) (spanElem_mk (H := Unit) 0 false) (keyOf_int_mk Try.underlying3 hwf)
      clear hc hvl
      rcases HD with ⟨hh, hn⟩ | ⟨hh, f, hlast, hat⟩
      · rw [hh] at hlook
        rw [atKey_of_not_has hh] at hv
        obtain rfl := spanElem_inv hv
        have iff0 := none_says (r := ⟨id, tm, ca, bt, st⟩) hn
        clear hh hv hn
        cases st with
        | true =>
          have hd : Hid (recB rs = false) := recB_no hx (fun h => by have := iff0.1 h; cases this)
          clear iff0
          have HB2 : Hid (Below w.heap.size w ((wr.alloc (.cells #[.int .i64 id, .int .i64 tm, .int .i64 ca, .int .i64 bt, .bool true] 60)).alloc (.cells #[.int .i64 0, .bool false] 65))) := (HG.out.2.alloc HG.out.2.size _).alloc (by have := HG.out.2.size; simp; omega) _
          clear HO HG RW hx
          go_wp2
          go_ret2
          exact ⟨by rw [hd.out]; rfl, HB2.out⟩
        | false =>
          have HO' : Hid (recOk rs (k + 1)) := recOk_step HO.out hx (iff0.2 rfl)
          clear iff0
          obtain ⟨w7, hupd, o7, g7⟩ := ((HG.out.1.alloc (.cells #[.int .i64 id, .int .i64 tm, .int .i64 ca, .int .i64 bt, .bool false] 60)).alloc (.cells #[.int .i64 0, .bool false] 65)).update keyI Try.underlying63 (by unfold maxLen; omega) (key := .int .i64 id) (val := .agg #[.int .i64 tm, .bool false]) (keyOf_int_mk Try.underlying3 hwf) (spanElem_mk (H := Unit) tm false)
          have HG7 : Hid (w7.ownsMap Try.prog 3 (spanElem (H := Unit)) w.heap.size (k + 1) (recD (rs.take (k + 1))) ∧ Below w.heap.size w w7) := by
            refine ⟨by rw [recD_take hx]; exact o7, ?_⟩
            have b2 : Below w.heap.size w ((wr.alloc (.cells #[.int .i64 id, .int .i64 tm, .int .i64 ca, .int .i64 bt, .bool false] 60)).alloc (.cells #[.int .i64 0, .bool false] 65)) := (HG.out.2.alloc HG.out.2.size _).alloc (by have := HG.out.2.size; simp; omega) _
            exact b2.grown g7 b2.size (fun k hk => by cases hk; exact Nat.le_refl _)
          clear o7 g7
          clear HO HG RW hx
          go_wp2
          go_roundw
          case rel => exact ⟨k + 1, by omega, by go_num, HO', HG7⟩
          case measure => simp [intOf]; omega
      · rw [hh] at hlook
        rw [hat] at hv
        obtain ⟨fid, ft, fca, fb, fs⟩ := f
        obtain rfl := spanElem_inv (a := ft) (b := fs) hv
        have iff0 := last_says (r := ⟨id, tm, ca, bt, st⟩) HO.out hx hlast
        clear hh hv hat hlast
        cases st with
        | false =>
          have hd : Hid (recB rs = false) := recB_no hx (fun h => by have := (iff0.1 h).2.1; cases this)
          clear iff0
          have HB2 : Hid (Below w.heap.size w ((wr.alloc (.cells #[.int .i64 id, .int .i64 tm, .int .i64 ca, .int .i64 bt, .bool false] 60)).alloc (.cells #[.int .i64 ft, .bool fs] 65))) := (HG.out.2.alloc HG.out.2.size _).alloc (by have := HG.out.2.size; simp; omega) _
          clear HO HG RW hx
          go_wp2
          go_ret2
          exact ⟨by rw [hd.out]; rfl, HB2.out⟩
        | true =>
          cases fs with
          | true =>
            have hd : Hid (recB rs = false) := recB_no hx (fun h => by have := (iff0.1 h).1; cases this)
            clear iff0
            have HB2 : Hid (Below w.heap.size w ((wr.alloc (.cells #[.int .i64 id, .int .i64 tm, .int .i64 ca, .int .i64 bt, .bool true] 60)).alloc (.cells #[.int .i64 ft, .bool true] 65))) := (HG.out.2.alloc HG.out.2.size _).alloc (by have := HG.out.2.size; simp; omega) _
            clear HO HG RW hx
            go_wp2
            go_ret2
            exact ⟨by rw [hd.out]; rfl, HB2.out⟩
          | false =>
            by_cases hlt2 : tm < ft
            · have hd : Hid (recB rs = false) := recB_no hx (fun h => by have := (iff0.1 h).2.2; dsimp only at this; omega)
              clear iff0
              have HB2 : Hid (Below w.heap.size w ((wr.alloc (.cells #[.int .i64 id, .int .i64 tm, .int .i64 ca, .int .i64 bt, .bool true] 60)).alloc (.cells #[.int .i64 ft, .bool false] 65))) := (HG.out.2.alloc HG.out.2.size _).alloc (by have := HG.out.2.size; simp; omega) _
              clear HO HG RW hx
              go_wp2
              go_ret2
              exact ⟨by rw [hd.out]; rfl, HB2.out⟩
            · have HO' : Hid (recOk rs (k + 1)) := recOk_step HO.out hx (iff0.2 ⟨rfl, rfl, by dsimp only; omega⟩)
              clear iff0
              obtain ⟨w7, hupd, o7, g7⟩ := ((HG.out.1.alloc (.cells #[.int .i64 id, .int .i64 tm, .int .i64 ca, .int .i64 bt, .bool true] 60)).alloc (.cells #[.int .i64 ft, .bool false] 65)).update keyI Try.underlying63 (by unfold maxLen; omega) (key := .int .i64 id) (val := .agg #[.int .i64 tm, .bool true]) (keyOf_int_mk Try.underlying3 hwf) (spanElem_mk (H := Unit) tm true)
              have HG7 : Hid (w7.ownsMap Try.prog 3 (spanElem (H := Unit)) w.heap.size (k + 1) (recD (rs.take (k + 1))) ∧ Below w.heap.size w w7) := by
                refine ⟨by rw [recD_take hx]; exact o7, ?_⟩
                have b2 : Below w.heap.size w ((wr.alloc (.cells #[.int .i64 id, .int .i64 tm, .int .i64 ca, .int .i64 bt, .bool true] 60)).alloc (.cells #[.int .i64 ft, .bool false] 65)) := (HG.out.2.alloc HG.out.2.size _).alloc (by have := HG.out.2.size; simp; omega) _
                exact b2.grown g7 b2.size (fun k hk => by cases hk; exact Nat.le_refl _)
              clear o7 g7
              clear HO HG RW hx
              go_wp2
              go_roundw
              case rel => exact ⟨k + 1, by omega, by go_num, HO', HG7⟩
              case measure => simp [intOf]; omega
    · obtain rfl : k = len := by omega
      have hd : Hid (recB rs = true) := recB_yes (by rw [hl]; exact HO.out)
      clear HO
      go_wp2
      go_ret2
      exact ⟨by rw [hd.out]; rfl, HG.out.2⟩
end Go.Proofs.Ytimhkeebgogfoac
