/- The model's l05Timers. -/
import Derived.Test.YtbbjelkicenbhaaTimK
namespace Go.Proofs.Ytbbjelkicenbhaa
open Go.RowKit Go.PlainAid Go.Sort
set_option linter.unusedVariables false
set_option maxRecDepth 20000

set_option maxHeartbeats 4000000 in
theorem l05Timers_any (a : Option Addr) (len cap : Nat) (zs : List (Int × Int)) (w : World) (h : Prs w a zs) (hl : zs.length = len) (hc : len ≤ 4096) :
    Calls Try.prog 51 #[.slice a len cap] w fun e w' => e = .returned (.bool (tmB zs)) ∧ Grw w w' := by
  have HT : Hid (tmB zs = dec (goodTo zs len ∧ len ≤ 20)) := by show _ = _; unfold tmB; rw [hl]
  have H : Hid (Prs w a zs) := h
  clear h
  have HN : Hid (∀ i, i < len → ¬ goodI zs i → tmB zs = false) := fun i hi hh => by rw [HT.out]; exact dec_n (fun h => hh (h.1 i hi))
  go_enter Try.func51, Try.ntmps51
  go_wp2
  go_loopw [3] (fun i wr => ∃ k : Nat, k ≤ len ∧ i = .int .i64 k ∧ Hid (goodTo zs k) ∧ Hid (Grw w wr)) (fun i _ => len - (intOf i).toNat)
  case atStart => exact ⟨0, Nat.zero_le _, rfl, goodTo_zero zs, Grw.refl w⟩
  case round =>
    obtain ⟨k, hk, rfl, HP, HG⟩ := hrel
    by_cases hlt : k < len
    · obtain ⟨b, off, rfl, hb, p0, p1⟩ := H.out.cells HG.out.below (k := k) (by omega)
      have H1 : Hid (∀ w, Calls Try.prog 44 #[.int .i64 (zs.getD k (0, 0)).1, .int .i64 0, .int .i64 1000000] w fun e w' => e = .returned (.bool (dec (0 ≤ (zs.getD k (0, 0)).1 ∧ (zs.getD k (0, 0)).1 ≤ 1000000))) ∧ w' = w) := fun w => specIn_any _ _ _ w
      have H2 : Hid (∀ w, Calls Try.prog 44 #[.int .i64 (zs.getD k (0, 0)).2, .int .i64 0, .int .i64 1000000] w fun e w' => e = .returned (.bool (dec (0 ≤ (zs.getD k (0, 0)).2 ∧ (zs.getD k (0, 0)).2 ≤ 1000000))) ∧ w' = w) := fun w => specIn_any _ _ _ w
      have hltz : (k : Int) < (len : Int) := by omega
      by_cases ha : 0 ≤ (zs.getD k (0, 0)).1 ∧ (zs.getD k (0, 0)).1 ≤ 1000000
      · rw [dec_y ha] at H1
        by_cases hi : 0 ≤ (zs.getD k (0, 0)).2 ∧ (zs.getD k (0, 0)).2 ≤ 1000000
        · rw [dec_y hi] at H2
          have HOK : Hid (okT (zs.getD k (0, 0))) := ⟨ha.1, ha.2, hi.1, hi.2⟩
          obtain ⟨x0, e0⟩ : ∃ x0, x0 = (zs.getD k (0, 0)).1 := ⟨_, rfl⟩
          obtain ⟨x1, e1⟩ : ∃ x1, x1 = (zs.getD k (0, 0)).2 := ⟨_, rfl⟩
          rw [← e0] at p0 H1
          rw [← e1] at p1 H2
          have X0 : Hid (x0 = (zs.getD k (0, 0)).1) := e0
          have X1 : Hid (x1 = (zs.getD k (0, 0)).2) := e1
          clear e0 e1 ha hi
          go_wp2_with fail
          refine (H1.out _).mono ?_
          rintro e w1 ⟨rfl, hw⟩
          subst hw
          go_wp2_with fail
          refine (H2.out _).mono ?_
          rintro e w2 ⟨rfl, hw⟩
          subst hw
          clear H1 H2
          by_cases hk0 : k = 0
          · have HL : Hid (0 < k → ltT (zs.getD (k - 1) (0, 0)) (zs.getD k (0, 0))) := fun h => absurd h (by omega)
            have hz : decide (0 < (k : Int)) = false := by simp; omega
            go_wp2_with fail
            go_big_quiet (fail)
            have HG3 : Hid (Grw w (w2.drewN nq)) := HG.out.trans ⟨nq, #[], by rw [grow_empty]⟩
            generalize hW : w2.drewN nq = W at HG3
            have r1 : W.cell? ⟨b, off + k * 2 + 1, none⟩ = some (.int .i64 x1) := by rw [← hW]; exact p1
            clear hW HG p0 p1 
            go_wp2
            go_loopw [4] (fun i wr => ∃ m : Nat, m ≤ k ∧ i = .int .i64 m ∧ Hid (∀ j, j < m → (zs.getD j (0, 0)).2 ≠ x1) ∧ Hid (Grw w wr ∧ wr.cell? ⟨b, off + k * 2 + 1, none⟩ = some (.int .i64 x1))) (fun i _ => k - (intOf i).toNat)
            case atStart => exact ⟨0, Nat.zero_le _, rfl, fun j hj => absurd hj (by omega), HG3.out, r1⟩
            case round =>
              obtain ⟨m, hm, rfl, HD, HW⟩ := hrel
              by_cases hmK : m < k
              · exact absurd hmK (by omega)
              · have HGD : Hid (goodTo zs (k + 1)) := goodTo_succ HP.out ⟨HOK.out, HL.out, fun j hj => by rw [← X1.out]; exact HD.out j (by omega)⟩
                have HG5 : Hid (Grw w wr) := HW.out.1
                clear HW HD HL HOK
                go_wp2
                go_roundw
                case rel => exact ⟨k + 1, by omega, by go_num, HGD, HG5⟩
                case measure => simp [intOf]; omega
          · obtain ⟨j, hj⟩ : ∃ j, k = j + 1 := ⟨k - 1, by omega⟩
            obtain ⟨b8, off8, e8, hb8, s0, s1⟩ := H.out.cells HG.out.below (k := j) (by omega)
            cases e8
            have hz1 : (0 : Int) < (k : Int) := by omega
            have hzn : 0 < k := by omega
            have hkj : (k : Int) - 1 = (j : Int) := by omega
            have hjl : (j : Int) < (len : Int) := by omega
            have hwj : IntKind.i64.wrap (j : Int) = (j : Int) := by rw [IntKind.wrap_i64]; omega
            obtain ⟨y0, e0⟩ : ∃ y0, y0 = (zs.getD j (0, 0)).1 := ⟨_, rfl⟩
            obtain ⟨y1, e1⟩ : ∃ y1, y1 = (zs.getD j (0, 0)).2 := ⟨_, rfl⟩
            rw [← e0] at s0
            rw [← e1] at s1
            have Y0 : Hid (y0 = (zs.getD j (0, 0)).1) := e0
            have Y1 : Hid (y1 = (zs.getD j (0, 0)).2) := e1
            have KJ : Hid (k - 1 = j) := by show _ = _; omega
            clear e0 e1 hj
            by_cases hgt : x0 < y0
            · have HF : Hid (tmB zs = false) := HN.out k hlt (fun h => absurd (h.2.1 (by omega)) (by rw [KJ.out]; unfold ltT; rw [← Y0.out, ← Y1.out, ← X0.out, ← X1.out]; omega))
              skip
              go_wp2_with fail
              go_big_quiet (fail)
              have HG3 : Hid (Grw w (w2.drewN nq)) := HG.out.trans ⟨nq, #[], by rw [grow_empty]⟩
              clear HG p0 p1 s0 s1
              go_wp2
              go_ret
              exact ⟨by rw [HF.out]; rfl, HG3.out⟩
            · have hgt2 : decide (x0 < y0) = false := decide_eq_false hgt
              by_cases heq : y0 = x0
              · have hq : (y0 == x0) = true := by simp [heq]
                by_cases hge : x1 ≤ y1
                · have HF : Hid (tmB zs = false) := HN.out k hlt (fun h => absurd (h.2.1 (by omega)) (by rw [KJ.out]; unfold ltT; rw [← Y0.out, ← Y1.out, ← X0.out, ← X1.out]; omega))
                  clear heq
                  go_wp2_with fail
                  go_big_quiet (fail)
                  have HG3 : Hid (Grw w (w2.drewN nq)) := HG.out.trans ⟨nq, #[], by rw [grow_empty]⟩
                  clear HG p0 p1 s0 s1
                  go_wp2
                  go_ret
                  exact ⟨by rw [HF.out]; rfl, HG3.out⟩
                · have HL : Hid (0 < k → ltT (zs.getD (k - 1) (0, 0)) (zs.getD k (0, 0))) := fun _ => by
                    rw [KJ.out]
                    exact Or.inr ⟨by rw [← Y0.out, ← X0.out]; exact heq, by rw [← Y1.out, ← X1.out]; omega⟩
                  have hge2 : decide (x1 ≤ y1) = false := decide_eq_false hge
                  clear heq
                  go_wp2_with fail
                  go_big_quiet (fail)
                  have HG3 : Hid (Grw w (w2.drewN nq)) := HG.out.trans ⟨nq, #[], by rw [grow_empty]⟩
                  generalize hW : w2.drewN nq = W at HG3
                  have r1 : W.cell? ⟨b, off + k * 2 + 1, none⟩ = some (.int .i64 x1) := by rw [← hW]; exact p1
                  clear hW HG p0 p1 s0 s1 Y0 Y1 KJ
                  go_wp2
                  go_loopw [4] (fun i wr => ∃ m : Nat, m ≤ k ∧ i = .int .i64 m ∧ Hid (∀ j, j < m → (zs.getD j (0, 0)).2 ≠ x1) ∧ Hid (Grw w wr ∧ wr.cell? ⟨b, off + k * 2 + 1, none⟩ = some (.int .i64 x1))) (fun i _ => k - (intOf i).toNat)
                  case atStart => exact ⟨0, Nat.zero_le _, rfl, fun j hj => absurd hj (by omega), HG3.out, r1⟩
                  case round =>
                    obtain ⟨m, hm, rfl, HD, HW⟩ := hrel
                    by_cases hmK : m < k
                    · obtain ⟨b9, off9, e9, hb9, s0, s1⟩ := H.out.cells HW.out.1.below (k := m) (by omega)
                      cases e9
                      have t1 := HW.out.2
                      obtain ⟨z1, ez⟩ : ∃ z1, z1 = (zs.getD m (0, 0)).2 := ⟨_, rfl⟩
                      rw [← ez] at s1
                      have Z1 : Hid (z1 = (zs.getD m (0, 0)).2) := ez
                      have hmz : (m : Int) < (k : Int) := by omega
                      have hml : (m : Int) < (len : Int) := by omega
                      clear ez s0
                      by_cases he : z1 = x1
                      · have HF : Hid (tmB zs = false) := HN.out k hlt (fun h => h.2.2 m hmK (by rw [← Z1.out, ← X1.out]; exact he))
                        have hq : (z1 == x1) = true := by simp [he]
                        clear he
                        go_wp2
                        go_big_quiet (fail)
                        have HG4 : Hid (Grw w (wr.drewN nq)) := HW.out.1.trans ⟨nq, #[], by rw [grow_empty]⟩
                        clear s1 t1 HW
                        go_wp2
                        go_ret
                        exact ⟨by rw [HF.out]; rfl, HG4.out⟩
                      · have HF : Hid (∀ j, j < m + 1 → (zs.getD j (0, 0)).2 ≠ x1) := fun j hj => by
                          by_cases e : j < m
                          · exact HD.out j e
                          · rw [show j = m by omega, ← Z1.out]; exact he
                        have hq : (z1 == x1) = false := by simp [he]
                        clear he
                        go_wp2
                        go_big_quiet (fail)
                        have HG4 : Hid (Grw w (wr.drewN nq) ∧ (wr.drewN nq).cell? ⟨b, off + k * 2 + 1, none⟩ = some (.int .i64 x1)) := ⟨HW.out.1.trans ⟨nq, #[], by rw [grow_empty]⟩, t1⟩
                        clear s1 t1 HW
                        go_wp2
                        go_roundw
                        case rel => exact ⟨m + 1, by omega, by go_num, HF, HG4⟩
                        case measure => simp [intOf]; omega
                    · have HGD : Hid (goodTo zs (k + 1)) := goodTo_succ HP.out ⟨HOK.out, HL.out, fun j hj => by rw [← X1.out]; exact HD.out j (by omega)⟩
                      have HG5 : Hid (Grw w wr) := HW.out.1
                      clear HW HD HL HOK
                      go_wp2
                      go_roundw
                      case rel => exact ⟨k + 1, by omega, by go_num, HGD, HG5⟩
                      case measure => simp [intOf]; omega
              · have hq : (y0 == x0) = false := by simp [heq]
                have HL : Hid (0 < k → ltT (zs.getD (k - 1) (0, 0)) (zs.getD k (0, 0))) := fun _ => by
                  rw [KJ.out]
                  exact Or.inl (by rw [← Y0.out, ← X0.out]; omega)
                clear heq
                go_wp2_with fail
                go_big_quiet (fail)
                have HG3 : Hid (Grw w (w2.drewN nq)) := HG.out.trans ⟨nq, #[], by rw [grow_empty]⟩
                generalize hW : w2.drewN nq = W at HG3
                have r1 : W.cell? ⟨b, off + k * 2 + 1, none⟩ = some (.int .i64 x1) := by rw [← hW]; exact p1
                clear hW HG p0 p1 s0 s1 Y0 Y1 KJ
                go_wp2
                go_loopw [4] (fun i wr => ∃ m : Nat, m ≤ k ∧ i = .int .i64 m ∧ Hid (∀ j, j < m → (zs.getD j (0, 0)).2 ≠ x1) ∧ Hid (Grw w wr ∧ wr.cell? ⟨b, off + k * 2 + 1, none⟩ = some (.int .i64 x1))) (fun i _ => k - (intOf i).toNat)
                case atStart => exact ⟨0, Nat.zero_le _, rfl, fun j hj => absurd hj (by omega), HG3.out, r1⟩
                case round =>
                  obtain ⟨m, hm, rfl, HD, HW⟩ := hrel
                  by_cases hmK : m < k
                  · obtain ⟨b9, off9, e9, hb9, s0, s1⟩ := H.out.cells HW.out.1.below (k := m) (by omega)
                    cases e9
                    have t1 := HW.out.2
                    obtain ⟨z1, ez⟩ : ∃ z1, z1 = (zs.getD m (0, 0)).2 := ⟨_, rfl⟩
                    rw [← ez] at s1
                    have Z1 : Hid (z1 = (zs.getD m (0, 0)).2) := ez
                    have hmz : (m : Int) < (k : Int) := by omega
                    have hml : (m : Int) < (len : Int) := by omega
                    clear ez s0
                    by_cases he : z1 = x1
                    · have HF : Hid (tmB zs = false) := HN.out k hlt (fun h => h.2.2 m hmK (by rw [← Z1.out, ← X1.out]; exact he))
                      have hq : (z1 == x1) = true := by simp [he]
                      clear he
                      go_wp2
                      go_big_quiet (fail)
                      have HG4 : Hid (Grw w (wr.drewN nq)) := HW.out.1.trans ⟨nq, #[], by rw [grow_empty]⟩
                      clear s1 t1 HW
                      go_wp2
                      go_ret
                      exact ⟨by rw [HF.out]; rfl, HG4.out⟩
                    · have HF : Hid (∀ j, j < m + 1 → (zs.getD j (0, 0)).2 ≠ x1) := fun j hj => by
                        by_cases e : j < m
                        · exact HD.out j e
                        · rw [show j = m by omega, ← Z1.out]; exact he
                      have hq : (z1 == x1) = false := by simp [he]
                      clear he
                      go_wp2
                      go_big_quiet (fail)
                      have HG4 : Hid (Grw w (wr.drewN nq) ∧ (wr.drewN nq).cell? ⟨b, off + k * 2 + 1, none⟩ = some (.int .i64 x1)) := ⟨HW.out.1.trans ⟨nq, #[], by rw [grow_empty]⟩, t1⟩
                      clear s1 t1 HW
                      go_wp2
                      go_roundw
                      case rel => exact ⟨m + 1, by omega, by go_num, HF, HG4⟩
                      case measure => simp [intOf]; omega
                  · have HGD : Hid (goodTo zs (k + 1)) := goodTo_succ HP.out ⟨HOK.out, HL.out, fun j hj => by rw [← X1.out]; exact HD.out j (by omega)⟩
                    have HG5 : Hid (Grw w wr) := HW.out.1
                    clear HW HD HL HOK
                    go_wp2
                    go_roundw
                    case rel => exact ⟨k + 1, by omega, by go_num, HGD, HG5⟩
                    case measure => simp [intOf]; omega
        · rw [dec_n hi] at H2
          have HF : Hid (tmB zs = false) := HN.out k hlt (fun h => hi ⟨h.1.2.2.1, h.1.2.2.2⟩)
          generalize (zs.getD k (0, 0)).1 = x0 at p0 H1
          generalize (zs.getD k (0, 0)).2 = x1 at p1 H2
          clear ha hi
          go_wp2_with fail
          refine (H1.out _).mono ?_
          rintro e w1 ⟨rfl, hw⟩
          subst hw
          go_wp2_with fail
          refine (H2.out _).mono ?_
          rintro e w2 ⟨rfl, hw⟩
          subst hw
          go_wp2
          go_ret
          exact ⟨by rw [HF.out]; rfl, HG.out⟩
      · rw [dec_n ha] at H1
        have HF : Hid (tmB zs = false) := HN.out k hlt (fun h => ha ⟨h.1.1, h.1.2.1⟩)
        generalize (zs.getD k (0, 0)).1 = x0 at p0 H1
        generalize (zs.getD k (0, 0)).2 = x1 at p1 H2
        clear ha
        go_wp2_with fail
        refine (H1.out _).mono ?_
        rintro e w1 ⟨rfl, hw⟩
        subst hw
        go_wp2
        go_ret
        exact ⟨by rw [HF.out]; rfl, HG.out⟩
    · obtain rfl : k = len := by omega
      by_cases h20 : k ≤ 20
      · have hd : Hid (tmB zs = true) := by show _ = _; rw [HT.out]; exact dec_y ⟨HP.out, h20⟩
        have h20z : decide ((k : Int) ≤ 20) = true := by simp; omega
        go_wp2
        go_ret
        exact ⟨by rw [hd.out]; rfl, HG.out⟩
      · have hd : Hid (tmB zs = false) := by show _ = _; rw [HT.out]; exact dec_n (fun h => h20 h.2)
        have h20z : decide ((k : Int) ≤ 20) = false := by simp; omega
        go_wp2
        go_ret
        exact ⟨by rw [hd.out]; rfl, HG.out⟩
end Go.Proofs.Ytbbjelkicenbhaa
