/- The program's rolePlace, userOK, usersOK. -/
import Derived.Test.YtlebblmlbhnppaaGreatGokF
import Derived.Laws.Cover1
import Derived.Shelf.SlicesQ.IndexFunc
namespace Go.Proofs.YtlebblmlbhnppaaGreat
open Go.Shelf Go.Lib Go.Proofs Go.RowKit Go.PlainAid Go.Proofs.YtlebblmlbhnppaaGreat.Bt Go.Sort
set_option linter.unusedVariables false
set_option maxRecDepth 20000

theorem rolePlace1_any (nm nm2 : ByteArray) (ra : Option Addr) (rl2 rc2 : Nat) (rq rm ri : Int) (B : Nat) (w : World) (hc : w.cell? ⟨B, 0, none⟩ = some (.string nm2)) :
    Calls Tryz.prog 227 #[.agg #[.string nm, .slice ra rl2 rc2, .int .i64 rq, .int .i64 rm, .int .i64 ri], .pointer (some ⟨B, 0, none⟩)] w fun e w' => e = .returned (.bool (nm.toList == nm2.toList)) ∧ Grw w w' := by
  have hB : B < w.heap.size := World.block_lt_of_cell? w _ hc
  have hc2 := acell hc (.cells #[.string nm, .slice ra rl2 rc2, .int .i64 rq, .int .i64 rm, .int .i64 ri] 141)
  obtain ⟨u, hu⟩ : ∃ u, (nm.toList == nm2.toList) = u := ⟨_, rfl⟩
  rw [hu]
  go_enter Tryz.func227, Tryz.ntmps227
  go_wp2
  go_ret
  exact ⟨by first | rfl | (rw [hu]; rfl), (Grw.refl _).alloc _⟩
set_option maxHeartbeats 2000000 in
theorem idxRole_any (y : Option Addr) (n c : Nat) (ros : List RoleV) (nm2 : ByteArray) (B : Nat) (w : World) (h : Rw (RoR 0) 5 w y ros) (hl : ros.length = n) (hn : n ≤ 1048576) (hcl : w.cell? ⟨B, 0, none⟩ = some (.string nm2)) :
    Calls Tryz.prog 226 #[.slice y n c, .func (.func 227) #[] #[.pointer (some ⟨B, 0, none⟩)]] w fun e w' => e = .returned (.int .i64 (roI ros nm2)) ∧ Grw w w' := by
  have RY : Hid (Rw (RoR 0) 5 w y ros) := h
  clear h
  have HCL : Hid (w.cell? ⟨B, 0, none⟩ = some (.string nm2)) := hcl
  clear hcl
  have eg : ∀ args w, (callFunc 227 args).run Tryz.prog w = .ok (.enter 227 args) w := enters_of Tryz.func227 (by kernel_rfl) rfl
  go_enter Tryz.func226, Tryz.ntmps226
  go_wp2
  go_loopw [8] (fun u wr => ∃ k : Nat, k ≤ n ∧ u = .int .i64 k ∧ Hid ((ros.take k).find? (rfP nm2) = none) ∧ Hid (Grw w wr)) (fun u _ => n - (intOf u).toNat)
  case atStart => exact ⟨0, Nat.zero_le _, rfl, rfl, Grw.refl _⟩
  case round =>
    obtain ⟨k, hk, rfl, HO, HG⟩ := hrel
    by_cases hlt : k < n
    · obtain ⟨z, hx⟩ := at_of hl hlt
      obtain ⟨bk, off, vs, rfl, hb, hvl, hR, hc⟩ := RY.out.at (RoR.kp 0) HG.out.below hx
      have HY : Hid (rfP nm2 z = true → roI ros nm2 = k) := fun h => by unfold roI; rw [bfind_yes hx HO.out h, bfind_at hx HO.out h]
      have HN : Hid (rfP nm2 z = false → (ros.take (k + 1)).find? (rfP nm2) = none) := fun h => bfind_no hx HO.out h
      obtain ⟨nm, rrs, rq, rm, ri⟩ := z
      obtain ⟨ra, rc2, rfl, -⟩ := hR
      have q0 : wr.cell? ⟨bk, off + k * 5, none⟩ = some (.string nm) := hc 0 _ rfl
      have q1 : wr.cell? ⟨bk, off + k * 5 + 1, none⟩ = some (.slice ra rrs.length rc2) := hc 1 _ rfl
      have q2 : wr.cell? ⟨bk, off + k * 5 + 2, none⟩ = some (.int .i64 rq) := hc 2 _ rfl
      have q3 : wr.cell? ⟨bk, off + k * 5 + 3, none⟩ = some (.int .i64 rm) := hc 3 _ rfl
      have q4 : wr.cell? ⟨bk, off + k * 5 + 4, none⟩ = some (.int .i64 ri) := hc 4 _ rfl
      have hltz : (k : Int) < (n : Int) := by omega
      have he : rfP nm2 ⟨nm, rrs, rq, rm, ri⟩ = (nm.toList == nm2.toList) := rfl
      rw [he] at HY HN
      have HP : Hid (∀ W, Grw w W → Calls Tryz.prog 227 #[.agg #[.string nm, .slice ra rrs.length rc2, .int .i64 rq, .int .i64 rm, .int .i64 ri], .pointer (some ⟨B, 0, none⟩)] W fun e w' => e = .returned (.bool (nm.toList == nm2.toList)) ∧ Grw W w') := fun W g => rolePlace1_any nm nm2 ra rrs.length rc2 rq rm ri B W (g.keep HCL.out)
      generalize (nm.toList == nm2.toList) = u at HY HN HP
      clear hc hvl he hx
      cases u with
      | false =>
        have HN' : Hid ((ros.take (k + 1)).find? (rfP nm2) = none) := HN.out rfl
        clear HY HN
        go_wp2_with (go_at_fn 227; refine (HP.out _ HG.out).mono ?_; rintro e w' ⟨rfl, g1⟩)
        have HG1 : Hid (Grw w _) := HG.out.trans g1
        clear g1 HG
        go_roundw
        case rel => exact ⟨k + 1, by omega, by go_num, HN', HG1⟩
        case measure => simp [intOf]; omega
      | true =>
        have HY' : Hid (roI ros nm2 = k) := HY.out rfl
        clear HY HN
        go_wp2_with (go_at_fn 227; refine (HP.out _ HG.out).mono ?_; rintro e w' ⟨rfl, g1⟩)
        go_ret
        exact ⟨by rw [HY'.out]; rfl, HG.out.trans g1⟩
    · obtain rfl : k = n := by omega
      have hd : Hid (roI ros nm2 = -1) := by show roI ros nm2 = -1; unfold roI; rw [bfind_end hl HO.out]
      go_wp2
      go_ret
      exact ⟨by rw [hd.out]; rfl, HG.out⟩
set_option maxHeartbeats 1000000 in
theorem rolePlace_any (ip b gt : Int) (gm wm : ByteArray) (rs : Int) (x y : Option Addr) (lenx capx leny capy : Nat) (ros : List RoleV) (nm2 : ByteArray) (w : World) (h : Rw (RoR 0) 5 w y ros) (hl : ros.length = leny) (hl9 : leny ≤ 1048576) :
    Calls Tryz.prog 173 #[.agg #[.int .i64 ip, .int .i64 b, .int .i64 gt, .string gm, .string wm, .int .i64 rs, .slice x lenx capx, .slice y leny capy], .string nm2] w fun e w' => e = .returned (.int .i64 (roI ros nm2)) ∧ Grw w w' := by
  have RY : Hid (Rw (RoR 0) 5 w y ros) := h
  have HX : Hid (∀ W B, Grw w W → W.cell? ⟨B, 0, none⟩ = some (.string nm2) → Calls Tryz.prog 226 #[.slice y leny capy, .func (.func 227) #[] #[.pointer (some ⟨B, 0, none⟩)]] W fun e w' => e = .returned (.int .i64 (roI ros nm2)) ∧ Grw W w') := fun W B g hc => idxRole_any y leny capy ros nm2 B W (RY.out.keep (RoR.kp 0) g.below) hl hl9 hc
  clear h
  generalize roI ros nm2 = r at HX ⊢
  go_enter Tryz.func173, Tryz.ntmps173
  go_wp2_with (go_at_call 226; refine (HX.out _ _ (((Grw.refl w).alloc _).alloc _) (by simp [go_sem])).mono ?_; rintro e w' ⟨rfl, g1⟩)
  go_ret
  exact ⟨rfl, (((Grw.refl w).alloc _).alloc _).trans g1⟩
set_option maxHeartbeats 2000000 in
theorem userOK_any (ip b gt : Int) (gm wm : ByteArray) (rs : Int) (x y : Option Addr) (lenx capx leny capy : Nat) (ros : List RoleV) (nm : ByteArray) (sa : ByteArray) (ha : ByteArray) (ro : ByteArray) (bl : Int) (lg : Int) (w : World) (h : Rw (RoR 0) 5 w y ros) (hl : ros.length = leny) (hl9 : leny ≤ 1048576) (hsz : nm.size ≤ 1048576 ∧ sa.size ≤ 1048576 ∧ ha.size ≤ 1048576 ∧ ro.size ≤ 1048576) :
    Calls Tryz.prog 188 #[.agg #[.int .i64 ip, .int .i64 b, .int .i64 gt, .string gm, .string wm, .int .i64 rs, .slice x lenx capx, .slice y leny capy], .agg #[.string nm, .string sa, .string ha, .string ro, .int .i64 bl, .int .i64 lg]] w fun e w' => e = .returned (.bool (uB ros ⟨nm, sa, ha, ro, bl, lg⟩)) ∧ Grw w w' := by
  have RY : Hid (Rw (RoR 0) 5 w y ros) := h
  have HN : Hid (∀ w, Calls Tryz.prog 236 #[.string nm] w fun e w' => e = .returned (.bool (snB nm)) ∧ w' = w) := fun w => shortNameOK_any nm w hsz.1
  have HR : Hid (∀ w, Rw (RoR 0) 5 w y ros → Calls Tryz.prog 173 #[.agg #[.int .i64 ip, .int .i64 b, .int .i64 gt, .string gm, .string wm, .int .i64 rs, .slice x lenx capx, .slice y leny capy], .string ro] w fun e w' => e = .returned (.int .i64 (roI ros ro)) ∧ Grw w w') := fun w h => rolePlace_any ip b gt gm wm rs x y lenx capx leny capy ros ro w h hl hl9
  have HK : Hid (∀ w, Calls Tryz.prog 237 #[.int .i64 bl, .int .i64 lg] w fun e w' => e = .returned (.bool (dec (0 ≤ bl ∧ bl ≤ 1000000) && dec (0 ≤ lg ∧ lg ≤ 1000))) ∧ w' = w) := fun w => creditOK_any bl lg w
  have eu : uB ros ⟨nm, sa, ha, ro, bl, lg⟩ = (snB nm && (dec (sa.size ≤ 40) && (dec (ha.size = 32) && (roH ros ro && (dec (0 ≤ bl ∧ bl ≤ 1000000) && dec (0 ≤ lg ∧ lg ≤ 1000)))))) := rfl
  rw [eu]
  have hss : (sa.size : Int) ≤ 1048576 := by omega
  have hhs : (ha.size : Int) ≤ 1048576 := by omega
  clear h eu
  obtain ⟨q4, hq4⟩ : ∃ q, roH ros ro = q := ⟨_, rfl⟩
  obtain ⟨r, hr⟩ : ∃ r, roI ros ro = r := ⟨_, rfl⟩
  have hrr : (q4 = false ∧ decide (0 ≤ r) = false) ∨ (q4 = true ∧ decide (0 ≤ r) = true) := by
    rw [← hq4, ← hr]
    unfold roH roI
    cases ros.find? (rfP ro) with
    | none => left; exact ⟨rfl, by simp⟩
    | some v => right; exact ⟨rfl, by first | (simp; done) | (simp; omega)⟩
  rw [hq4]
  rw [hr] at HR
  clear hq4 hr
  generalize snB nm = q1 at HN ⊢
  generalize (dec (0 ≤ bl ∧ bl ≤ 1000000) && dec (0 ≤ lg ∧ lg ≤ 1000)) = q5 at HK ⊢
  have b1 : Hid (Grw w ((w.alloc (.cells #[.int .i64 ip, .int .i64 b, .int .i64 gt, .string gm, .string wm, .int .i64 rs, .slice x lenx capx, .slice y leny capy] 40)).alloc (.cells #[.string nm, .string sa, .string ha, .string ro, .int .i64 bl, .int .i64 lg] 144))) := ((Grw.refl w).alloc _).alloc _
  cases q1 with
  | false =>
    go_enter Tryz.func188, Tryz.ntmps188
    go_wp2_with fail
    refine (HN.out _).mono ?_
    rintro e w1 ⟨rfl, hw⟩
    subst hw
    go_wp2
    go_ret
    exact ⟨by first | rfl | simp, b1.out⟩
  | true =>
    by_cases hsa : sa.size ≤ 40
    rotate_left
    · rw [dec_n hsa]
      have hsz1 : decide ((sa.size : Int) ≤ 40) = false := decide_eq_false (by omega)
      go_enter Tryz.func188, Tryz.ntmps188
      go_wp2_with fail
      refine (HN.out _).mono ?_
      rintro e w1 ⟨rfl, hw⟩
      subst hw
      go_wp2
      go_ret
      exact ⟨by first | rfl | simp, b1.out⟩
    rw [dec_y hsa]
    have hsz1 : decide ((sa.size : Int) ≤ 40) = true := decide_eq_true (by omega)
    by_cases hha : ha.size = 32
    rotate_left
    · rw [dec_n hha]
      have hsz2 : ((ha.size : Int) == 32) = false := by simp; omega
      go_enter Tryz.func188, Tryz.ntmps188
      go_wp2_with fail
      refine (HN.out _).mono ?_
      rintro e w1 ⟨rfl, hw⟩
      subst hw
      go_wp2
      go_ret
      exact ⟨by first | rfl | simp, b1.out⟩
    rw [dec_y hha]
    have hsz2 : ((ha.size : Int) == 32) = true := by simp; omega
    rcases hrr with ⟨rfl, hr0⟩ | ⟨rfl, hr0⟩
    · go_enter Tryz.func188, Tryz.ntmps188
      go_wp2_with fail
      refine (HN.out _).mono ?_
      rintro e w1 ⟨rfl, hw⟩
      subst hw
      go_wp2_with fail
      refine (HR.out _ (RY.out.keep (RoR.kp 0) b1.out.below)).mono ?_
      rintro e w2 ⟨rfl, g2⟩
      go_wp2
      go_ret
      exact ⟨by first | rfl | simp, b1.out.trans g2⟩
    · go_enter Tryz.func188, Tryz.ntmps188
      go_wp2_with fail
      refine (HN.out _).mono ?_
      rintro e w1 ⟨rfl, hw⟩
      subst hw
      go_wp2_with fail
      refine (HR.out _ (RY.out.keep (RoR.kp 0) b1.out.below)).mono ?_
      rintro e w2 ⟨rfl, g2⟩
      have k4 : w2.cell? ⟨w.heap.size + 1, 4, none⟩ = some (.int .i64 bl) := g2.keep (a := ⟨w.heap.size + 1, 4, none⟩) (v := .int .i64 bl) (by simp [go_sem])
      have k5 : w2.cell? ⟨w.heap.size + 1, 5, none⟩ = some (.int .i64 lg) := g2.keep (a := ⟨w.heap.size + 1, 5, none⟩) (v := .int .i64 lg) (by simp [go_sem])
      have B2 : Hid (Grw w w2) := b1.out.trans g2
      clear g2
      go_wp2_with fail
      refine (HK.out _).mono ?_
      rintro e w1 ⟨rfl, hw⟩
      subst hw
      go_wp2
      go_ret
      exact ⟨by first | rfl | simp, B2.out⟩
set_option maxHeartbeats 8000000 in
theorem usersOK_any (ip b gt : Int) (gm wm : ByteArray) (rs : Int) (x y : Option Addr) (lenx capx leny capy : Nat) (ros : List RoleV) (a : Option Addr) (len cap : Nat) (us : List UserV) (w : World) (h : Rw (RoR 0) 5 w y ros) (hl2 : ros.length = leny) (hu : Rw UsR 6 w a us) (hl : us.length = len) (hsz : SzU us) (hl9 : leny ≤ 1048576) (hl8 : len ≤ 1048576) :
    Calls Tryz.prog 121 #[.agg #[.int .i64 ip, .int .i64 b, .int .i64 gt, .string gm, .string wm, .int .i64 rs, .slice x lenx capx, .slice y leny capy], .slice a len cap] w fun e w' => e = .returned (.bool (usB ros us)) ∧ Grw w w' := by
  have RY : Hid (Rw (RoR 0) 5 w y ros) := h
  have RW : Hid (Rw UsR 6 w a us) := hu
  have SZ : Hid (SzU us) := hsz
  clear h hu hsz
  by_cases h6 : len ≤ 6
  rotate_left
  · have hv : Hid (usB ros us = false) := by show usB ros us = false; unfold usB; rw [dec_n (by omega)]; rfl
    have h6z : (6 : Int) < (len : Int) := by omega
    go_enter Tryz.func121, Tryz.ntmps121
    go_wp2
    go_ret
    exact ⟨by rw [hv.out]; rfl, (Grw.refl _).alloc _⟩
  have h6z : (len : Int) ≤ 6 := by omega
  go_enter Tryz.func121, Tryz.ntmps121
  go_wp2
  go_loopw [12] (fun u wr => ∃ k : Nat, k ≤ len ∧ u = .int .i64 k ∧ Hid ((List.range k).all (risAt (uB ros) ltU us) = true) ∧ Hid (Grw w wr ∧ wr.cell? ⟨w.heap.size, 0, none⟩ = some (.int .i64 ip) ∧ wr.cell? ⟨w.heap.size, 1, none⟩ = some (.int .i64 b) ∧ wr.cell? ⟨w.heap.size, 2, none⟩ = some (.int .i64 gt) ∧ wr.cell? ⟨w.heap.size, 3, none⟩ = some (.string gm) ∧ wr.cell? ⟨w.heap.size, 4, none⟩ = some (.string wm) ∧ wr.cell? ⟨w.heap.size, 5, none⟩ = some (.int .i64 rs) ∧ wr.cell? ⟨w.heap.size, 6, none⟩ = some (.slice x lenx capx) ∧ wr.cell? ⟨w.heap.size, 7, none⟩ = some (.slice y leny capy))) (fun u _ => len - (intOf u).toNat)
  case atStart => exact ⟨0, Nat.zero_le _, rfl, rfl, (Grw.refl _).alloc _, by simp [go_sem], by simp [go_sem], by simp [go_sem], by simp [go_sem], by simp [go_sem], by simp [go_sem], by simp [go_sem], by simp [go_sem]⟩
  case round =>
    obtain ⟨k, hk, rfl, HO, HG⟩ := hrel
    obtain ⟨G0, d0, d1, d2, d3, d4, d5, d6, d7⟩ := HG.out
    have GG := G0.below
    by_cases hlt : k < len
    · obtain ⟨z, hx⟩ := at_of hl hlt
      obtain ⟨bk, off, vs, rfl, hb, hvl, hR, hc⟩ := RW.out.at UsR.kp GG hx
      have hsz := SZ.out _ (List.mem_of_getElem? hx)
      have HS : Hid (risAt (uB ros) ltU us k = true → (List.range (k + 1)).all (risAt (uB ros) ltU us) = true) := fun h => ris_step HO.out h
      have HF : Hid (risAt (uB ros) ltU us k = false → risB (uB ros) ltU us = false) := fun h => ris_no (by omega) h
      obtain ⟨nm, sa, ha, ro, bl, lg⟩ := z
      obtain ⟨rfl, -⟩ := hR
      have q0 : wr.cell? ⟨bk, off + k * 6, none⟩ = some (.string nm) := hc 0 _ rfl
      have q1 : wr.cell? ⟨bk, off + k * 6 + 1, none⟩ = some (.string sa) := hc 1 _ rfl
      have q2 : wr.cell? ⟨bk, off + k * 6 + 2, none⟩ = some (.string ha) := hc 2 _ rfl
      have q3 : wr.cell? ⟨bk, off + k * 6 + 3, none⟩ = some (.string ro) := hc 3 _ rfl
      have q4 : wr.cell? ⟨bk, off + k * 6 + 4, none⟩ = some (.int .i64 bl) := hc 4 _ rfl
      have q5 : wr.cell? ⟨bk, off + k * 6 + 5, none⟩ = some (.int .i64 lg) := hc 5 _ rfl
      have HK : Hid (∀ w, Rw (RoR 0) 5 w y ros → Calls Tryz.prog 188 #[.agg #[.int .i64 ip, .int .i64 b, .int .i64 gt, .string gm, .string wm, .int .i64 rs, .slice x lenx capx, .slice y leny capy], .agg #[.string nm, .string sa, .string ha, .string ro, .int .i64 bl, .int .i64 lg]] w fun e w' => e = .returned (.bool (uB ros ⟨nm, sa, ha, ro, bl, lg⟩)) ∧ Grw w w') := fun w h => userOK_any ip b gt gm wm rs x y lenx capx leny capy ros nm sa ha ro bl lg w h hl2 hl9 hsz
      have hltz : (k : Int) < (len : Int) := by omega
      by_cases hk0 : k = 0
      · have eo : risAt (uB ros) ltU us k = uB ros ⟨nm, sa, ha, ro, bl, lg⟩ := by subst hk0; exact risAt_zero hx
        have hkd : decide (0 < k) = false := decide_eq_false (by omega)
        clear hk0
        rw [eo] at HS HF
        generalize uB ros ⟨nm, sa, ha, ro, bl, lg⟩ = q at HK HS HF
        clear hc hvl hx eo
        have HA : Hid (Grw w (wr.alloc (.cells #[.string nm, .string sa, .string ha, .string ro, .int .i64 bl, .int .i64 lg] 144))) := G0.alloc _
        have hmix : Tryz.prog.follows .mixedOrders = true := by kernel_rfl
        have y0 : ∀ n os, (grow (World.drewN (wr.alloc (.cells #[.string nm, .string sa, .string ha, .string ro, .int .i64 bl, .int .i64 lg] 144)) n) os).cell? ⟨wr.heap.size, 0, none⟩ = some (.string nm) := fun n os => cell_grown (by simp) (by simp) n os
        have y1 : ∀ n os, (grow (World.drewN (wr.alloc (.cells #[.string nm, .string sa, .string ha, .string ro, .int .i64 bl, .int .i64 lg] 144)) n) os).cell? ⟨wr.heap.size, 1, none⟩ = some (.string sa) := fun n os => cell_grown (by simp) (by simp) n os
        have y2 : ∀ n os, (grow (World.drewN (wr.alloc (.cells #[.string nm, .string sa, .string ha, .string ro, .int .i64 bl, .int .i64 lg] 144)) n) os).cell? ⟨wr.heap.size, 2, none⟩ = some (.string ha) := fun n os => cell_grown (by simp) (by simp) n os
        have y3 : ∀ n os, (grow (World.drewN (wr.alloc (.cells #[.string nm, .string sa, .string ha, .string ro, .int .i64 bl, .int .i64 lg] 144)) n) os).cell? ⟨wr.heap.size, 3, none⟩ = some (.string ro) := fun n os => cell_grown (by simp) (by simp) n os
        have y4 : ∀ n os, (grow (World.drewN (wr.alloc (.cells #[.string nm, .string sa, .string ha, .string ro, .int .i64 bl, .int .i64 lg] 144)) n) os).cell? ⟨wr.heap.size, 4, none⟩ = some (.int .i64 bl) := fun n os => cell_grown (by simp) (by simp) n os
        have y5 : ∀ n os, (grow (World.drewN (wr.alloc (.cells #[.string nm, .string sa, .string ha, .string ro, .int .i64 bl, .int .i64 lg] 144)) n) os).cell? ⟨wr.heap.size, 5, none⟩ = some (.int .i64 lg) := fun n os => cell_grown (by simp) (by simp) n os
        have e0 : ∀ n os, (grow (World.drewN (wr.alloc (.cells #[.string nm, .string sa, .string ha, .string ro, .int .i64 bl, .int .i64 lg] 144)) n) os).cell? ⟨w.heap.size, 0, none⟩ = some (.int .i64 ip) := fun n os => (((Grw.refl wr).alloc _).trans ⟨n, os, rfl⟩).keep d0
        have e1 : ∀ n os, (grow (World.drewN (wr.alloc (.cells #[.string nm, .string sa, .string ha, .string ro, .int .i64 bl, .int .i64 lg] 144)) n) os).cell? ⟨w.heap.size, 1, none⟩ = some (.int .i64 b) := fun n os => (((Grw.refl wr).alloc _).trans ⟨n, os, rfl⟩).keep d1
        have e2 : ∀ n os, (grow (World.drewN (wr.alloc (.cells #[.string nm, .string sa, .string ha, .string ro, .int .i64 bl, .int .i64 lg] 144)) n) os).cell? ⟨w.heap.size, 2, none⟩ = some (.int .i64 gt) := fun n os => (((Grw.refl wr).alloc _).trans ⟨n, os, rfl⟩).keep d2
        have e3 : ∀ n os, (grow (World.drewN (wr.alloc (.cells #[.string nm, .string sa, .string ha, .string ro, .int .i64 bl, .int .i64 lg] 144)) n) os).cell? ⟨w.heap.size, 3, none⟩ = some (.string gm) := fun n os => (((Grw.refl wr).alloc _).trans ⟨n, os, rfl⟩).keep d3
        have e4 : ∀ n os, (grow (World.drewN (wr.alloc (.cells #[.string nm, .string sa, .string ha, .string ro, .int .i64 bl, .int .i64 lg] 144)) n) os).cell? ⟨w.heap.size, 4, none⟩ = some (.string wm) := fun n os => (((Grw.refl wr).alloc _).trans ⟨n, os, rfl⟩).keep d4
        have e5 : ∀ n os, (grow (World.drewN (wr.alloc (.cells #[.string nm, .string sa, .string ha, .string ro, .int .i64 bl, .int .i64 lg] 144)) n) os).cell? ⟨w.heap.size, 5, none⟩ = some (.int .i64 rs) := fun n os => (((Grw.refl wr).alloc _).trans ⟨n, os, rfl⟩).keep d5
        have e6 : ∀ n os, (grow (World.drewN (wr.alloc (.cells #[.string nm, .string sa, .string ha, .string ro, .int .i64 bl, .int .i64 lg] 144)) n) os).cell? ⟨w.heap.size, 6, none⟩ = some (.slice x lenx capx) := fun n os => (((Grw.refl wr).alloc _).trans ⟨n, os, rfl⟩).keep d6
        have e7 : ∀ n os, (grow (World.drewN (wr.alloc (.cells #[.string nm, .string sa, .string ha, .string ro, .int .i64 bl, .int .i64 lg] 144)) n) os).cell? ⟨w.heap.size, 7, none⟩ = some (.slice y leny capy) := fun n os => (((Grw.refl wr).alloc _).trans ⟨n, os, rfl⟩).keep d7
        have YR : Hid (∀ n os, Rw (RoR 0) 5 (grow (World.drewN (wr.alloc (.cells #[.string nm, .string sa, .string ha, .string ro, .int .i64 bl, .int .i64 lg] 144)) n) os) y ros) := fun n os => RY.out.keep (RoR.kp 0) (HA.out.trans ⟨n, os, rfl⟩).below
        cases q with
        | false =>
          have hd : Hid (risB (uB ros) ltU us = false) := HF.out (by simp)
          have hv : Hid (usB ros us = false) := by show usB ros us = false; unfold usB; rw [hd.out, Bool.and_false]
          go_wp2_with fail
          refine wp_region_quiet_grown (by assumption) (by kernel_rfl) ?_
          repeat (go_big_quiet_step (first | fail | (go_at_call 188; exact Calls.grown_of (HK.out _ (YR.out _ _)))))
          refine wpQuiet_nil ?_
          intro _ hw'
          obtain ⟨⟨nq, osq⟩, hw''⟩ := hw'
          subst hw''
          have HG1 : Hid (Grw w _) := HA.out.trans ⟨nq, osq, rfl⟩
          clear y0 y1 y2 y3 y4 y5 e0 e1 e2 e3 e4 e5 e6 e7
          go_wp2
          go_ret
          exact ⟨by rw [hv.out]; rfl, HG1.out⟩
        | true =>
          have HS' : Hid ((List.range (k + 1)).all (risAt (uB ros) ltU us) = true) := HS.out (by simp)
          clear HS HF
          go_wp2_with fail
          refine wp_region_quiet_grown (by assumption) (by kernel_rfl) ?_
          repeat (go_big_quiet_step (first | fail | (go_at_call 188; exact Calls.grown_of (HK.out _ (YR.out _ _)))))
          refine wpQuiet_nil ?_
          intro _ hw'
          obtain ⟨⟨nq, osq⟩, hw''⟩ := hw'
          subst hw''
          have HG1 : Hid (Grw w (grow (World.drewN (wr.alloc (.cells #[.string nm, .string sa, .string ha, .string ro, .int .i64 bl, .int .i64 lg] 144)) nq) osq) ∧ (grow (World.drewN (wr.alloc (.cells #[.string nm, .string sa, .string ha, .string ro, .int .i64 bl, .int .i64 lg] 144)) nq) osq).cell? ⟨w.heap.size, 0, none⟩ = some (.int .i64 ip) ∧ (grow (World.drewN (wr.alloc (.cells #[.string nm, .string sa, .string ha, .string ro, .int .i64 bl, .int .i64 lg] 144)) nq) osq).cell? ⟨w.heap.size, 1, none⟩ = some (.int .i64 b) ∧ (grow (World.drewN (wr.alloc (.cells #[.string nm, .string sa, .string ha, .string ro, .int .i64 bl, .int .i64 lg] 144)) nq) osq).cell? ⟨w.heap.size, 2, none⟩ = some (.int .i64 gt) ∧ (grow (World.drewN (wr.alloc (.cells #[.string nm, .string sa, .string ha, .string ro, .int .i64 bl, .int .i64 lg] 144)) nq) osq).cell? ⟨w.heap.size, 3, none⟩ = some (.string gm) ∧ (grow (World.drewN (wr.alloc (.cells #[.string nm, .string sa, .string ha, .string ro, .int .i64 bl, .int .i64 lg] 144)) nq) osq).cell? ⟨w.heap.size, 4, none⟩ = some (.string wm) ∧ (grow (World.drewN (wr.alloc (.cells #[.string nm, .string sa, .string ha, .string ro, .int .i64 bl, .int .i64 lg] 144)) nq) osq).cell? ⟨w.heap.size, 5, none⟩ = some (.int .i64 rs) ∧ (grow (World.drewN (wr.alloc (.cells #[.string nm, .string sa, .string ha, .string ro, .int .i64 bl, .int .i64 lg] 144)) nq) osq).cell? ⟨w.heap.size, 6, none⟩ = some (.slice x lenx capx) ∧ (grow (World.drewN (wr.alloc (.cells #[.string nm, .string sa, .string ha, .string ro, .int .i64 bl, .int .i64 lg] 144)) nq) osq).cell? ⟨w.heap.size, 7, none⟩ = some (.slice y leny capy)) := ⟨HA.out.trans ⟨nq, osq, rfl⟩, e0 nq osq, e1 nq osq, e2 nq osq, e3 nq osq, e4 nq osq, e5 nq osq, e6 nq osq, e7 nq osq⟩
          clear y0 y1 y2 y3 y4 y5 e0 e1 e2 e3 e4 e5 e6 e7
          go_wp2
          go_roundw
          case rel => exact ⟨k + 1, by omega, by go_num, HS', HG1⟩
          case measure => simp [intOf]; omega
      · obtain ⟨j, hkj⟩ : ∃ j, k = j + 1 := ⟨k - 1, by omega⟩
        obtain ⟨z', hx'⟩ := at_of (k := j) hl (by omega)
        obtain ⟨b', off', vs', e', hb', hvl', hR', hc'⟩ := RW.out.at UsR.kp GG hx'
        cases e'
        obtain ⟨nm', sa', ha', ro', bl', lg'⟩ := z'
        obtain ⟨rfl, -⟩ := hR'
        have p0 : wr.cell? ⟨bk, off + j * 6, none⟩ = some (.string nm') := hc' 0 _ rfl
        obtain ⟨lt, hlt2⟩ : ∃ lt, Op.bytesLess nm'.toList nm.toList = lt := ⟨_, rfl⟩
        have eo : risAt (uB ros) ltU us k = (uB ros ⟨nm, sa, ha, ro, bl, lg⟩ && lt) := by subst hkj; rw [← hlt2]; exact risAt_succ hx hx'
        have hkd : decide (0 < k) = true := decide_eq_true (by omega)
        have hj : (k : Int) - 1 = (j : Int) := by omega
        have hjl : (j : Int) < (len : Int) := by omega
        clear hk0 hkj
        rw [eo] at HS HF
        generalize uB ros ⟨nm, sa, ha, ro, bl, lg⟩ = q at HK HS HF
        clear hc hvl hx eo hc' hvl' hx'
        have HA : Hid (Grw w (wr.alloc (.cells #[.string nm, .string sa, .string ha, .string ro, .int .i64 bl, .int .i64 lg] 144))) := G0.alloc _
        have hmix : Tryz.prog.follows .mixedOrders = true := by kernel_rfl
        have y0 : ∀ n os, (grow (World.drewN (wr.alloc (.cells #[.string nm, .string sa, .string ha, .string ro, .int .i64 bl, .int .i64 lg] 144)) n) os).cell? ⟨wr.heap.size, 0, none⟩ = some (.string nm) := fun n os => cell_grown (by simp) (by simp) n os
        have y1 : ∀ n os, (grow (World.drewN (wr.alloc (.cells #[.string nm, .string sa, .string ha, .string ro, .int .i64 bl, .int .i64 lg] 144)) n) os).cell? ⟨wr.heap.size, 1, none⟩ = some (.string sa) := fun n os => cell_grown (by simp) (by simp) n os
        have y2 : ∀ n os, (grow (World.drewN (wr.alloc (.cells #[.string nm, .string sa, .string ha, .string ro, .int .i64 bl, .int .i64 lg] 144)) n) os).cell? ⟨wr.heap.size, 2, none⟩ = some (.string ha) := fun n os => cell_grown (by simp) (by simp) n os
        have y3 : ∀ n os, (grow (World.drewN (wr.alloc (.cells #[.string nm, .string sa, .string ha, .string ro, .int .i64 bl, .int .i64 lg] 144)) n) os).cell? ⟨wr.heap.size, 3, none⟩ = some (.string ro) := fun n os => cell_grown (by simp) (by simp) n os
        have y4 : ∀ n os, (grow (World.drewN (wr.alloc (.cells #[.string nm, .string sa, .string ha, .string ro, .int .i64 bl, .int .i64 lg] 144)) n) os).cell? ⟨wr.heap.size, 4, none⟩ = some (.int .i64 bl) := fun n os => cell_grown (by simp) (by simp) n os
        have y5 : ∀ n os, (grow (World.drewN (wr.alloc (.cells #[.string nm, .string sa, .string ha, .string ro, .int .i64 bl, .int .i64 lg] 144)) n) os).cell? ⟨wr.heap.size, 5, none⟩ = some (.int .i64 lg) := fun n os => cell_grown (by simp) (by simp) n os
        have e0 : ∀ n os, (grow (World.drewN (wr.alloc (.cells #[.string nm, .string sa, .string ha, .string ro, .int .i64 bl, .int .i64 lg] 144)) n) os).cell? ⟨w.heap.size, 0, none⟩ = some (.int .i64 ip) := fun n os => (((Grw.refl wr).alloc _).trans ⟨n, os, rfl⟩).keep d0
        have e1 : ∀ n os, (grow (World.drewN (wr.alloc (.cells #[.string nm, .string sa, .string ha, .string ro, .int .i64 bl, .int .i64 lg] 144)) n) os).cell? ⟨w.heap.size, 1, none⟩ = some (.int .i64 b) := fun n os => (((Grw.refl wr).alloc _).trans ⟨n, os, rfl⟩).keep d1
        have e2 : ∀ n os, (grow (World.drewN (wr.alloc (.cells #[.string nm, .string sa, .string ha, .string ro, .int .i64 bl, .int .i64 lg] 144)) n) os).cell? ⟨w.heap.size, 2, none⟩ = some (.int .i64 gt) := fun n os => (((Grw.refl wr).alloc _).trans ⟨n, os, rfl⟩).keep d2
        have e3 : ∀ n os, (grow (World.drewN (wr.alloc (.cells #[.string nm, .string sa, .string ha, .string ro, .int .i64 bl, .int .i64 lg] 144)) n) os).cell? ⟨w.heap.size, 3, none⟩ = some (.string gm) := fun n os => (((Grw.refl wr).alloc _).trans ⟨n, os, rfl⟩).keep d3
        have e4 : ∀ n os, (grow (World.drewN (wr.alloc (.cells #[.string nm, .string sa, .string ha, .string ro, .int .i64 bl, .int .i64 lg] 144)) n) os).cell? ⟨w.heap.size, 4, none⟩ = some (.string wm) := fun n os => (((Grw.refl wr).alloc _).trans ⟨n, os, rfl⟩).keep d4
        have e5 : ∀ n os, (grow (World.drewN (wr.alloc (.cells #[.string nm, .string sa, .string ha, .string ro, .int .i64 bl, .int .i64 lg] 144)) n) os).cell? ⟨w.heap.size, 5, none⟩ = some (.int .i64 rs) := fun n os => (((Grw.refl wr).alloc _).trans ⟨n, os, rfl⟩).keep d5
        have e6 : ∀ n os, (grow (World.drewN (wr.alloc (.cells #[.string nm, .string sa, .string ha, .string ro, .int .i64 bl, .int .i64 lg] 144)) n) os).cell? ⟨w.heap.size, 6, none⟩ = some (.slice x lenx capx) := fun n os => (((Grw.refl wr).alloc _).trans ⟨n, os, rfl⟩).keep d6
        have e7 : ∀ n os, (grow (World.drewN (wr.alloc (.cells #[.string nm, .string sa, .string ha, .string ro, .int .i64 bl, .int .i64 lg] 144)) n) os).cell? ⟨w.heap.size, 7, none⟩ = some (.slice y leny capy) := fun n os => (((Grw.refl wr).alloc _).trans ⟨n, os, rfl⟩).keep d7
        have p1 : ∀ n os, (grow (World.drewN (wr.alloc (.cells #[.string nm, .string sa, .string ha, .string ro, .int .i64 bl, .int .i64 lg] 144)) n) os).cell? ⟨bk, off + j * 6, none⟩ = some (.string nm') := fun n os => (((Grw.refl wr).alloc _).trans ⟨n, os, rfl⟩).keep p0
        have YR : Hid (∀ n os, Rw (RoR 0) 5 (grow (World.drewN (wr.alloc (.cells #[.string nm, .string sa, .string ha, .string ro, .int .i64 bl, .int .i64 lg] 144)) n) os) y ros) := fun n os => RY.out.keep (RoR.kp 0) (HA.out.trans ⟨n, os, rfl⟩).below
        cases q with
        | false =>
          have hd : Hid (risB (uB ros) ltU us = false) := HF.out (by simp)
          have hv : Hid (usB ros us = false) := by show usB ros us = false; unfold usB; rw [hd.out, Bool.and_false]
          go_wp2_with fail
          refine wp_region_quiet_grown (by assumption) (by kernel_rfl) ?_
          repeat (go_big_quiet_step (first | fail | (go_at_call 188; exact Calls.grown_of (HK.out _ (YR.out _ _)))))
          refine wpQuiet_nil ?_
          intro _ hw'
          obtain ⟨⟨nq, osq⟩, hw''⟩ := hw'
          subst hw''
          have HG1 : Hid (Grw w _) := HA.out.trans ⟨nq, osq, rfl⟩
          clear y0 y1 y2 y3 y4 y5 e0 e1 e2 e3 e4 e5 e6 e7 p1
          go_wp2
          go_ret
          exact ⟨by rw [hv.out]; rfl, HG1.out⟩
        | true =>
          cases lt with
          | true =>
            have HS' : Hid ((List.range (k + 1)).all (risAt (uB ros) ltU us) = true) := HS.out (by simp)
            clear HS HF
            go_wp2_with fail
            refine wp_region_quiet_grown (by assumption) (by kernel_rfl) ?_
            repeat (go_big_quiet_step (first | fail | (go_at_call 188; exact Calls.grown_of (HK.out _ (YR.out _ _)))))
            refine wpQuiet_nil ?_
            intro _ hw'
            obtain ⟨⟨nq, osq⟩, hw''⟩ := hw'
            subst hw''
            have HG1 : Hid (Grw w (grow (World.drewN (wr.alloc (.cells #[.string nm, .string sa, .string ha, .string ro, .int .i64 bl, .int .i64 lg] 144)) nq) osq) ∧ (grow (World.drewN (wr.alloc (.cells #[.string nm, .string sa, .string ha, .string ro, .int .i64 bl, .int .i64 lg] 144)) nq) osq).cell? ⟨w.heap.size, 0, none⟩ = some (.int .i64 ip) ∧ (grow (World.drewN (wr.alloc (.cells #[.string nm, .string sa, .string ha, .string ro, .int .i64 bl, .int .i64 lg] 144)) nq) osq).cell? ⟨w.heap.size, 1, none⟩ = some (.int .i64 b) ∧ (grow (World.drewN (wr.alloc (.cells #[.string nm, .string sa, .string ha, .string ro, .int .i64 bl, .int .i64 lg] 144)) nq) osq).cell? ⟨w.heap.size, 2, none⟩ = some (.int .i64 gt) ∧ (grow (World.drewN (wr.alloc (.cells #[.string nm, .string sa, .string ha, .string ro, .int .i64 bl, .int .i64 lg] 144)) nq) osq).cell? ⟨w.heap.size, 3, none⟩ = some (.string gm) ∧ (grow (World.drewN (wr.alloc (.cells #[.string nm, .string sa, .string ha, .string ro, .int .i64 bl, .int .i64 lg] 144)) nq) osq).cell? ⟨w.heap.size, 4, none⟩ = some (.string wm) ∧ (grow (World.drewN (wr.alloc (.cells #[.string nm, .string sa, .string ha, .string ro, .int .i64 bl, .int .i64 lg] 144)) nq) osq).cell? ⟨w.heap.size, 5, none⟩ = some (.int .i64 rs) ∧ (grow (World.drewN (wr.alloc (.cells #[.string nm, .string sa, .string ha, .string ro, .int .i64 bl, .int .i64 lg] 144)) nq) osq).cell? ⟨w.heap.size, 6, none⟩ = some (.slice x lenx capx) ∧ (grow (World.drewN (wr.alloc (.cells #[.string nm, .string sa, .string ha, .string ro, .int .i64 bl, .int .i64 lg] 144)) nq) osq).cell? ⟨w.heap.size, 7, none⟩ = some (.slice y leny capy)) := ⟨HA.out.trans ⟨nq, osq, rfl⟩, e0 nq osq, e1 nq osq, e2 nq osq, e3 nq osq, e4 nq osq, e5 nq osq, e6 nq osq, e7 nq osq⟩
            clear y0 y1 y2 y3 y4 y5 e0 e1 e2 e3 e4 e5 e6 e7 p1
            go_wp2
            go_roundw
            case rel => exact ⟨k + 1, by omega, by go_num, HS', HG1⟩
            case measure => simp [intOf]; omega
          | false =>
            have hd : Hid (risB (uB ros) ltU us = false) := HF.out (by simp)
            have hv : Hid (usB ros us = false) := by show usB ros us = false; unfold usB; rw [hd.out, Bool.and_false]
            go_wp2_with fail
            refine wp_region_quiet_grown (by assumption) (by kernel_rfl) ?_
            repeat (go_big_quiet_step (first | fail | (go_at_call 188; exact Calls.grown_of (HK.out _ (YR.out _ _)))))
            refine wpQuiet_nil ?_
            intro _ hw'
            obtain ⟨⟨nq, osq⟩, hw''⟩ := hw'
            subst hw''
            have HG1 : Hid (Grw w _) := HA.out.trans ⟨nq, osq, rfl⟩
            clear y0 y1 y2 y3 y4 y5 e0 e1 e2 e3 e4 e5 e6 e7 p1
            go_wp2
            go_ret
            exact ⟨by rw [hv.out]; rfl, HG1.out⟩
    · obtain rfl : k = len := by omega
      have hv : Hid (usB ros us = true) := by show usB ros us = true; unfold usB; rw [ris_end hl HO.out, dec_y (by omega)]; rfl
      go_wp2
      go_ret
      exact ⟨by rw [hv.out]; rfl, G0⟩
end Go.Proofs.YtlebblmlbhnppaaGreat
