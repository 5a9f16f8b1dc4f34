/- Words, the model's side: l06Word, l06Minus, l06Size, l06Class, l06Order. -/
import Derived.Test.YtfcdobicilediaaWordC
import Derived.Laws.StructEq
namespace Go.Proofs.Ytfcdobicilediaa
open Go.RowKit Go.PlainAid Go.Proofs.Ytfcdobicilediaa.Bt Go.Proofs.Ytfcdobicilediaa.Fo Go.Sort
set_option linter.unusedVariables false
set_option maxRecDepth 20000

theorem sIn_any (n lo hi : Int) (w : World) : Calls Try.prog 51 #[.int .i64 n, .int .i64 lo, .int .i64 hi] w fun e w' => e = .returned (.bool (dec (lo ≤ n ∧ n ≤ hi))) ∧ w' = w := by
  by_cases h1 : lo ≤ n
  · by_cases h2 : n ≤ hi
    · rw [dec_y ⟨h1, h2⟩]
      go_enter Try.func51, Try.ntmps51
      go_wp2
      go_ret
      exact ⟨rfl, rfl⟩
    · rw [dec_n (fun h => h2 h.2)]
      have b2 : decide (n ≤ hi) = false := decide_eq_false h2
      go_enter Try.func51, Try.ntmps51
      go_wp2
      go_ret
      exact ⟨rfl, rfl⟩
  · rw [dec_n (fun h => h1 h.1)]
    have b1 : decide (lo ≤ n) = false := decide_eq_false h1
    go_enter Try.func51, Try.ntmps51
    go_wp2
    go_ret
    exact ⟨rfl, rfl⟩
theorem sIp_any (n : Int) (w : World) : Calls Try.prog 42 #[.int .i64 n] w fun e w' => e = .returned (.bool (dec (0 ≤ n ∧ n ≤ 4294967295))) ∧ w' = w := by
  have H : Hid (∀ w, Calls Try.prog 51 #[.int .i64 n, .int .i64 0, .int .i64 4294967295] w fun e w' => e = .returned (.bool (dec (0 ≤ n ∧ n ≤ 4294967295))) ∧ w' = w) := fun w => sIn_any _ _ _ w
  generalize dec (0 ≤ n ∧ n ≤ 4294967295) = q at H ⊢
  go_enter Try.func42, Try.ntmps42
  go_wp2_with fail
  refine (H.out _).mono ?_
  rintro e w1 ⟨rfl, hw⟩
  subst hw
  go_wp2
  go_ret
  exact ⟨rfl, rfl⟩
theorem sBit_any (b : Bool) (w : World) : Calls Try.prog 84 #[.bool b] w fun e w' => e = .returned (.int .i64 (if b then 1 else 0)) ∧ w' = w := by
  cases b
  · go_enter Try.func84, Try.ntmps84
    go_wp2
    go_ret
    exact ⟨rfl, rfl⟩
  · go_enter Try.func84, Try.ntmps84
    go_wp2
    go_ret
    exact ⟨rfl, rfl⟩
theorem sWord_any (h l : Int) (w : World) : Calls Try.prog 56 #[.agg #[.int .i64 h, .int .i64 l]] w fun e w' => e = .returned (.bool (dec (okW h l))) ∧ Grw w w' := by
  have H1 : Hid (∀ w, Calls Try.prog 42 #[.int .i64 h] w fun e w' => e = .returned (.bool (dec (0 ≤ h ∧ h ≤ 4294967295))) ∧ w' = w) := fun w => sIp_any _ w
  have H2 : Hid (∀ w, Calls Try.prog 42 #[.int .i64 l] w fun e w' => e = .returned (.bool (dec (0 ≤ l ∧ l ≤ 4294967295))) ∧ w' = w) := fun w => sIp_any _ w
  by_cases h1 : 0 ≤ h ∧ h ≤ 4294967295
  · rw [dec_y h1] at H1
    have e : dec (okW h l) = dec (0 ≤ l ∧ l ≤ 4294967295) := decide_eq_decide.2 ⟨fun h => ⟨h.2.2.1, h.2.2.2⟩, fun h => ⟨h1.1, h1.2, h.1, h.2⟩⟩
    rw [e]
    clear e h1
    generalize dec (0 ≤ l ∧ l ≤ 4294967295) = q at H2 ⊢
    go_enter Try.func56, Try.ntmps56
    go_wp2_with fail
    refine (H1.out _).mono ?_
    rintro e w1 ⟨rfl, hw⟩
    subst hw
    go_wp2_with fail
    refine (H2.out _).mono ?_
    rintro e w1 ⟨rfl, hw⟩
    subst hw
    go_wp2
    go_ret
    exact ⟨rfl, (Grw.refl _).alloc _⟩
  · rw [dec_n h1] at H1
    rw [dec_n (fun h => h1 ⟨h.1, h.2.1⟩)]
    clear h1
    go_enter Try.func56, Try.ntmps56
    go_wp2_with fail
    refine (H1.out _).mono ?_
    rintro e w1 ⟨rfl, hw⟩
    subst hw
    go_wp2
    go_ret
    exact ⟨rfl, (Grw.refl _).alloc _⟩
theorem sMinus_any (h l : Int) (hw : okW h l) (w : World) : Calls Try.prog 86 #[.agg #[.int .i64 h, .int .i64 l]] w fun e w' => e = .returned (.bool (mW h)) ∧ Grw w w' := by
  obtain ⟨h0, h1, h2, h3⟩ := hw
  have hb : (h / 2147483648 == 1) = mW h := by
    unfold mW
    by_cases hh : 2147483648 ≤ h
    · rw [decide_eq_true hh, show h / 2147483648 = 1 by omega]; rfl
    · rw [decide_eq_false hh, show h / 2147483648 = 0 by omega]; rfl
  generalize mW h = q at hb ⊢
  go_enter Try.func86, Try.ntmps86
  go_wp2
  go_ret
  exact ⟨congrArg (fun b => Ending.returned (.bool b)) (by first | rfl | exact hb), (Grw.refl _).alloc _⟩
theorem sSize_any (h l : Int) (hw : okW h l) (w : World) : Calls Try.prog 85 #[.agg #[.int .i64 h, .int .i64 l]] w fun e w' => e = .returned (.agg #[.int .i64 (h % 2147483648), .int .i64 l]) ∧ Grw w w' := by
  obtain ⟨h0, h1, h2, h3⟩ := hw
  have hm : bits BinOp.and IntKind.i64 h 2147483647 = h % 2147483648 := mask 31 (by omega) h h0 (by omega)
  generalize h % 2147483648 = p at hm ⊢
  go_enter Try.func85, Try.ntmps85
  go_wp2
  (try simp only [Exit.inBlock, Exit.then])
  refine bodyPost_ret (v := .agg #[.int .i64 p, .int .i64 l]) (by simp [results, Try.results85, go_sem]; try rfl) rfl ?_
  exact ⟨rfl, by first | exact (Grw.refl _).alloc _ | exact ((Grw.refl _).alloc _).alloc _⟩
/-- Words compared. -/
theorem eql_word (x0 x1 y0 y1 : Int) (w : World) : (binOp .eql 48 (.agg #[.int .i64 x0, .int .i64 x1]) (.agg #[.int .i64 y0, .int .i64 y1])).run Try.prog w = .ok (.bool (decide (x0 = y0 ∧ x1 = y1))) w := by
  have u3 := Try.underlying3
  have a3 := Try.isAgg3
  have z3 := Try.sizeOf3
  have hS : Try.prog.underlying 48 = some (.struct (Try.prog.fieldsOf 48)) := by kernel_rfl
  have hp : Try.prog.stoodInHeld 48 = false := by kernel_rfl
  rw [run_eql_struct, show (10000 : Nat) = 9999 + 1 from rfl, run_equalIn_agg w 9999 48 _ _ hS hp]
  simp only [Program.fieldsOf, Try.underlying48]
  go_simp
  by_cases h1 : x0 = y0 <;> by_cases h2 : x1 = y1 <;> simp [h1, h2]

theorem sClass_any (h l : Int) (hw : okW h l) (w : World) : Calls Try.prog 60 #[.agg #[.int .i64 h, .int .i64 l]] w fun e w' => e = .returned (.int .i64 (clW h l)) ∧ Grw w w' := by
  have HZ : Hid (∀ w, Calls Try.prog 85 #[.agg #[.int .i64 h, .int .i64 l]] w fun e w' => e = .returned (.agg #[.int .i64 (h % 2147483648), .int .i64 l]) ∧ Grw w w') := fun w => sSize_any _ _ hw w
  have HM : Hid (∀ w, Calls Try.prog 86 #[.agg #[.int .i64 h, .int .i64 l]] w fun e w' => e = .returned (.bool (mW h)) ∧ Grw w w') := fun w => sMinus_any _ _ hw w
  have hp0 : 0 ≤ h % 2147483648 := by omega
  have hp1 : h % 2147483648 ≤ 2147483647 := by omega
  have hl0 := hw.2.2.1
  have hl1 := hw.2.2.2
  have EC : Hid (clW h l = clx (h % 2147483648 * 4294967296 + l) (mW h)) := rfl
  clear hw
  generalize h % 2147483648 = p at *
  generalize clW h l = c at *
  generalize mW h = m at *
  have HE := fun w => eql_word p l 0 0 w
  go_enter Try.func60, Try.ntmps60
  go_wp2_with fail
  refine (HZ.out _).mono ?_
  rintro e w1 ⟨rfl, G1⟩
  have k0 : w1.cell? ⟨w.heap.size, 0, none⟩ = some (.int .i64 h) := by rw [G1.below.cell (by simp)]; simp
  have k1 : w1.cell? ⟨w.heap.size, 1, none⟩ = some (.int .i64 l) := by rw [G1.below.cell (by simp)]; simp
  have G : Hid (Grw w w1) := ((Grw.refl _).alloc _).trans G1
  clear G1
  have hlt : w.heap.size < w1.heap.size := World.block_lt_of_cell? w1 _ k0
  go_wp2_with fail
  refine (HM.out _).mono ?_
  rintro e w2 ⟨rfl, G2⟩
  have m0 : w2.cell? ⟨w1.heap.size, 0, none⟩ = some (.int .i64 p) := by rw [G2.below.cell (by simp)]; simp
  have m1 : w2.cell? ⟨w1.heap.size, 1, none⟩ = some (.int .i64 l) := by rw [G2.below.cell (by simp)]; simp
  have G' : Hid (Grw w w2) := (G.out.alloc _).trans G2
  clear G2 G k0 k1 HZ HM hlt
  by_cases hp : p < 2146435072
  · have b0 : decide (2146435072 < p) = false := decide_eq_false (by omega)
    have b1 : (p == 2146435072) = false := by simp; omega
    by_cases hz : p = 0 ∧ l = 0
    · have HE' : ∀ w, (binOp .eql 48 (.agg #[.int .i64 p, .int .i64 l]) (.agg #[.int .i64 0, .int .i64 0])).run Try.prog w = .ok (.bool true) w := fun w => by rw [HE w, decide_eq_true hz]
      clear HE
      cases m
      · have ec : c = 4 := by rw [EC.out]; (first | rw [clx_t] | rw [clx_f]); unfold topI; omega
        clear EC
        subst ec
        go_wp2
        go_ret
        exact ⟨rfl, by first | exact G'.out | exact G'.out.alloc _⟩
      · have ec : c = 3 := by rw [EC.out]; (first | rw [clx_t] | rw [clx_f]); unfold topI; omega
        clear EC
        subst ec
        go_wp2
        go_ret
        exact ⟨rfl, by first | exact G'.out | exact G'.out.alloc _⟩
    · have HE' : ∀ w, (binOp .eql 48 (.agg #[.int .i64 p, .int .i64 l]) (.agg #[.int .i64 0, .int .i64 0])).run Try.prog w = .ok (.bool false) w := fun w => by rw [HE w, decide_eq_false hz]
      clear HE
      cases m
      · have ec : c = 5 := by rw [EC.out]; (first | rw [clx_t] | rw [clx_f]); unfold topI; omega
        clear EC
        subst ec
        go_wp2
        go_ret
        exact ⟨rfl, by first | exact G'.out | exact G'.out.alloc _⟩
      · have ec : c = 2 := by rw [EC.out]; (first | rw [clx_t] | rw [clx_f]); unfold topI; omega
        clear EC
        subst ec
        go_wp2
        go_ret
        exact ⟨rfl, by first | exact G'.out | exact G'.out.alloc _⟩
  by_cases hp2 : p = 2146435072
  · subst hp2
    by_cases hl : 0 < l
    · cases m
      · have ec : c = 0 := by rw [EC.out]; (first | rw [clx_t] | rw [clx_f]); unfold topI; omega
        clear EC
        subst ec
        go_wp2
        go_ret
        exact ⟨rfl, by first | exact G'.out | exact G'.out.alloc _⟩
      · have ec : c = 0 := by rw [EC.out]; (first | rw [clx_t] | rw [clx_f]); unfold topI; omega
        clear EC
        subst ec
        go_wp2
        go_ret
        exact ⟨rfl, by first | exact G'.out | exact G'.out.alloc _⟩
    · have hl2 : l = 0 := by omega
      subst hl2
      cases m
      · have ec : c = 6 := by rw [EC.out]; (first | rw [clx_t] | rw [clx_f]); unfold topI; omega
        clear EC
        subst ec
        go_wp2
        go_ret
        exact ⟨rfl, by first | exact G'.out | exact G'.out.alloc _⟩
      · have ec : c = 1 := by rw [EC.out]; (first | rw [clx_t] | rw [clx_f]); unfold topI; omega
        clear EC
        subst ec
        go_wp2
        go_ret
        exact ⟨rfl, by first | exact G'.out | exact G'.out.alloc _⟩
  · have b0 : decide (2146435072 < p) = true := decide_eq_true (by omega)
    cases m
    · have ec : c = 0 := by rw [EC.out]; (first | rw [clx_t] | rw [clx_f]); unfold topI; omega
      clear EC
      subst ec
      go_wp2
      go_ret
      exact ⟨rfl, by first | exact G'.out | exact G'.out.alloc _⟩
    · have ec : c = 0 := by rw [EC.out]; (first | rw [clx_t] | rw [clx_f]); unfold topI; omega
      clear EC
      subst ec
      go_wp2
      go_ret
      exact ⟨rfl, by first | exact G'.out | exact G'.out.alloc _⟩

theorem sOrder_any (x y : Int × Int) (hx : okW x.1 x.2) (hy : okW y.1 y.2) (w : World) : Calls Try.prog 57 #[.agg #[.int .i64 x.1, .int .i64 x.2], .agg #[.int .i64 y.1, .int .i64 y.2]] w fun e w' => e = .returned (.int .i64 (cmpW x y)) ∧ Grw w w' := by
  have HC : Hid (cmpW x y = if clW x.1 x.2 ≠ clW y.1 y.2 then (if clW y.1 y.2 < clW x.1 x.2 then 1 else -1) else if clW x.1 x.2 = 0 then 0 else if rW x.1 x.2 = rW y.1 y.2 then 0 else if (decide (rW y.1 y.2 < rW x.1 x.2) != mW x.1) = true then 1 else -1) := (spec_eq _ _ _ _ (rW_nn hx) (rW_nn hy) (rW_lt hx) (rW_lt hy)).symm
  have HK1 : Hid (∀ w, Calls Try.prog 60 #[.agg #[.int .i64 x.1, .int .i64 x.2]] w fun e w' => e = .returned (.int .i64 (clW x.1 x.2)) ∧ Grw w w') := fun w => sClass_any _ _ hx w
  have HK2 : Hid (∀ w, Calls Try.prog 60 #[.agg #[.int .i64 y.1, .int .i64 y.2]] w fun e w' => e = .returned (.int .i64 (clW y.1 y.2)) ∧ Grw w w') := fun w => sClass_any _ _ hy w
  have HZ1 : Hid (∀ w, Calls Try.prog 85 #[.agg #[.int .i64 x.1, .int .i64 x.2]] w fun e w' => e = .returned (.agg #[.int .i64 (x.1 % 2147483648), .int .i64 x.2]) ∧ Grw w w') := fun w => sSize_any _ _ hx w
  have HZ2 : Hid (∀ w, Calls Try.prog 85 #[.agg #[.int .i64 y.1, .int .i64 y.2]] w fun e w' => e = .returned (.agg #[.int .i64 (y.1 % 2147483648), .int .i64 y.2]) ∧ Grw w w') := fun w => sSize_any _ _ hy w
  have HM : Hid (∀ w, Calls Try.prog 86 #[.agg #[.int .i64 x.1, .int .i64 x.2]] w fun e w' => e = .returned (.bool (mW x.1)) ∧ Grw w w') := fun w => sMinus_any _ _ hx w
  have HB : Hid (∀ (b : Bool) w, Calls Try.prog 84 #[.bool b] w fun e w' => e = .returned (.int .i64 (if b then 1 else 0)) ∧ w' = w) := fun b w => sBit_any b w
  have hr1 : rW x.1 x.2 = x.1 % 2147483648 * 4294967296 + x.2 := rfl
  have hr2 : rW y.1 y.2 = y.1 % 2147483648 * 4294967296 + y.2 := rfl
  have hp0 : 0 ≤ x.1 % 2147483648 := by omega
  have hq0 : 0 ≤ y.1 % 2147483648 := by omega
  have hx0 := hx.2.2.1
  have hx1 := hx.2.2.2
  have hy0 := hy.2.2.1
  have hy1 := hy.2.2.2
  clear hx hy
  generalize cmpW x y = c at *
  generalize clW x.1 x.2 = c1 at *
  generalize clW y.1 y.2 = c2 at *
  generalize mW x.1 = m at *
  generalize rW x.1 x.2 = r1 at *
  generalize rW y.1 y.2 = r2 at *
  generalize x.1 % 2147483648 = p at *
  generalize y.1 % 2147483648 = q at *
  generalize x.1 = x1 at *
  generalize x.2 = x2 at *
  generalize y.1 = y1 at *
  generalize y.2 = y2 at *
  go_enter Try.func57, Try.ntmps57
  go_wp2_with fail
  refine (HK1.out _).mono ?_
  rintro e w1 ⟨rfl, G1⟩
  have k0 : w1.cell? ⟨w.heap.size, 0, none⟩ = some (.int .i64 x1) := by rw [G1.below.cell (by simp; omega)]; simp
  have k1 : w1.cell? ⟨w.heap.size, 1, none⟩ = some (.int .i64 x2) := by rw [G1.below.cell (by simp; omega)]; simp
  have k2 : w1.cell? ⟨w.heap.size + 1, 0, none⟩ = some (.int .i64 y1) := by rw [G1.below.cell (by simp)]; simp
  have k3 : w1.cell? ⟨w.heap.size + 1, 1, none⟩ = some (.int .i64 y2) := by rw [G1.below.cell (by simp)]; simp
  have G : Hid (Grw w w1) := (((Grw.refl _).alloc _).alloc _).trans G1
  clear G1
  have hlt : w.heap.size + 1 < w1.heap.size := World.block_lt_of_cell? w1 _ k2
  go_wp2_with fail
  refine (HK2.out _).mono ?_
  rintro e w2 ⟨rfl, G1⟩
  have k0 : w2.cell? ⟨w.heap.size, 0, none⟩ = some (.int .i64 x1) := by rw [G1.below.cell (by simp; omega)]; exact k0
  have k1 : w2.cell? ⟨w.heap.size, 1, none⟩ = some (.int .i64 x2) := by rw [G1.below.cell (by simp; omega)]; exact k1
  have k2 : w2.cell? ⟨w.heap.size + 1, 0, none⟩ = some (.int .i64 y1) := by rw [G1.below.cell (by simp; omega)]; exact k2
  have k3 : w2.cell? ⟨w.heap.size + 1, 1, none⟩ = some (.int .i64 y2) := by rw [G1.below.cell (by simp; omega)]; exact k3
  have G : Hid (Grw w w2) := G.out.trans G1
  clear G1
  have hlt : w.heap.size + 1 < w2.heap.size := World.block_lt_of_cell? w2 _ k2
  by_cases hc : c1 = c2
  rotate_left
  · have b0 : (c1 != c2) = true := by simp [hc]
    by_cases hlt2 : c2 < c1
    · have ec : c = 1 := by rw [HC.out, if_pos hc, if_pos hlt2]
      have b1 : decide (c2 < c1) = true := decide_eq_true hlt2
      subst ec
      clear HC k0 k1 k2 k3 HK1 HK2 HZ1 HZ2 HM
      go_wp2_with fail
      refine (HB.out _ _).mono ?_
      rintro e w3 ⟨rfl, hw⟩
      subst hw
      go_wp2
      go_ret
      exact ⟨rfl, G.out⟩
    · have ec : c = -1 := by rw [HC.out, if_pos hc, if_neg hlt2]
      have b1 : decide (c2 < c1) = false := decide_eq_false hlt2
      subst ec
      clear HC k0 k1 k2 k3 HK1 HK2 HZ1 HZ2 HM
      go_wp2_with fail
      refine (HB.out _ _).mono ?_
      rintro e w3 ⟨rfl, hw⟩
      subst hw
      go_wp2
      go_ret
      exact ⟨rfl, G.out⟩
  have b0 : (c1 != c2) = false := by simp [hc]
  subst hc
  by_cases hz : c1 = 0
  · have ec : c = 0 := by rw [HC.out, if_neg (by simp), if_pos hz]
    subst ec hz
    clear HC k0 k1 k2 k3 HK1 HK2 HZ1 HZ2 HM
    go_wp2
    go_ret
    exact ⟨rfl, G.out⟩
  have b1 : (c1 == 0) = false := by simp [hz]
  go_wp2_with fail
  refine (HZ1.out _).mono ?_
  rintro e w3 ⟨rfl, G1⟩
  have k0 : w3.cell? ⟨w.heap.size, 0, none⟩ = some (.int .i64 x1) := by rw [G1.below.cell (by simp; omega)]; exact k0
  have k1 : w3.cell? ⟨w.heap.size, 1, none⟩ = some (.int .i64 x2) := by rw [G1.below.cell (by simp; omega)]; exact k1
  have k2 : w3.cell? ⟨w.heap.size + 1, 0, none⟩ = some (.int .i64 y1) := by rw [G1.below.cell (by simp; omega)]; exact k2
  have k3 : w3.cell? ⟨w.heap.size + 1, 1, none⟩ = some (.int .i64 y2) := by rw [G1.below.cell (by simp; omega)]; exact k3
  have G : Hid (Grw w w3) := G.out.trans G1
  clear G1
  have hlt : w.heap.size + 1 < w3.heap.size := World.block_lt_of_cell? w3 _ k2
  go_wp2_with fail
  refine (HZ2.out _).mono ?_
  rintro e w4 ⟨rfl, G1⟩
  have G34 : Grw w3 w4 := ((Grw.refl _).alloc _).trans G1
  have p0 : w4.cell? ⟨w3.heap.size, 0, none⟩ = some (.int .i64 p) := by rw [G1.below.cell (by simp)]; simp
  have p1 : w4.cell? ⟨w3.heap.size, 1, none⟩ = some (.int .i64 x2) := by rw [G1.below.cell (by simp)]; simp
  have k0 : w4.cell? ⟨w.heap.size, 0, none⟩ = some (.int .i64 x1) := by rw [G34.below.cell (by simp; omega)]; exact k0
  have k1 : w4.cell? ⟨w.heap.size, 1, none⟩ = some (.int .i64 x2) := by rw [G34.below.cell (by simp; omega)]; exact k1
  have G : Hid (Grw w w4) := (G.out.alloc _).trans G1
  have hlt3 : w3.heap.size < w4.heap.size := World.block_lt_of_cell? w4 _ p0
  have hlt4 : w.heap.size < w4.heap.size := by omega
  clear G1 G34 k2 k3
  have HE := fun w => eql_word p x2 q y2 w
  by_cases he : p = q ∧ x2 = y2
  · have ec : c = 0 := by rw [HC.out, if_neg (by simp), if_neg hz, if_pos (by rw [hr1, hr2, he.1, he.2])]
    have HE' : ∀ w, (binOp .eql 48 (.agg #[.int .i64 p, .int .i64 x2]) (.agg #[.int .i64 q, .int .i64 y2])).run Try.prog w = .ok (.bool true) w := fun w => by rw [HE w, decide_eq_true he]
    subst ec
    clear HE HC k0 k1 HK1 HK2 HZ1 HZ2 HM he hr1 hr2
    go_wp2
    go_ret
    exact ⟨rfl, G.out.alloc _⟩
  have HE' : ∀ w, (binOp .eql 48 (.agg #[.int .i64 p, .int .i64 x2]) (.agg #[.int .i64 q, .int .i64 y2])).run Try.prog w = .ok (.bool false) w := fun w => by rw [HE w, decide_eq_false he]
  have HC : Hid (c = if (decide (r2 < r1) != m) = true then 1 else -1) := by
    show c = _
    rw [HC.out, if_neg (by simp), if_neg hz, if_neg (by omega)]
  clear HE HK1 HK2 HZ1 HZ2
  by_cases hq : q < p
  · have b2 : decide (q < p) = true := decide_eq_true hq
    cases m
    · have ec : c = 1 := by rw [HC.out, decide_eq_true (by omega)]; rfl
      subst ec
      clear HC hr1 hr2
      go_wp2_with fail
      refine (HM.out _).mono ?_
      rintro e w5 ⟨rfl, G1⟩
      have G : Hid (Grw w w5) := by first | exact (G.out.alloc _).trans G1 | exact ((G.out.alloc _).alloc _).trans G1
      clear G1
      go_wp2_with fail
      refine (HB.out _ _).mono ?_
      rintro e w6 ⟨rfl, hw⟩
      subst hw
      go_wp2
      go_ret
      exact ⟨rfl, G.out⟩
    · have ec : c = -1 := by rw [HC.out, decide_eq_true (by omega)]; rfl
      subst ec
      clear HC hr1 hr2
      go_wp2_with fail
      refine (HM.out _).mono ?_
      rintro e w5 ⟨rfl, G1⟩
      have G : Hid (Grw w w5) := by first | exact (G.out.alloc _).trans G1 | exact ((G.out.alloc _).alloc _).trans G1
      clear G1
      go_wp2_with fail
      refine (HB.out _ _).mono ?_
      rintro e w6 ⟨rfl, hw⟩
      subst hw
      go_wp2
      go_ret
      exact ⟨rfl, G.out⟩
  have b2 : decide (q < p) = false := decide_eq_false hq
  by_cases hpq : p = q
  · have b3 : (p == q) = true := by simp [hpq]
    by_cases hlow : y2 < x2
    · have b4 : decide (y2 < x2) = true := decide_eq_true hlow
      cases m
      · have ec : c = 1 := by rw [HC.out, decide_eq_true (by omega)]; rfl
        subst ec
        clear HC hr1 hr2
        go_wp2_with fail
        refine (HM.out _).mono ?_
        rintro e w5 ⟨rfl, G1⟩
        have G : Hid (Grw w w5) := by first | exact (G.out.alloc _).trans G1 | exact ((G.out.alloc _).alloc _).trans G1
        clear G1
        go_wp2_with fail
        refine (HB.out _ _).mono ?_
        rintro e w6 ⟨rfl, hw⟩
        subst hw
        go_wp2
        go_ret
        exact ⟨rfl, G.out⟩
      · have ec : c = -1 := by rw [HC.out, decide_eq_true (by omega)]; rfl
        subst ec
        clear HC hr1 hr2
        go_wp2_with fail
        refine (HM.out _).mono ?_
        rintro e w5 ⟨rfl, G1⟩
        have G : Hid (Grw w w5) := by first | exact (G.out.alloc _).trans G1 | exact ((G.out.alloc _).alloc _).trans G1
        clear G1
        go_wp2_with fail
        refine (HB.out _ _).mono ?_
        rintro e w6 ⟨rfl, hw⟩
        subst hw
        go_wp2
        go_ret
        exact ⟨rfl, G.out⟩
    · have b4 : decide (y2 < x2) = false := decide_eq_false hlow
      cases m
      · have ec : c = -1 := by rw [HC.out, decide_eq_false (by omega)]; rfl
        subst ec
        clear HC hr1 hr2
        go_wp2_with fail
        refine (HM.out _).mono ?_
        rintro e w5 ⟨rfl, G1⟩
        have G : Hid (Grw w w5) := by first | exact (G.out.alloc _).trans G1 | exact ((G.out.alloc _).alloc _).trans G1
        clear G1
        go_wp2_with fail
        refine (HB.out _ _).mono ?_
        rintro e w6 ⟨rfl, hw⟩
        subst hw
        go_wp2
        go_ret
        exact ⟨rfl, G.out⟩
      · have ec : c = 1 := by rw [HC.out, decide_eq_false (by omega)]; rfl
        subst ec
        clear HC hr1 hr2
        go_wp2_with fail
        refine (HM.out _).mono ?_
        rintro e w5 ⟨rfl, G1⟩
        have G : Hid (Grw w w5) := by first | exact (G.out.alloc _).trans G1 | exact ((G.out.alloc _).alloc _).trans G1
        clear G1
        go_wp2_with fail
        refine (HB.out _ _).mono ?_
        rintro e w6 ⟨rfl, hw⟩
        subst hw
        go_wp2
        go_ret
        exact ⟨rfl, G.out⟩
  · have b3 : (p == q) = false := by simp [hpq]
    cases m
    · have ec : c = -1 := by rw [HC.out, decide_eq_false (by omega)]; rfl
      subst ec
      clear HC hr1 hr2
      go_wp2_with fail
      refine (HM.out _).mono ?_
      rintro e w5 ⟨rfl, G1⟩
      have G : Hid (Grw w w5) := by first | exact (G.out.alloc _).trans G1 | exact ((G.out.alloc _).alloc _).trans G1
      clear G1
      go_wp2_with fail
      refine (HB.out _ _).mono ?_
      rintro e w6 ⟨rfl, hw⟩
      subst hw
      go_wp2
      go_ret
      exact ⟨rfl, G.out⟩
    · have ec : c = 1 := by rw [HC.out, decide_eq_false (by omega)]; rfl
      subst ec
      clear HC hr1 hr2
      go_wp2_with fail
      refine (HM.out _).mono ?_
      rintro e w5 ⟨rfl, G1⟩
      have G : Hid (Grw w w5) := by first | exact (G.out.alloc _).trans G1 | exact ((G.out.alloc _).alloc _).trans G1
      clear G1
      go_wp2_with fail
      refine (HB.out _ _).mono ?_
      rintro e w6 ⟨rfl, hw⟩
      subst hw
      go_wp2
      go_ret
      exact ⟨rfl, G.out⟩
end Go.Proofs.Ytfcdobicilediaa
