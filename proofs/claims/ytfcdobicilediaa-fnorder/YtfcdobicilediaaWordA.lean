/- Words, whatever their halves: compareWords has one order by a key, right words or not. -/
import Derived.Test.YtfcdobicilediaaWordC
namespace Go.Proofs.Ytfcdobicilediaa
open Go.RowKit Go.PlainAid Go.Proofs.Ytfcdobicilediaa.Bt Go.Proofs.Ytfcdobicilediaa.Fo Go.Sort
set_option linter.unusedVariables false
set_option maxRecDepth 20000

/-- The bits that the program makes of any two halves. -/
def bT (h l : Int) : Nat := (bits .or .u64 (IntKind.u64.wrap (IntKind.u64.wrap h * 4294967296)) (IntKind.u64.wrap l)).toNat
theorem bits_u64 (x y : Int) : 0 ≤ bits .or .u64 x y ∧ bits .or .u64 x y < 18446744073709551616 := by
  show 0 ≤ IntKind.u64.wrap ((BitVec.ofInt 64 x ||| BitVec.ofInt 64 y).toNat : Int) ∧ IntKind.u64.wrap ((BitVec.ofInt 64 x ||| BitVec.ofInt 64 y).toNat : Int) < 18446744073709551616
  rw [IntKind.wrap_u64]
  omega
theorem bT_lt (h l : Int) : bT h l < 2 ^ 64 := by
  have := bits_u64 (IntKind.u64.wrap (IntKind.u64.wrap h * 4294967296)) (IntKind.u64.wrap l)
  unfold bT
  omega
theorem bT_eq (h l : Int) : bits .or .u64 (IntKind.u64.wrap (IntKind.u64.wrap h * 4294967296)) (IntKind.u64.wrap l) = ((bT h l : Nat) : Int) := by
  have := bits_u64 (IntKind.u64.wrap (IntKind.u64.wrap h * 4294967296)) (IntKind.u64.wrap l)
  unfold bT
  omega
theorem bT_ok {h l : Int} (hw : okW h l) : bT h l = bW h l := by
  have h1 : IntKind.u64.wrap h = h := by unfold okW at hw; rw [IntKind.wrap_u64]; omega
  have h2 : IntKind.u64.wrap l = l := by unfold okW at hw; rw [IntKind.wrap_u64]; omega
  have h3 : IntKind.u64.wrap (h * 4294967296) = h * 4294967296 := by unfold okW at hw; rw [IntKind.wrap_u64]; omega
  unfold bT
  rw [h1, h2, h3, or_word h l hw]
  omega
/-- The key of any two halves. -/
def kA (x : Int × Int) : Int := kx (rI (bT x.1 x.2)) (sg (bT x.1 x.2))
theorem kA_ok {x : Int × Int} (hw : okW x.1 x.2) : kA x = kW x := by unfold kA kW; rw [bT_ok hw, rI_bW hw, sg_bW hw]
def cmpA (x y : Int × Int) : Int := ord3 (kA x) (kA y)
theorem valueOf_all (h l : Int) (w : World) : Calls Try.prog 59 #[.agg #[.int .i64 h, .int .i64 l]] w fun e w' => e = .returned (.float .f64 (bT h l)) ∧ Grw w w' := by
  have hf := fun w => frombits_run (bT h l) w
  have ho := bT_eq h l
  generalize bT h l = b at hf ho ⊢
  go_enter Try.func59, Try.ntmps59
  go_wp2
  go_ret
  exact ⟨rfl, (Grw.refl _).alloc _⟩

set_option maxHeartbeats 1000000 in
theorem compareWords_all (x y : Int × Int) (w : World) : Calls Try.prog 55 #[.agg #[.int .i64 x.1, .int .i64 x.2], .agg #[.int .i64 y.1, .int .i64 y.2]] w fun e w' => e = .returned (.int .i64 (cmpA x y)) ∧ Grw w w' := by
  have HC : Hid (cmpA x y = if ord3 (clx (rI (bT x.1 x.2)) (sg (bT x.1 x.2))) (clx (rI (bT y.1 y.2)) (sg (bT y.1 y.2))) = 0 then fcmp (rI (bT x.1 x.2)) (sg (bT x.1 x.2)) (rI (bT y.1 y.2)) (sg (bT y.1 y.2)) else ord3 (clx (rI (bT x.1 x.2)) (sg (bT x.1 x.2))) (clx (rI (bT y.1 y.2)) (sg (bT y.1 y.2)))) := by
    show cmpA x y = _
    rw [or_eq _ _ _ _ (rI_nn _) (rI_nn _) (rI_lt _) (rI_lt _)]
    rfl
  have HV1 : Hid (∀ w, Calls Try.prog 59 #[.agg #[.int .i64 x.1, .int .i64 x.2]] w fun e w' => e = .returned (.float .f64 (bT x.1 x.2)) ∧ Grw w w') := fun w => valueOf_all _ _ w
  have HV2 : Hid (∀ w, Calls Try.prog 59 #[.agg #[.int .i64 y.1, .int .i64 y.2]] w fun e w' => e = .returned (.float .f64 (bT y.1 y.2)) ∧ Grw w w') := fun w => valueOf_all _ _ w
  have HK1 : Hid (∀ w, Calls Try.prog 58 #[.float .f64 (bT x.1 x.2)] w fun e w' => e = .returned (.int .i64 (clx (rI (bT x.1 x.2)) (sg (bT x.1 x.2)))) ∧ w' = w) := fun w => classOf_any _ (bT_lt _ _) w
  have HK2 : Hid (∀ w, Calls Try.prog 58 #[.float .f64 (bT y.1 y.2)] w fun e w' => e = .returned (.int .i64 (clx (rI (bT y.1 y.2)) (sg (bT y.1 y.2)))) ∧ w' = w) := fun w => classOf_any _ (bT_lt _ _) w
  have HF : Hid (∀ w, Calls Try.prog 83 #[.float .f64 (bT x.1 x.2), .float .f64 (bT y.1 y.2)] w fun e w' => e = .returned (.int .i64 (fcmp (rI (bT x.1 x.2)) (sg (bT x.1 x.2)) (rI (bT y.1 y.2)) (sg (bT y.1 y.2)))) ∧ w' = w) := fun w => compareF_any _ _ w
  have HI : Hid (∀ w, Calls Try.prog 82 #[.int .i64 (clx (rI (bT x.1 x.2)) (sg (bT x.1 x.2))), .int .i64 (clx (rI (bT y.1 y.2)) (sg (bT y.1 y.2)))] w fun e w' => e = .returned (.int .i64 (ord3 (clx (rI (bT x.1 x.2)) (sg (bT x.1 x.2))) (clx (rI (bT y.1 y.2)) (sg (bT y.1 y.2))))) ∧ w' = w) := fun w => compareI_any _ _ w
  generalize cmpA x y = c at HC ⊢
  generalize fcmp (rI (bT x.1 x.2)) (sg (bT x.1 x.2)) (rI (bT y.1 y.2)) (sg (bT y.1 y.2)) = c2 at HC HF
  generalize clx (rI (bT x.1 x.2)) (sg (bT x.1 x.2)) = q1 at HC HK1 HI
  generalize clx (rI (bT y.1 y.2)) (sg (bT y.1 y.2)) = q2 at HC HK2 HI
  generalize ord3 q1 q2 = c1 at HC HI
  generalize bT x.1 x.2 = b1 at HV1 HK1 HF
  generalize bT y.1 y.2 = b2 at HV2 HK2 HF
  generalize x.1 = x1 at *
  generalize x.2 = x2 at *
  generalize y.1 = y1 at *
  generalize y.2 = y2 at *
  have H3 : Hid (∀ w b, w.cell? ⟨b, 0, none⟩ = some (.int .i64 c1) → w.cell? ⟨b, 1, none⟩ = some (.int .i64 c2) → Calls Try.prog 81 #[.slice (some ⟨b, 0, none⟩) 2 2] w fun e w' => e = .returned (.int .i64 c) ∧ w' = w) := fun w b h0 h1 => HC.out ▸ orI_two c1 c2 b 2 w h0 h1
  clear HC
  go_enter Try.func55, Try.ntmps55
  have hmix : Try.prog.follows .mixedOrders = true := by kernel_rfl
  obtain ⟨W, hW⟩ : ∃ W, W = (w.alloc (.cells #[.int .i64 x1, .int .i64 x2] 48)).alloc (.cells #[.int .i64 y1, .int .i64 y2] 48) := ⟨_, rfl⟩
  have k0 : ∀ n os, (grow (W.drewN n) os).cell? ⟨w.heap.size, 0, none⟩ = some (.int .i64 x1) := cell_grown (by rw [hW]; simp; omega) (by rw [hW]; simp)
  have k1 : ∀ n os, (grow (W.drewN n) os).cell? ⟨w.heap.size, 1, none⟩ = some (.int .i64 x2) := cell_grown (by rw [hW]; simp; omega) (by rw [hW]; simp)
  have k2 : ∀ n os, (grow (W.drewN n) os).cell? ⟨w.heap.size + 1, 0, none⟩ = some (.int .i64 y1) := cell_grown (by rw [hW]; simp) (by rw [hW]; simp)
  have k3 : ∀ n os, (grow (W.drewN n) os).cell? ⟨w.heap.size + 1, 1, none⟩ = some (.int .i64 y2) := cell_grown (by rw [hW]; simp) (by rw [hW]; simp)
  have G : Hid (Grw w W) := by rw [hW]; exact ((Grw.refl _).alloc _).alloc _
  go_wp2_with fail
  rw [← hW]
  clear hW
  refine wp_region_quiet_grown (by assumption) (by kernel_rfl) ?_
  repeat (go_big_quiet_step (first | fail | (first | (go_at_call 59; with_reducible exact Calls.grown_of (HV1.out _)) | (go_at_call 59; with_reducible exact Calls.grown_of (HV2.out _)))))
  refine wpQuiet_nil ?_
  intro _ hw'
  obtain ⟨⟨nq, osq⟩, hw''⟩ := hw'
  subst hw''
  have G2 : Hid (Grw w (grow (W.drewN nq) osq)) := G.out.trans ⟨nq, osq, rfl⟩
  clear k0 k1 k2 k3 G
  generalize grow (W.drewN nq) osq = V at G2 ⊢
  go_wp2_with fail
  refine (HK1.out _).mono ?_
  rintro e w1 ⟨rfl, hw⟩
  subst hw
  go_wp2_with fail
  refine (HK2.out _).mono ?_
  rintro e w1 ⟨rfl, hw⟩
  subst hw
  go_wp2_with fail
  refine (HI.out _).mono ?_
  rintro e w1 ⟨rfl, hw⟩
  subst hw
  go_wp2_with fail
  refine (HF.out _).mono ?_
  rintro e w1 ⟨rfl, hw⟩
  subst hw
  go_wp2_with fail
  refine (H3.out _ _ (by simp) (by simp)).mono ?_
  rintro e w1 ⟨rfl, hw⟩
  subst hw
  go_wp2
  go_ret
  exact ⟨rfl, G2.out.alloc _⟩
end Go.Proofs.Ytfcdobicilediaa
