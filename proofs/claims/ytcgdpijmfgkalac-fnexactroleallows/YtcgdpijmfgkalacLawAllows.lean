/- The walk of laws.FnExactRoleAllows. -/
import Derived.Test.YtcgdpijmfgkalacLawRole
import Derived.Test.YtcgdpijmfgkalacAllowW
namespace Go.Proofs.Ytcgdpijmfgkalac
open Go.RowKit Go.PlainAid Go.Proofs.Ytcgdpijmfgkalac.Bt Go.Sort
set_option linter.unusedVariables false
set_option maxRecDepth 20000
set_option maxHeartbeats 4000000 in
theorem lawRoleAllows_any (nm : ByteArray) (rs : List RuleV) (q m i : Int) (a : Option Addr) (len cap : Nat) (proto y port : Int) (w : World) (h : Rw RuR 6 w a rs) (hl : rs.length = len) (hs : nm.size ≤ maxLen) (hm : len ≤ maxLen) (hp : proto ≤ 9223372036854775807) (ht : port ≤ 9223372036854775807) :
    Calls Try.prog 3 #[.agg #[.string nm, .slice a len cap, .int .i64 q, .int .i64 m, .int .i64 i], .int .i64 proto, .int .i64 y, .int .i64 port] w fun e w' => e = .returned (.bool true) ∧ Below w.heap.size w w' := by
  have RW : Hid (Rw RuR 6 w a rs) := h
  have HZ : Hid (∀ w, Calls Try.prog 5 #[.agg #[.string nm, .slice a len cap, .int .i64 q, .int .i64 m, .int .i64 i], .int .i64 1048576] w fun e w' => ∃ r : Int, e = .returned (.int .i64 r) ∧ (0 ≤ r → r = 1048576 - nm.size - len) ∧ -1 ≤ r ∧ r ≤ 1048576 ∧ Below w.heap.size w w') := fun w => (szRole_any nm q m i a len cap 1048576 w (by unfold maxLen at hs; omega) (by unfold maxLen at hm; omega) (by omega) (by omega)).mono fun e w' ⟨r, h1, h2, h3, h4, h5⟩ => ⟨r, h1, h2, h3, h4, h5.below⟩
  clear h
  go_enter Try.func3, Try.ntmps3
  go_wp2_with fail
  refine (HZ.out _).mono ?_
  rintro e wx1 ⟨r, rfl, hr, hr1, hr2, bx⟩
  have c1_0_0 : wx1.cell? ⟨w.heap.size, 0, none⟩ = some (.string nm) := bkeep bx (by simp [go_sem])
  have c1_0_1 : wx1.cell? ⟨w.heap.size, 1, none⟩ = some (.slice a len cap) := bkeep bx (by simp [go_sem])
  have c1_0_2 : wx1.cell? ⟨w.heap.size, 2, none⟩ = some (.int .i64 q) := bkeep bx (by simp [go_sem])
  have c1_0_3 : wx1.cell? ⟨w.heap.size, 3, none⟩ = some (.int .i64 m) := bkeep bx (by simp [go_sem])
  have c1_0_4 : wx1.cell? ⟨w.heap.size, 4, none⟩ = some (.int .i64 i) := bkeep bx (by simp [go_sem])
  have BX1 : Hid (Below w.heap.size w wx1) := ((Below.refl w.heap.size w).alloc (by simp <;> omega) _).trans (bx.mono (by simp <;> omega))
  clear bx
  by_cases hr0 : r < 0
  · go_wp2
    go_ret
    exact ⟨rfl, BX1.out⟩
  have hb := hr (by omega)
  have HT : Hid (∀ w, Rw RuR 6 w a rs → Calls Try.prog 7 #[.agg #[.string nm, .slice a len cap, .int .i64 q, .int .i64 m, .int .i64 i]] w fun e w' => ∃ a', e = .returned (.agg #[.string nm, .slice a' len len, .int .i64 q, .int .i64 m, .int .i64 i]) ∧ Rw RuR 6 w' a' rs ∧ Below w.heap.size w w') := fun w h => (toRole_any nm rs q m i a len cap w h hl (by omega)).mono fun e w' ⟨a', h1, _, h2, h3⟩ => ⟨a', h1, h2, h3⟩
  have HS : Hid (∀ w a', Rw RuR 6 w a' rs → Calls Try.prog 6 #[.agg #[.string nm, .slice a' len len, .int .i64 q, .int .i64 m, .int .i64 i], .int .i64 proto, .int .i64 y, .int .i64 port] w fun e w' => e = .returned (.tuple #[.bool (raB ⟨nm, rs, q, m, i⟩ proto y port), .int .i64 (raC ⟨nm, rs, q, m, i⟩ proto y port)]) ∧ Below w.heap.size w w') := fun w a' h => (specAllows_any nm rs q m i a' len len proto y port w (by omega) h hl (by omega)).mono fun e w' h => ⟨h.1, h.2.below⟩
  have HI : Hid (∀ w a', Rw RuR 6 w a' rs → Calls Try.prog 8 #[.agg #[.string nm, .slice a' len len, .int .i64 q, .int .i64 m, .int .i64 i], .int .i64 proto, .int .i64 y, .int .i64 port] w fun e w' => e = .returned (.tuple #[.bool (raB ⟨nm, rs, q, m, i⟩ proto y port), .int .i64 (raC ⟨nm, rs, q, m, i⟩ proto y port)]) ∧ Below w.heap.size w w') := fun w a' h => (implAllows_any nm rs q m i a' len len proto y port w (by omega) h hl (by omega) hp ht).mono fun e w' h => ⟨h.1, h.2.below⟩
  have HE : Hid (∀ w a' a'', Rw RuR 6 w a' rs → Rw RuR 6 w a'' rs → Calls Try.prog 9 #[.agg #[.string nm, .slice a' len len, .int .i64 q, .int .i64 m, .int .i64 i], .agg #[.string nm, .slice a'' len len, .int .i64 q, .int .i64 m, .int .i64 i]] w fun e w' => e = .returned (.bool true) ∧ Below w.heap.size w w') := fun w a' a'' h h' => (eqRole_yes nm rs q m i a' a'' len len len w h h' hl (by omega)).mono fun e w' h => ⟨h.1, h.2.below⟩
  generalize raB ⟨nm, rs, q, m, i⟩ proto y port = z1 at HS HI
  generalize raC ⟨nm, rs, q, m, i⟩ proto y port = z2 at HS HI
  have hne1 : (z1 != z1) = false := by simp
  have hne2 : (z2 != z2) = false := by simp
  clear hr hr1 hr2 hb HZ
  go_wp2_with fail
  refine (HT.out _ (RW.out.keep RuR.kp BX1.out)).mono ?_
  rintro e wx2 ⟨a2, rfl, hr2, bx⟩
  have c2_0_0 : wx2.cell? ⟨w.heap.size, 0, none⟩ = some (.string nm) := bkeep bx (by first | (simp [go_sem]; done) | simp [go_sem, c1_0_0])
  have c2_0_1 : wx2.cell? ⟨w.heap.size, 1, none⟩ = some (.slice a len cap) := bkeep bx (by first | (simp [go_sem]; done) | simp [go_sem, c1_0_1])
  have c2_0_2 : wx2.cell? ⟨w.heap.size, 2, none⟩ = some (.int .i64 q) := bkeep bx (by first | (simp [go_sem]; done) | simp [go_sem, c1_0_2])
  have c2_0_3 : wx2.cell? ⟨w.heap.size, 3, none⟩ = some (.int .i64 m) := bkeep bx (by first | (simp [go_sem]; done) | simp [go_sem, c1_0_3])
  have c2_0_4 : wx2.cell? ⟨w.heap.size, 4, none⟩ = some (.int .i64 i) := bkeep bx (by first | (simp [go_sem]; done) | simp [go_sem, c1_0_4])
  have BX2 : Hid (Below w.heap.size w wx2) := BX1.out.trans (bx.mono (by have := BX1.out.size; simp <;> omega))
  clear bx c1_0_0 c1_0_1 c1_0_2 c1_0_3 c1_0_4 BX1
  have R2 : Hid (Rw RuR 6 _ a2 rs) := hr2
  clear hr2
  go_wp2_with fail
  refine (HS.out _ _ R2.out).mono ?_
  rintro e wx3 ⟨rfl, bx⟩
  have c3_0_0 : wx3.cell? ⟨w.heap.size, 0, none⟩ = some (.string nm) := bkeep bx (by first | (simp [go_sem]; done) | simp [go_sem, c2_0_0])
  have c3_0_1 : wx3.cell? ⟨w.heap.size, 1, none⟩ = some (.slice a len cap) := bkeep bx (by first | (simp [go_sem]; done) | simp [go_sem, c2_0_1])
  have c3_0_2 : wx3.cell? ⟨w.heap.size, 2, none⟩ = some (.int .i64 q) := bkeep bx (by first | (simp [go_sem]; done) | simp [go_sem, c2_0_2])
  have c3_0_3 : wx3.cell? ⟨w.heap.size, 3, none⟩ = some (.int .i64 m) := bkeep bx (by first | (simp [go_sem]; done) | simp [go_sem, c2_0_3])
  have c3_0_4 : wx3.cell? ⟨w.heap.size, 4, none⟩ = some (.int .i64 i) := bkeep bx (by first | (simp [go_sem]; done) | simp [go_sem, c2_0_4])
  have BX3 : Hid (Below w.heap.size w wx3) := BX2.out.trans (bx.mono (by have := BX2.out.size; simp <;> omega))
  clear bx c2_0_0 c2_0_1 c2_0_2 c2_0_3 c2_0_4 BX2
  clear R2
  go_wp2_with fail
  refine (HT.out _ (RW.out.keep RuR.kp BX3.out)).mono ?_
  rintro e wx4 ⟨a4, rfl, hr4, bx⟩
  have c4_0_0 : wx4.cell? ⟨w.heap.size, 0, none⟩ = some (.string nm) := bkeep bx (by first | (simp [go_sem]; done) | simp [go_sem, c3_0_0])
  have c4_0_1 : wx4.cell? ⟨w.heap.size, 1, none⟩ = some (.slice a len cap) := bkeep bx (by first | (simp [go_sem]; done) | simp [go_sem, c3_0_1])
  have c4_0_2 : wx4.cell? ⟨w.heap.size, 2, none⟩ = some (.int .i64 q) := bkeep bx (by first | (simp [go_sem]; done) | simp [go_sem, c3_0_2])
  have c4_0_3 : wx4.cell? ⟨w.heap.size, 3, none⟩ = some (.int .i64 m) := bkeep bx (by first | (simp [go_sem]; done) | simp [go_sem, c3_0_3])
  have c4_0_4 : wx4.cell? ⟨w.heap.size, 4, none⟩ = some (.int .i64 i) := bkeep bx (by first | (simp [go_sem]; done) | simp [go_sem, c3_0_4])
  have BX4 : Hid (Below w.heap.size w wx4) := BX3.out.trans (bx.mono (by have := BX3.out.size; simp <;> omega))
  clear bx c3_0_0 c3_0_1 c3_0_2 c3_0_3 c3_0_4 BX3
  have R4 : Hid (Rw RuR 6 _ a4 rs) := hr4
  clear hr4
  replace R4 : Hid (Rw RuR 6 _ a4 rs) := R4.out.keep RuR.kp ((Below.refl _ _).alloc (Nat.le_refl _) (.cells #[.string nm, .slice a4 len len, .int .i64 q, .int .i64 m, .int .i64 i] 30))
  go_wp2_with fail
  refine (HI.out _ _ R4.out).mono ?_
  rintro e wx5 ⟨rfl, bx⟩
  have c5_0_0 : wx5.cell? ⟨w.heap.size, 0, none⟩ = some (.string nm) := bkeep bx (by exact acell c4_0_0 _)
  have c5_0_1 : wx5.cell? ⟨w.heap.size, 1, none⟩ = some (.slice a len cap) := bkeep bx (by exact acell c4_0_1 _)
  have c5_0_2 : wx5.cell? ⟨w.heap.size, 2, none⟩ = some (.int .i64 q) := bkeep bx (by exact acell c4_0_2 _)
  have c5_0_3 : wx5.cell? ⟨w.heap.size, 3, none⟩ = some (.int .i64 m) := bkeep bx (by exact acell c4_0_3 _)
  have c5_0_4 : wx5.cell? ⟨w.heap.size, 4, none⟩ = some (.int .i64 i) := bkeep bx (by exact acell c4_0_4 _)
  have c5_1_0 : wx5.cell? ⟨wx4.heap.size, 0, none⟩ = some (.string nm) := bkeep bx (by simp [go_sem])
  have c5_1_1 : wx5.cell? ⟨wx4.heap.size, 1, none⟩ = some (.slice a4 len len) := bkeep bx (by simp [go_sem])
  have c5_1_2 : wx5.cell? ⟨wx4.heap.size, 2, none⟩ = some (.int .i64 q) := bkeep bx (by simp [go_sem])
  have c5_1_3 : wx5.cell? ⟨wx4.heap.size, 3, none⟩ = some (.int .i64 m) := bkeep bx (by simp [go_sem])
  have c5_1_4 : wx5.cell? ⟨wx4.heap.size, 4, none⟩ = some (.int .i64 i) := bkeep bx (by simp [go_sem])
  have BX5 : Hid (Below w.heap.size w wx5) := (BX4.out.alloc (by have := BX4.out.size; simp <;> omega) _).trans (bx.mono (by have := BX4.out.size; simp <;> omega))
  replace R4 : Hid (Rw RuR 6 _ _ rs) := R4.out.keep RuR.kp bx
  clear bx c4_0_0 c4_0_1 c4_0_2 c4_0_3 c4_0_4 BX4
  go_wp2_with fail
  have KP : Hid (∀ wx, Below wx5.heap.size wx5 wx → wx.cell? ⟨wx4.heap.size, 0, none⟩ = some (.string nm) ∧ wx.cell? ⟨wx4.heap.size, 1, none⟩ = some (.slice a4 len len) ∧ wx.cell? ⟨wx4.heap.size, 2, none⟩ = some (.int .i64 q) ∧ wx.cell? ⟨wx4.heap.size, 3, none⟩ = some (.int .i64 m) ∧ wx.cell? ⟨wx4.heap.size, 4, none⟩ = some (.int .i64 i) ∧ wx.cell? ⟨w.heap.size, 0, none⟩ = some (.string nm) ∧ wx.cell? ⟨w.heap.size, 1, none⟩ = some (.slice a len cap) ∧ wx.cell? ⟨w.heap.size, 2, none⟩ = some (.int .i64 q) ∧ wx.cell? ⟨w.heap.size, 3, none⟩ = some (.int .i64 m) ∧ wx.cell? ⟨w.heap.size, 4, none⟩ = some (.int .i64 i)) := fun wx hb => ⟨bkeep hb c5_1_0, bkeep hb c5_1_1, bkeep hb c5_1_2, bkeep hb c5_1_3, bkeep hb c5_1_4, bkeep hb c5_0_0, bkeep hb c5_0_1, bkeep hb c5_0_2, bkeep hb c5_0_3, bkeep hb c5_0_4⟩
  have DR : Hid (Below wx5.heap.size wx5 wx5.drew) := (Below.refl _ _).drew
  refine wp_region_held_drew (S := (fun wx => wx.cell? ⟨wx4.heap.size, 0, none⟩ = some (.string nm) ∧ wx.cell? ⟨wx4.heap.size, 1, none⟩ = some (.slice a4 len len) ∧ wx.cell? ⟨wx4.heap.size, 2, none⟩ = some (.int .i64 q) ∧ wx.cell? ⟨wx4.heap.size, 3, none⟩ = some (.int .i64 m) ∧ wx.cell? ⟨wx4.heap.size, 4, none⟩ = some (.int .i64 i) ∧ wx.cell? ⟨w.heap.size, 0, none⟩ = some (.string nm) ∧ wx.cell? ⟨w.heap.size, 1, none⟩ = some (.slice a len cap) ∧ wx.cell? ⟨w.heap.size, 2, none⟩ = some (.int .i64 q) ∧ wx.cell? ⟨w.heap.size, 3, none⟩ = some (.int .i64 m) ∧ wx.cell? ⟨w.heap.size, 4, none⟩ = some (.int .i64 i))) (by kernel_rfl) ?_ (fun hH0 => ?_)
  · exact KP.out _ DR.out
  refine wpAnyH_take (i := 0) (v := ?v901) rfl (by kernel_rfl) (by kernel_rfl) (by kernel_rfl) (fun _ _ _ h => h) (Or.inl ⟨by rfl, ?hy901⟩) (by assumption) ?rest901
  case hy901 => (intro w hSw; (try dsimp only at hSw); go_simp; (try with_reducible rfl))
  refine wpAnyH_take (i := 1) (v := ?v902) rfl (by kernel_rfl) (by kernel_rfl) (by kernel_rfl) (fun _ _ _ h => h) (Or.inl ⟨by rfl, ?hy902⟩) (by assumption) ?rest902
  case hy902 => (intro w hSw; (try dsimp only at hSw); go_simp; (try with_reducible rfl))
  refine wpAnyH_ready (rs := [2]) (by kernel_rfl) (by simp) ?_
  refine AllReadyH.cons rfl (fun K hK => ?_) ?_
  · go_simp
    go_at_call 7
    (with_reducible refine (HT.out _ (RW.out.keep RuR.kp (BX5.out.trans (DR.out.mono BX5.out.size)))).mono ?_)
    rintro e wc ⟨a6, rfl, hr6, bc⟩
    have BC : Hid (Below wx5.heap.size wx5 wc) := DR.out.trans bc
    have R4c : Hid (Rw RuR 6 wc a4 rs) := R4.out.keep RuR.kp BC.out
    have R6 := hr6
    clear hr6
    refine hK.out _ _ ?_ (fun hH903 => ?_)
    · (try dsimp only)
      first | with_reducible exact KP.out _ BD.out | with_reducible exact KP.out _ BC.out
    clear hK K hH0
    refine wpAnyH_ready (rs := [3]) (by kernel_rfl) (by simp) ?_
    refine AllReadyH.cons rfl (fun K hK => ?_) ?_
    · go_simp
      go_at_call 9
      (with_reducible refine (HE.out _ _ _ R4c.out R6).mono ?_)
      rintro e wd ⟨rfl, bd⟩
      have BD : Hid (Below wx5.heap.size wx5 wd) := BC.out.trans (bd.mono BC.out.size)
      clear bd
      refine hK.out _ _ ?_ (fun hH904 => ?_)
      · (try dsimp only)
        first | with_reducible exact KP.out _ BD.out | with_reducible exact KP.out _ BC.out
      clear hK K hH903
      refine wpAnyH_take (i := 4) (v := ?v905) rfl (by kernel_rfl) (by kernel_rfl) (by kernel_rfl) (fun _ _ _ h => h) (Or.inl ⟨by rfl, ?hy905⟩) (by assumption) ?rest905
      case hy905 => (intro w hSw; (try dsimp only at hSw); go_simp; (try with_reducible rfl))
      refine wpAnyH_done (by kernel_rfl) ?_ _
      go_simp
      go_wp2
      go_ret
      exact ⟨rfl, BX5.out.trans (BD.out.mono BX5.out.size)⟩
    exact AllReadyH.nil
  exact AllReadyH.nil
end Go.Proofs.Ytcgdpijmfgkalac
