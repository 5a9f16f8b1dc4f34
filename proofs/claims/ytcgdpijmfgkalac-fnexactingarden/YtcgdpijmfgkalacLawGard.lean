/- The walk of laws.FnExactInGarden. -/
import Derived.Test.YtcgdpijmfgkalacLawConf
import Derived.Test.YtcgdpijmfgkalacGardW
namespace Go.Proofs.Ytcgdpijmfgkalac
open Go.RowKit Go.PlainAid Go.Proofs.Ytcgdpijmfgkalac.Bt Go.Sort
set_option linter.unusedVariables false
set_option maxRecDepth 20000
set_option maxHeartbeats 8000000 in
theorem lawInGarden_any (ip b gt : Int) (gm wm : ByteArray) (rs : Int) (x y : Option Addr) (lenx capx leny capy : Nat) (ps : List PlaceV) (ros : List RoleV) (q port : Int) (w : World) (h : Rw PlR 4 w x ps) (hl : ps.length = lenx) (h2 : Rw (RoR 0) 5 w y ros) (hl2 : ros.length = leny) (hg : gm.size ≤ maxLen) (hw : wm.size ≤ maxLen) (hx : lenx ≤ maxLen) (hy : leny ≤ maxLen) (ht : port ≤ 9223372036854775807) :
    Calls Try.prog 4 #[.agg #[.int .i64 ip, .int .i64 b, .int .i64 gt, .string gm, .string wm, .int .i64 rs, .slice x lenx capx, .slice y leny capy], .int .i64 q, .int .i64 port] w fun e w' => e = .returned (.bool true) ∧ Below w.heap.size w w' := by
  have RX : Hid (Rw PlR 4 w x ps) := h
  have RY : Hid (Rw (RoR 0) 5 w y ros) := h2
  have HZ : Hid (∀ w, Rw PlR 4 w x ps → Rw (RoR 0) 5 w y ros → Calls Try.prog 10 #[.agg #[.int .i64 ip, .int .i64 b, .int .i64 gt, .string gm, .string wm, .int .i64 rs, .slice x lenx capx, .slice y leny capy], .int .i64 1048576] w fun e w' => ∃ r : Int, e = .returned (.int .i64 r) ∧ (0 ≤ r → (gm.size : Int) + wm.size + lenx + leny + szR ros ≤ 1048576) ∧ -1 ≤ r ∧ r ≤ 1048576 ∧ Below w.heap.size w w') := fun w h h2 => (szConfig_any ip b gt gm wm rs x y lenx capx leny capy ps ros w h hl h2 hl2 (by unfold maxLen at hg; omega) (by unfold maxLen at hw; omega) (by unfold maxLen at hx; omega) (by unfold maxLen at hy; omega)).mono fun e w' ⟨r, h1, h2, h3, h4, h5⟩ => ⟨r, h1, h2, h3, h4, h5.below⟩
  clear h h2
  go_enter Try.func4, Try.ntmps4
  go_wp2_with fail
  refine (HZ.out _ (RX.out.keep PlR.kp ((Below.refl w.heap.size w).alloc (by simp <;> omega) _)) (RY.out.keep (RoR.kp 0) ((Below.refl w.heap.size w).alloc (by simp <;> omega) _))).mono ?_
  rintro e wx1 ⟨r, rfl, hr, hr1, hr2, bx⟩
  have c1_0_0 : wx1.cell? ⟨w.heap.size, 0, none⟩ = some (.int .i64 ip) := bkeep bx (by simp [go_sem])
  have c1_0_1 : wx1.cell? ⟨w.heap.size, 1, none⟩ = some (.int .i64 b) := bkeep bx (by simp [go_sem])
  have c1_0_2 : wx1.cell? ⟨w.heap.size, 2, none⟩ = some (.int .i64 gt) := bkeep bx (by simp [go_sem])
  have c1_0_3 : wx1.cell? ⟨w.heap.size, 3, none⟩ = some (.string gm) := bkeep bx (by simp [go_sem])
  have c1_0_4 : wx1.cell? ⟨w.heap.size, 4, none⟩ = some (.string wm) := bkeep bx (by simp [go_sem])
  have c1_0_5 : wx1.cell? ⟨w.heap.size, 5, none⟩ = some (.int .i64 rs) := bkeep bx (by simp [go_sem])
  have c1_0_6 : wx1.cell? ⟨w.heap.size, 6, none⟩ = some (.slice x lenx capx) := bkeep bx (by simp [go_sem])
  have c1_0_7 : wx1.cell? ⟨w.heap.size, 7, none⟩ = some (.slice y leny capy) := bkeep bx (by simp [go_sem])
  have BX1 : Hid (Below w.heap.size w wx1) := ((Below.refl w.heap.size w).alloc (by simp <;> omega) _).trans (bx.mono (by simp <;> omega))
  clear bx
  by_cases hr0 : r < 0
  · go_wp2
    go_ret
    exact ⟨rfl, BX1.out⟩
  have hb := hr (by omega)
  have hsn := szR_nonneg ros
  have hsz : SzR ros := SzR_of (n := 1048576) (by omega) (by omega)
  have HT : Hid (∀ w, Rw PlR 4 w x ps → Rw (RoR 0) 5 w y ros → Calls Try.prog 12 #[.agg #[.int .i64 ip, .int .i64 b, .int .i64 gt, .string gm, .string wm, .int .i64 rs, .slice x lenx capx, .slice y leny capy]] w fun e w' => ∃ xa ya, e = .returned (.agg #[.int .i64 ip, .int .i64 b, .int .i64 gt, .string gm, .string wm, .int .i64 rs, .slice xa lenx lenx, .slice ya leny leny]) ∧ (Rw PlR 4 w' xa ps ∧ Rw (RoR 0) 5 w' ya ros) ∧ Below w.heap.size w w') := fun w h h2 => toConfig_any ip b gt gm wm rs x y lenx capx leny capy ps ros w h hl h2 hl2 (by omega) (by omega) hsz
  have HS : Hid (∀ w xa ya, Rw PlR 4 w xa ps → Rw (RoR 0) 5 w ya ros → Calls Try.prog 11 #[.agg #[.int .i64 ip, .int .i64 b, .int .i64 gt, .string gm, .string wm, .int .i64 rs, .slice xa lenx lenx, .slice ya leny leny], .int .i64 q, .int .i64 port] w fun e w' => e = .returned (.tuple #[.bool (igB ip b gt gm wm rs ps ros q port), .int .i64 (igC ip b gt gm wm rs ps ros q port)]) ∧ Below w.heap.size w w') := fun w xa ya h h2 => (specGarden_any ip b gt gm wm rs xa ya lenx lenx leny leny ps ros q port w h hl h2 hl2 hsz).mono fun e w' h => ⟨h.1, h.2.below⟩
  have HI : Hid (∀ w xa ya, Rw PlR 4 w xa ps → Rw (RoR 0) 5 w ya ros → Calls Try.prog 13 #[.agg #[.int .i64 ip, .int .i64 b, .int .i64 gt, .string gm, .string wm, .int .i64 rs, .slice xa lenx lenx, .slice ya leny leny], .int .i64 q, .int .i64 port] w fun e w' => e = .returned (.tuple #[.bool (igB ip b gt gm wm rs ps ros q port), .int .i64 (igC ip b gt gm wm rs ps ros q port)]) ∧ Below w.heap.size w w') := fun w xa ya h h2 => (implGarden_any ip b gt gm wm rs xa ya lenx lenx leny leny ps ros q port w h hl h2 hl2 hsz ht).mono fun e w' h => ⟨h.1, h.2.below⟩
  have HE : Hid (∀ w xa ya xb yb, Rw PlR 4 w xa ps → Rw PlR 4 w xb ps → Rw (RoR 0) 5 w ya ros → Rw (RoR 0) 5 w yb ros → Calls Try.prog 14 #[.agg #[.int .i64 ip, .int .i64 b, .int .i64 gt, .string gm, .string wm, .int .i64 rs, .slice xa lenx lenx, .slice ya leny leny], .agg #[.int .i64 ip, .int .i64 b, .int .i64 gt, .string gm, .string wm, .int .i64 rs, .slice xb lenx lenx, .slice yb leny leny]] w fun e w' => e = .returned (.bool true) ∧ Below w.heap.size w w') := fun w xa ya xb yb h h' h2 h2' => (eqConfig_yes ip b gt gm wm rs xa ya xb yb lenx leny ps ros w h h' hl h2 h2' hl2 (by omega) (by omega) hsz).mono fun e w' h => ⟨h.1, h.2.below⟩
  generalize igB ip b gt gm wm rs ps ros q port = z1 at HS HI
  generalize igC ip b gt gm wm rs ps ros q port = z2 at HS HI
  have hne1 : (z1 != z1) = false := by simp
  have hne2 : (z2 != z2) = false := by simp
  clear hr hr1 hr2 hb HZ hsz hsn
  go_wp2_with fail
  refine (HT.out _ (RX.out.keep PlR.kp BX1.out) (RY.out.keep (RoR.kp 0) BX1.out)).mono ?_
  rintro e wx2 ⟨xa2, ya2, rfl, hr2, bx⟩
  have c2_0_0 : wx2.cell? ⟨w.heap.size, 0, none⟩ = some (.int .i64 ip) := bkeep bx (by first | (simp [go_sem]; done) | simp [go_sem, c1_0_0])
  have c2_0_1 : wx2.cell? ⟨w.heap.size, 1, none⟩ = some (.int .i64 b) := bkeep bx (by first | (simp [go_sem]; done) | simp [go_sem, c1_0_1])
  have c2_0_2 : wx2.cell? ⟨w.heap.size, 2, none⟩ = some (.int .i64 gt) := bkeep bx (by first | (simp [go_sem]; done) | simp [go_sem, c1_0_2])
  have c2_0_3 : wx2.cell? ⟨w.heap.size, 3, none⟩ = some (.string gm) := bkeep bx (by first | (simp [go_sem]; done) | simp [go_sem, c1_0_3])
  have c2_0_4 : wx2.cell? ⟨w.heap.size, 4, none⟩ = some (.string wm) := bkeep bx (by first | (simp [go_sem]; done) | simp [go_sem, c1_0_4])
  have c2_0_5 : wx2.cell? ⟨w.heap.size, 5, none⟩ = some (.int .i64 rs) := bkeep bx (by first | (simp [go_sem]; done) | simp [go_sem, c1_0_5])
  have c2_0_6 : wx2.cell? ⟨w.heap.size, 6, none⟩ = some (.slice x lenx capx) := bkeep bx (by first | (simp [go_sem]; done) | simp [go_sem, c1_0_6])
  have c2_0_7 : wx2.cell? ⟨w.heap.size, 7, none⟩ = some (.slice y leny capy) := bkeep bx (by first | (simp [go_sem]; done) | simp [go_sem, c1_0_7])
  have BX2 : Hid (Below w.heap.size w wx2) := BX1.out.trans (bx.mono (by have := BX1.out.size; simp <;> omega))
  clear bx c1_0_0 c1_0_1 c1_0_2 c1_0_3 c1_0_4 c1_0_5 c1_0_6 c1_0_7 BX1
  have R2 : Hid (Rw PlR 4 _ xa2 ps ∧ Rw (RoR 0) 5 _ ya2 ros) := hr2
  clear hr2
  go_wp2_with fail
  refine (HS.out _ _ _ R2.out.1 R2.out.2).mono ?_
  rintro e wx3 ⟨rfl, bx⟩
  have c3_0_0 : wx3.cell? ⟨w.heap.size, 0, none⟩ = some (.int .i64 ip) := bkeep bx (by first | (simp [go_sem]; done) | simp [go_sem, c2_0_0])
  have c3_0_1 : wx3.cell? ⟨w.heap.size, 1, none⟩ = some (.int .i64 b) := bkeep bx (by first | (simp [go_sem]; done) | simp [go_sem, c2_0_1])
  have c3_0_2 : wx3.cell? ⟨w.heap.size, 2, none⟩ = some (.int .i64 gt) := bkeep bx (by first | (simp [go_sem]; done) | simp [go_sem, c2_0_2])
  have c3_0_3 : wx3.cell? ⟨w.heap.size, 3, none⟩ = some (.string gm) := bkeep bx (by first | (simp [go_sem]; done) | simp [go_sem, c2_0_3])
  have c3_0_4 : wx3.cell? ⟨w.heap.size, 4, none⟩ = some (.string wm) := bkeep bx (by first | (simp [go_sem]; done) | simp [go_sem, c2_0_4])
  have c3_0_5 : wx3.cell? ⟨w.heap.size, 5, none⟩ = some (.int .i64 rs) := bkeep bx (by first | (simp [go_sem]; done) | simp [go_sem, c2_0_5])
  have c3_0_6 : wx3.cell? ⟨w.heap.size, 6, none⟩ = some (.slice x lenx capx) := bkeep bx (by first | (simp [go_sem]; done) | simp [go_sem, c2_0_6])
  have c3_0_7 : wx3.cell? ⟨w.heap.size, 7, none⟩ = some (.slice y leny capy) := bkeep bx (by first | (simp [go_sem]; done) | simp [go_sem, c2_0_7])
  have BX3 : Hid (Below w.heap.size w wx3) := BX2.out.trans (bx.mono (by have := BX2.out.size; simp <;> omega))
  clear bx c2_0_0 c2_0_1 c2_0_2 c2_0_3 c2_0_4 c2_0_5 c2_0_6 c2_0_7 BX2
  clear R2
  go_wp2_with fail
  refine (HT.out _ (RX.out.keep PlR.kp BX3.out) (RY.out.keep (RoR.kp 0) BX3.out)).mono ?_
  rintro e wx4 ⟨xa4, ya4, rfl, hr4, bx⟩
  have c4_0_0 : wx4.cell? ⟨w.heap.size, 0, none⟩ = some (.int .i64 ip) := bkeep bx (by first | (simp [go_sem]; done) | simp [go_sem, c3_0_0])
  have c4_0_1 : wx4.cell? ⟨w.heap.size, 1, none⟩ = some (.int .i64 b) := bkeep bx (by first | (simp [go_sem]; done) | simp [go_sem, c3_0_1])
  have c4_0_2 : wx4.cell? ⟨w.heap.size, 2, none⟩ = some (.int .i64 gt) := bkeep bx (by first | (simp [go_sem]; done) | simp [go_sem, c3_0_2])
  have c4_0_3 : wx4.cell? ⟨w.heap.size, 3, none⟩ = some (.string gm) := bkeep bx (by first | (simp [go_sem]; done) | simp [go_sem, c3_0_3])
  have c4_0_4 : wx4.cell? ⟨w.heap.size, 4, none⟩ = some (.string wm) := bkeep bx (by first | (simp [go_sem]; done) | simp [go_sem, c3_0_4])
  have c4_0_5 : wx4.cell? ⟨w.heap.size, 5, none⟩ = some (.int .i64 rs) := bkeep bx (by first | (simp [go_sem]; done) | simp [go_sem, c3_0_5])
  have c4_0_6 : wx4.cell? ⟨w.heap.size, 6, none⟩ = some (.slice x lenx capx) := bkeep bx (by first | (simp [go_sem]; done) | simp [go_sem, c3_0_6])
  have c4_0_7 : wx4.cell? ⟨w.heap.size, 7, none⟩ = some (.slice y leny capy) := bkeep bx (by first | (simp [go_sem]; done) | simp [go_sem, c3_0_7])
  have BX4 : Hid (Below w.heap.size w wx4) := BX3.out.trans (bx.mono (by have := BX3.out.size; simp <;> omega))
  clear bx c3_0_0 c3_0_1 c3_0_2 c3_0_3 c3_0_4 c3_0_5 c3_0_6 c3_0_7 BX3
  have R4 : Hid (Rw PlR 4 _ xa4 ps ∧ Rw (RoR 0) 5 _ ya4 ros) := ⟨hr4.1.keep PlR.kp ((Below.refl _ _).alloc (Nat.le_refl _) (.cells #[.int .i64 ip, .int .i64 b, .int .i64 gt, .string gm, .string wm, .int .i64 rs, .slice xa4 lenx lenx, .slice ya4 leny leny] 46)), hr4.2.keep (RoR.kp 0) ((Below.refl _ _).alloc (Nat.le_refl _) (.cells #[.int .i64 ip, .int .i64 b, .int .i64 gt, .string gm, .string wm, .int .i64 rs, .slice xa4 lenx lenx, .slice ya4 leny leny] 46))⟩
  clear hr4
  go_wp2_with fail
  refine (HI.out _ _ _ R4.out.1 R4.out.2).mono ?_
  rintro e wx5 ⟨rfl, bx⟩
  have c5_0_0 : wx5.cell? ⟨w.heap.size, 0, none⟩ = some (.int .i64 ip) := bkeep bx (by exact acell c4_0_0 _)
  have c5_0_1 : wx5.cell? ⟨w.heap.size, 1, none⟩ = some (.int .i64 b) := bkeep bx (by exact acell c4_0_1 _)
  have c5_0_2 : wx5.cell? ⟨w.heap.size, 2, none⟩ = some (.int .i64 gt) := bkeep bx (by exact acell c4_0_2 _)
  have c5_0_3 : wx5.cell? ⟨w.heap.size, 3, none⟩ = some (.string gm) := bkeep bx (by exact acell c4_0_3 _)
  have c5_0_4 : wx5.cell? ⟨w.heap.size, 4, none⟩ = some (.string wm) := bkeep bx (by exact acell c4_0_4 _)
  have c5_0_5 : wx5.cell? ⟨w.heap.size, 5, none⟩ = some (.int .i64 rs) := bkeep bx (by exact acell c4_0_5 _)
  have c5_0_6 : wx5.cell? ⟨w.heap.size, 6, none⟩ = some (.slice x lenx capx) := bkeep bx (by exact acell c4_0_6 _)
  have c5_0_7 : wx5.cell? ⟨w.heap.size, 7, none⟩ = some (.slice y leny capy) := bkeep bx (by exact acell c4_0_7 _)
  have c5_1_0 : wx5.cell? ⟨wx4.heap.size, 0, none⟩ = some (.int .i64 ip) := bkeep bx (by simp [go_sem])
  have c5_1_1 : wx5.cell? ⟨wx4.heap.size, 1, none⟩ = some (.int .i64 b) := bkeep bx (by simp [go_sem])
  have c5_1_2 : wx5.cell? ⟨wx4.heap.size, 2, none⟩ = some (.int .i64 gt) := bkeep bx (by simp [go_sem])
  have c5_1_3 : wx5.cell? ⟨wx4.heap.size, 3, none⟩ = some (.string gm) := bkeep bx (by simp [go_sem])
  have c5_1_4 : wx5.cell? ⟨wx4.heap.size, 4, none⟩ = some (.string wm) := bkeep bx (by simp [go_sem])
  have c5_1_5 : wx5.cell? ⟨wx4.heap.size, 5, none⟩ = some (.int .i64 rs) := bkeep bx (by simp [go_sem])
  have c5_1_6 : wx5.cell? ⟨wx4.heap.size, 6, none⟩ = some (.slice xa4 lenx lenx) := bkeep bx (by simp [go_sem])
  have c5_1_7 : wx5.cell? ⟨wx4.heap.size, 7, none⟩ = some (.slice ya4 leny leny) := bkeep bx (by simp [go_sem])
  have BX5 : Hid (Below w.heap.size w wx5) := (BX4.out.alloc (by have := BX4.out.size; simp <;> omega) _).trans (bx.mono (by have := BX4.out.size; simp <;> omega))
  replace R4 : Hid (Rw PlR 4 _ xa4 ps ∧ Rw (RoR 0) 5 _ ya4 ros) := ⟨R4.out.1.keep PlR.kp bx, R4.out.2.keep (RoR.kp 0) bx⟩
  clear bx c4_0_0 c4_0_1 c4_0_2 c4_0_3 c4_0_4 c4_0_5 c4_0_6 c4_0_7 BX4
  go_wp2_with fail
  have KP : Hid (∀ wx, Below wx5.heap.size wx5 wx → wx.cell? ⟨wx4.heap.size, 0, none⟩ = some (.int .i64 ip) ∧ wx.cell? ⟨wx4.heap.size, 1, none⟩ = some (.int .i64 b) ∧ wx.cell? ⟨wx4.heap.size, 2, none⟩ = some (.int .i64 gt) ∧ wx.cell? ⟨wx4.heap.size, 3, none⟩ = some (.string gm) ∧ wx.cell? ⟨wx4.heap.size, 4, none⟩ = some (.string wm) ∧ wx.cell? ⟨wx4.heap.size, 5, none⟩ = some (.int .i64 rs) ∧ wx.cell? ⟨wx4.heap.size, 6, none⟩ = some (.slice xa4 lenx lenx) ∧ wx.cell? ⟨wx4.heap.size, 7, none⟩ = some (.slice ya4 leny leny) ∧ wx.cell? ⟨w.heap.size, 0, none⟩ = some (.int .i64 ip) ∧ wx.cell? ⟨w.heap.size, 1, none⟩ = some (.int .i64 b) ∧ wx.cell? ⟨w.heap.size, 2, none⟩ = some (.int .i64 gt) ∧ wx.cell? ⟨w.heap.size, 3, none⟩ = some (.string gm) ∧ wx.cell? ⟨w.heap.size, 4, none⟩ = some (.string wm) ∧ wx.cell? ⟨w.heap.size, 5, none⟩ = some (.int .i64 rs) ∧ wx.cell? ⟨w.heap.size, 6, none⟩ = some (.slice x lenx capx) ∧ wx.cell? ⟨w.heap.size, 7, none⟩ = some (.slice y leny capy)) := fun wx hb => ⟨bkeep hb c5_1_0, bkeep hb c5_1_1, bkeep hb c5_1_2, bkeep hb c5_1_3, bkeep hb c5_1_4, bkeep hb c5_1_5, bkeep hb c5_1_6, bkeep hb c5_1_7, bkeep hb c5_0_0, bkeep hb c5_0_1, bkeep hb c5_0_2, bkeep hb c5_0_3, bkeep hb c5_0_4, bkeep hb c5_0_5, bkeep hb c5_0_6, bkeep hb c5_0_7⟩
  have DR : Hid (Below wx5.heap.size wx5 wx5.drew) := (Below.refl _ _).drew
  refine wp_region_held_drew (S := (fun wx => wx.cell? ⟨wx4.heap.size, 0, none⟩ = some (.int .i64 ip) ∧ wx.cell? ⟨wx4.heap.size, 1, none⟩ = some (.int .i64 b) ∧ wx.cell? ⟨wx4.heap.size, 2, none⟩ = some (.int .i64 gt) ∧ wx.cell? ⟨wx4.heap.size, 3, none⟩ = some (.string gm) ∧ wx.cell? ⟨wx4.heap.size, 4, none⟩ = some (.string wm) ∧ wx.cell? ⟨wx4.heap.size, 5, none⟩ = some (.int .i64 rs) ∧ wx.cell? ⟨wx4.heap.size, 6, none⟩ = some (.slice xa4 lenx lenx) ∧ wx.cell? ⟨wx4.heap.size, 7, none⟩ = some (.slice ya4 leny leny) ∧ wx.cell? ⟨w.heap.size, 0, none⟩ = some (.int .i64 ip) ∧ wx.cell? ⟨w.heap.size, 1, none⟩ = some (.int .i64 b) ∧ wx.cell? ⟨w.heap.size, 2, none⟩ = some (.int .i64 gt) ∧ wx.cell? ⟨w.heap.size, 3, none⟩ = some (.string gm) ∧ wx.cell? ⟨w.heap.size, 4, none⟩ = some (.string wm) ∧ wx.cell? ⟨w.heap.size, 5, none⟩ = some (.int .i64 rs) ∧ wx.cell? ⟨w.heap.size, 6, none⟩ = some (.slice x lenx capx) ∧ wx.cell? ⟨w.heap.size, 7, none⟩ = some (.slice y leny capy))) (by kernel_rfl) ?_ (fun hH0 => ?_)
  · exact KP.out _ DR.out
  refine wpAnyH_take (i := 0) (v := ?v901) rfl (by kernel_rfl) (by kernel_rfl) (by kernel_rfl) (fun _ _ _ h => h) (Or.inl ⟨by rfl, ?hy901⟩) (by assumption) ?rest901
  case hy901 => (intro w hSw; (try dsimp only at hSw); go_simp; (try with_reducible rfl))
  refine wpAnyH_take (i := 1) (v := ?v902) rfl (by kernel_rfl) (by kernel_rfl) (by kernel_rfl) (fun _ _ _ h => h) (Or.inl ⟨by rfl, ?hy902⟩) (by assumption) ?rest902
  case hy902 => (intro w hSw; (try dsimp only at hSw); go_simp; (try with_reducible rfl))
  refine wpAnyH_ready (rs := [2]) (by kernel_rfl) (by simp) ?_
  refine AllReadyH.cons rfl (fun K hK => ?_) ?_
  · go_simp
    go_at_call 12
    (with_reducible refine (HT.out _ (RX.out.keep PlR.kp (BX5.out.trans (DR.out.mono BX5.out.size))) (RY.out.keep (RoR.kp 0) (BX5.out.trans (DR.out.mono BX5.out.size)))).mono ?_)
    rintro e wc ⟨xb, yb, rfl, hr6, bc⟩
    have BC : Hid (Below wx5.heap.size wx5 wc) := DR.out.trans bc
    have R4c : Hid (Rw PlR 4 wc xa4 ps ∧ Rw (RoR 0) 5 wc ya4 ros) := ⟨R4.out.1.keep PlR.kp BC.out, R4.out.2.keep (RoR.kp 0) BC.out⟩
    have R6 : Hid (Rw PlR 4 wc xb ps ∧ Rw (RoR 0) 5 wc yb ros) := hr6
    clear hr6
    refine hK.out _ _ ?_ (fun hH903 => ?_)
    · (try dsimp only)
      first | with_reducible exact KP.out _ BD.out | with_reducible exact KP.out _ BC.out
    clear hK K hH0
    refine wpAnyH_ready (rs := [3]) (by kernel_rfl) (by simp) ?_
    refine AllReadyH.cons rfl (fun K hK => ?_) ?_
    · go_simp
      go_at_call 14
      (with_reducible refine (HE.out _ _ _ _ _ R4c.out.1 R6.out.1 R4c.out.2 R6.out.2).mono ?_)
      rintro e wd ⟨rfl, bd⟩
      have BD : Hid (Below wx5.heap.size wx5 wd) := BC.out.trans (bd.mono BC.out.size)
      clear bd
      refine hK.out _ _ ?_ (fun hH904 => ?_)
      · (try dsimp only)
        first | with_reducible exact KP.out _ BD.out | with_reducible exact KP.out _ BC.out
      clear hK K hH903
      refine wpAnyH_take (i := 4) (v := ?v905) rfl (by kernel_rfl) (by kernel_rfl) (by kernel_rfl) (fun _ _ _ h => h) (Or.inl ⟨by rfl, ?hy905⟩) (by assumption) ?rest905
      case hy905 => (intro w hSw; (try dsimp only at hSw); go_simp; (try with_reducible rfl))
      refine wpAnyH_done (by kernel_rfl) ?_ _
      go_simp
      go_wp2
      go_ret
      exact ⟨rfl, BX5.out.trans (BD.out.mono BX5.out.size)⟩
    exact AllReadyH.nil
  exact AllReadyH.nil
end Go.Proofs.Ytcgdpijmfgkalac
