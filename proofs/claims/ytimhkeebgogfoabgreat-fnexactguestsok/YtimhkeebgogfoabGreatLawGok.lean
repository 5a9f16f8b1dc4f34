/- The walk of laws.FnExactGuestsOK. -/
import Derived.Test.YtimhkeebgogfoabGreatGokS
import Derived.Test.YtimhkeebgogfoabGreatGokK
import Derived.Test.YtimhkeebgogfoabGreatLawConf
import Derived.Test.YtimhkeebgogfoabGreatLawGu
import Derived.Deep.RegionHeld3
namespace Go.Proofs.YtimhkeebgogfoabGreat
open Go.RowKit Go.PlainAid Go.Proofs.YtimhkeebgogfoabGreat.Bt Go.Sort
set_option linter.unusedVariables false
set_option maxRecDepth 20000
theorem szU_of {us : List UserV} {n : Int} (h : szL wtUser us ≤ n) (hn : n ≤ 1048576) : SzU us := by
  intro u hu
  have := szL_mem wtUser_nn us u hu
  have e : wtUser u = (u.nm.size : Int) + u.sa.size + u.ha.size + u.ro.size := rfl
  rw [e] at this
  omega
set_option maxHeartbeats 16000000 in
theorem lawGuestsOK_any (ip b gt : Int) (gm wm : ByteArray) (rs : Int) (x y : Option Addr) (lenx capx leny capy : Nat) (ps : List PlaceV) (ros : List RoleV) (ua sa fa ra : Option Addr) (ul uc sl sc fl fc rl rc : Nat) (us : List UserV) (ss : List SessV) (fs : List FailV) (es : List RecV) (nx : Int) (w : World) (h : Rw PlR 4 w x ps) (hl : ps.length = lenx) (h2 : Rw (RoR 0) 5 w y ros) (hl2 : ros.length = leny) (hu : Rw UsR 6 w ua us) (lu : us.length = ul) (hs : Rw SeR 10 w sa ss) (ls : ss.length = sl) (hf : Rw FaR 3 w fa fs) (lf : fs.length = fl) (hr : Rw ReR 5 w ra es) (lr : es.length = rl) (hg : gm.size ≤ maxLen) (hw : wm.size ≤ maxLen) (hx : lenx ≤ maxLen) (hy : leny ≤ maxLen) (bu : ul ≤ 9223372036854775807) (bs : sl ≤ 9223372036854775807) (bf : fl ≤ 9223372036854775807) (br : rl ≤ 9223372036854775807) :
    Calls Tryz.prog 3 #[.agg #[.int .i64 ip, .int .i64 b, .int .i64 gt, .string gm, .string wm, .int .i64 rs, .slice x lenx capx, .slice y leny capy], .agg #[.slice ua ul uc, .slice sa sl sc, .slice fa fl fc, .slice ra rl rc, .int .i64 nx]] w fun e w' => e = .returned (.bool true) ∧ Below w.heap.size w w' := by
  have RC : Hid (Rw PlR 4 w x ps ∧ Rw (RoR 0) 5 w y ros) := ⟨h, h2⟩
  have RG : Hid (Rw UsR 6 w ua us ∧ Rw SeR 10 w sa ss ∧ Rw FaR 3 w fa fs ∧ Rw ReR 5 w ra es) := ⟨hu, hs, hf, hr⟩
  have HZ : Hid (∀ w, (Rw PlR 4 w x ps ∧ Rw (RoR 0) 5 w y ros) → Calls Tryz.prog 6 #[.agg #[.int .i64 ip, .int .i64 b, .int .i64 gt, .string gm, .string wm, .int .i64 rs, .slice x lenx capx, .slice y leny capy], .int .i64 1048576] w fun e w' => ∃ r : Int, e = .returned (.int .i64 r) ∧ (0 ≤ r → (gm.size : Int) + wm.size + lenx + leny + szR ros ≤ 1048576) ∧ -1 ≤ r ∧ r ≤ 1048576 ∧ Below w.heap.size w w') := fun w h => (szConfig_any ip b gt gm wm rs x y lenx capx leny capy ps ros w h.1 hl h.2 hl2 (by unfold maxLen at hg; omega) (by unfold maxLen at hw; omega) (by unfold maxLen at hx; omega) (by unfold maxLen at hy; omega)).mono fun e w' ⟨r, h1, h2, h3, h4, h5⟩ => ⟨r, h1, h2, h3, h4, h5.below⟩
  have HY : Hid (∀ (l : Int) w, 0 ≤ l → l ≤ 1048576 → (Rw UsR 6 w ua us ∧ Rw SeR 10 w sa ss ∧ Rw FaR 3 w fa fs ∧ Rw ReR 5 w ra es) → Calls Tryz.prog 7 #[.agg #[.slice ua ul uc, .slice sa sl sc, .slice fa fl fc, .slice ra rl rc, .int .i64 nx], .int .i64 l] w fun e w' => ∃ r : Int, e = .returned (.int .i64 r) ∧ (0 ≤ r → ((ul : Int) + szL wtUser us + sl + szL wtSession ss + fl + szL wtFail fs + rl) ≤ l) ∧ -1 ≤ r ∧ r ≤ 1048576 ∧ Below w.heap.size w w') := fun l w h0 h1 h => (szGuests_any ua sa fa ra ul uc sl sc fl fc rl rc us ss fs es nx l w h.1 lu h.2.1 ls h.2.2.1 lf h.2.2.2 lr bu bs bf br h0 h1).mono fun e w' ⟨r, h1, h2, h3, h4, h5⟩ => ⟨r, h1, h2, h3, h4, h5.below⟩
  clear h h2 hu hs hf hr
  go_enter Tryz.func3, Tryz.ntmps3
  go_wp2_with fail
  refine (HZ.out _ ⟨RC.out.1.keep PlR.kp (((Below.refl w.heap.size w).alloc (by simp <;> omega) _).alloc (by simp <;> omega) _), RC.out.2.keep (RoR.kp 0) (((Below.refl w.heap.size w).alloc (by simp <;> omega) _).alloc (by simp <;> omega) _)⟩).mono ?_
  rintro e wx1 ⟨r, rfl, hr, hr1, hr2, bx⟩
  have c1_0_0 : wx1.cell? ⟨w.heap.size, 0, none⟩ = some (.int .i64 ip) := bkeep bx (by simp [go_sem])
  have c1_0_1 : wx1.cell? ⟨w.heap.size, 1, none⟩ = some (.int .i64 b) := bkeep bx (by simp [go_sem])
  have c1_0_2 : wx1.cell? ⟨w.heap.size, 2, none⟩ = some (.int .i64 gt) := bkeep bx (by simp [go_sem])
  have c1_0_3 : wx1.cell? ⟨w.heap.size, 3, none⟩ = some (.string gm) := bkeep bx (by simp [go_sem])
  have c1_0_4 : wx1.cell? ⟨w.heap.size, 4, none⟩ = some (.string wm) := bkeep bx (by simp [go_sem])
  have c1_0_5 : wx1.cell? ⟨w.heap.size, 5, none⟩ = some (.int .i64 rs) := bkeep bx (by simp [go_sem])
  have c1_0_6 : wx1.cell? ⟨w.heap.size, 6, none⟩ = some (.slice x lenx capx) := bkeep bx (by simp [go_sem])
  have c1_0_7 : wx1.cell? ⟨w.heap.size, 7, none⟩ = some (.slice y leny capy) := bkeep bx (by simp [go_sem])
  have c1_1_0 : wx1.cell? ⟨w.heap.size + 1, 0, none⟩ = some (.slice ua ul uc) := bkeep bx (by simp [go_sem])
  have c1_1_1 : wx1.cell? ⟨w.heap.size + 1, 1, none⟩ = some (.slice sa sl sc) := bkeep bx (by simp [go_sem])
  have c1_1_2 : wx1.cell? ⟨w.heap.size + 1, 2, none⟩ = some (.slice fa fl fc) := bkeep bx (by simp [go_sem])
  have c1_1_3 : wx1.cell? ⟨w.heap.size + 1, 3, none⟩ = some (.slice ra rl rc) := bkeep bx (by simp [go_sem])
  have c1_1_4 : wx1.cell? ⟨w.heap.size + 1, 4, none⟩ = some (.int .i64 nx) := bkeep bx (by simp [go_sem])
  have BX1 : Hid (Below w.heap.size w wx1) := (((Below.refl w.heap.size w).alloc (by simp <;> omega) _).alloc (by simp <;> omega) _).trans (bx.mono (by simp <;> omega))
  clear bx
  by_cases hr0 : r < 0
  · go_wp2
    go_ret
    exact ⟨rfl, BX1.out⟩
  have hb := hr (by omega)
  clear hr
  go_wp2_with fail
  refine (HY.out r _ (by omega) (by omega) ⟨RG.out.1.keep UsR.kp BX1.out, RG.out.2.1.keep SeR.kp BX1.out, RG.out.2.2.1.keep FaR.kp BX1.out, RG.out.2.2.2.keep ReR.kp BX1.out⟩).mono ?_
  rintro e wx2 ⟨r9, rfl, hr9, hr91, hr92, bx⟩
  have c2_0_0 : wx2.cell? ⟨w.heap.size, 0, none⟩ = some (.int .i64 ip) := bkeep bx (by first | (simp [go_sem]; done) | simp [go_sem, c1_0_0])
  have c2_0_1 : wx2.cell? ⟨w.heap.size, 1, none⟩ = some (.int .i64 b) := bkeep bx (by first | (simp [go_sem]; done) | simp [go_sem, c1_0_1])
  have c2_0_2 : wx2.cell? ⟨w.heap.size, 2, none⟩ = some (.int .i64 gt) := bkeep bx (by first | (simp [go_sem]; done) | simp [go_sem, c1_0_2])
  have c2_0_3 : wx2.cell? ⟨w.heap.size, 3, none⟩ = some (.string gm) := bkeep bx (by first | (simp [go_sem]; done) | simp [go_sem, c1_0_3])
  have c2_0_4 : wx2.cell? ⟨w.heap.size, 4, none⟩ = some (.string wm) := bkeep bx (by first | (simp [go_sem]; done) | simp [go_sem, c1_0_4])
  have c2_0_5 : wx2.cell? ⟨w.heap.size, 5, none⟩ = some (.int .i64 rs) := bkeep bx (by first | (simp [go_sem]; done) | simp [go_sem, c1_0_5])
  have c2_0_6 : wx2.cell? ⟨w.heap.size, 6, none⟩ = some (.slice x lenx capx) := bkeep bx (by first | (simp [go_sem]; done) | simp [go_sem, c1_0_6])
  have c2_0_7 : wx2.cell? ⟨w.heap.size, 7, none⟩ = some (.slice y leny capy) := bkeep bx (by first | (simp [go_sem]; done) | simp [go_sem, c1_0_7])
  have c2_1_0 : wx2.cell? ⟨w.heap.size + 1, 0, none⟩ = some (.slice ua ul uc) := bkeep bx (by first | (simp [go_sem]; done) | simp [go_sem, c1_1_0])
  have c2_1_1 : wx2.cell? ⟨w.heap.size + 1, 1, none⟩ = some (.slice sa sl sc) := bkeep bx (by first | (simp [go_sem]; done) | simp [go_sem, c1_1_1])
  have c2_1_2 : wx2.cell? ⟨w.heap.size + 1, 2, none⟩ = some (.slice fa fl fc) := bkeep bx (by first | (simp [go_sem]; done) | simp [go_sem, c1_1_2])
  have c2_1_3 : wx2.cell? ⟨w.heap.size + 1, 3, none⟩ = some (.slice ra rl rc) := bkeep bx (by first | (simp [go_sem]; done) | simp [go_sem, c1_1_3])
  have c2_1_4 : wx2.cell? ⟨w.heap.size + 1, 4, none⟩ = some (.int .i64 nx) := bkeep bx (by first | (simp [go_sem]; done) | simp [go_sem, c1_1_4])
  have BX2 : Hid (Below w.heap.size w wx2) := BX1.out.trans (bx.mono (by have := BX1.out.size; simp <;> omega))
  clear bx c1_0_0 c1_0_1 c1_0_2 c1_0_3 c1_0_4 c1_0_5 c1_0_6 c1_0_7 c1_1_0 c1_1_1 c1_1_2 c1_1_3 c1_1_4 BX1
  by_cases hr90 : r9 < 0
  · go_wp2
    go_ret
    exact ⟨rfl, BX2.out⟩
  have hb9 := hr9 (by omega)
  have hsn := szR_nonneg ros
  have hsz : SzR ros := SzR_of (n := 1048576) (by omega) (by omega)
  have nu := szL_nonneg wtUser_nn us
  have ns := szL_nonneg wtSession_nn ss
  have nf := szL_nonneg wtFail_nn fs
  have hszu : SzU us := szU_of (n := 1048576) (by omega) (by omega)
  have HT : Hid (∀ w, (Rw PlR 4 w x ps ∧ Rw (RoR 0) 5 w y ros) → Calls Tryz.prog 9 #[.agg #[.int .i64 ip, .int .i64 b, .int .i64 gt, .string gm, .string wm, .int .i64 rs, .slice x lenx capx, .slice y leny capy]] w fun e w' => ∃ xa ya, e = .returned (.agg #[.int .i64 ip, .int .i64 b, .int .i64 gt, .string gm, .string wm, .int .i64 rs, .slice xa lenx lenx, .slice ya leny leny]) ∧ (Rw PlR 4 w' xa ps ∧ Rw (RoR 0) 5 w' ya ros) ∧ Below w.heap.size w w') := fun w h => toConfig_any ip b gt gm wm rs x y lenx capx leny capy ps ros w h.1 hl h.2 hl2 (by omega) (by omega) hsz
  have HV : Hid (∀ w, (Rw UsR 6 w ua us ∧ Rw SeR 10 w sa ss ∧ Rw FaR 3 w fa fs ∧ Rw ReR 5 w ra es) → Calls Tryz.prog 10 #[.agg #[.slice ua ul uc, .slice sa sl sc, .slice fa fl fc, .slice ra rl rc, .int .i64 nx]] w fun e w' => ∃ gu gs gf gr : Nat, e = .returned (.agg #[.slice (some ⟨gu, 0, none⟩) ul ul, .slice (some ⟨gs, 0, none⟩) sl sl, .slice (some ⟨gf, 0, none⟩) fl fl, .slice (some ⟨gr, 0, none⟩) rl rl, .int .i64 nx]) ∧ (Rw UsR 6 w' (some ⟨gu, 0, none⟩) us ∧ Rw SeR 10 w' (some ⟨gs, 0, none⟩) ss ∧ Rw FaR 3 w' (some ⟨gf, 0, none⟩) fs ∧ Rw ReR 5 w' (some ⟨gr, 0, none⟩) es) ∧ Below w.heap.size w w') := fun w h => (toGuests_any ua sa fa ra ul uc sl sc fl fc rl rc us ss fs es nx w h.1 lu h.2.1 ls h.2.2.1 lf h.2.2.2 lr (by omega) (by omega) (by omega) (by omega)).mono fun e w' ⟨b1, b2, b3, b4, h1, _, h2, h3⟩ => ⟨b1, b2, b3, b4, h1, h2, h3⟩
  have HS : Hid (∀ w xa ya gu gs gf gr, (Rw PlR 4 w xa ps ∧ Rw (RoR 0) 5 w ya ros) → (Rw UsR 6 w (some ⟨gu, 0, none⟩) us ∧ Rw SeR 10 w (some ⟨gs, 0, none⟩) ss ∧ Rw FaR 3 w (some ⟨gf, 0, none⟩) fs ∧ Rw ReR 5 w (some ⟨gr, 0, none⟩) es) → Calls Tryz.prog 8 #[.agg #[.int .i64 ip, .int .i64 b, .int .i64 gt, .string gm, .string wm, .int .i64 rs, .slice xa lenx lenx, .slice ya leny leny], .agg #[.slice (some ⟨gu, 0, none⟩) ul ul, .slice (some ⟨gs, 0, none⟩) sl sl, .slice (some ⟨gf, 0, none⟩) fl fl, .slice (some ⟨gr, 0, none⟩) rl rl, .int .i64 nx]] w fun e w' => e = .returned (.bool (gokB ip b gt gm wm rs ps ros us ss fs es nx)) ∧ Below w.heap.size w w') := fun w xa ya gu gs gf gr h k => (specGuests_any _ _ _ _ _ _ _ _ _ _ _ _ ps ros _ _ _ _ _ _ _ _ _ _ _ _ us ss fs es nx w h.1 hl h.2 hl2 hsz (by omega) k.1 lu k.2.1 ls k.2.2.1 lf k.2.2.2 lr hszu (by omega)).mono fun e w' h => ⟨h.1, h.2.below⟩
  have HI : Hid (∀ w xa ya gu gs gf gr, (Rw PlR 4 w xa ps ∧ Rw (RoR 0) 5 w ya ros) → (Rw UsR 6 w (some ⟨gu, 0, none⟩) us ∧ Rw SeR 10 w (some ⟨gs, 0, none⟩) ss ∧ Rw FaR 3 w (some ⟨gf, 0, none⟩) fs ∧ Rw ReR 5 w (some ⟨gr, 0, none⟩) es) → Calls Tryz.prog 11 #[.agg #[.int .i64 ip, .int .i64 b, .int .i64 gt, .string gm, .string wm, .int .i64 rs, .slice xa lenx lenx, .slice ya leny leny], .agg #[.slice (some ⟨gu, 0, none⟩) ul ul, .slice (some ⟨gs, 0, none⟩) sl sl, .slice (some ⟨gf, 0, none⟩) fl fl, .slice (some ⟨gr, 0, none⟩) rl rl, .int .i64 nx]] w fun e w' => e = .returned (.bool (gokB ip b gt gm wm rs ps ros us ss fs es nx)) ∧ Below w.heap.size w w') := fun w xa ya gu gs gf gr h k => implGuests_any _ _ _ _ _ _ _ _ _ _ _ _ ps ros _ _ _ _ _ _ _ _ _ _ _ _ us ss fs es nx w h.1 hl h.2 hl2 hsz (by omega) k.1 lu k.2.1 ls k.2.2.1 lf k.2.2.2 lr hszu (by omega)
  have HE : Hid (∀ w xa ya xb yb, (Rw PlR 4 w xa ps ∧ Rw (RoR 0) 5 w ya ros) → (Rw PlR 4 w xb ps ∧ Rw (RoR 0) 5 w yb ros) → Calls Tryz.prog 12 #[.agg #[.int .i64 ip, .int .i64 b, .int .i64 gt, .string gm, .string wm, .int .i64 rs, .slice xa lenx lenx, .slice ya leny leny], .agg #[.int .i64 ip, .int .i64 b, .int .i64 gt, .string gm, .string wm, .int .i64 rs, .slice xb lenx lenx, .slice yb leny leny]] w fun e w' => e = .returned (.bool true) ∧ Below w.heap.size w w') := fun w xa ya xb yb h k => (eqConfig_yes ip b gt gm wm rs xa ya xb yb lenx leny ps ros w h.1 k.1 hl h.2 k.2 hl2 (by omega) (by omega) hsz).mono fun e w' h => ⟨h.1, h.2.below⟩
  have HF : Hid (∀ w gu gs gf gr ku ks kf kr, (Rw UsR 6 w (some ⟨gu, 0, none⟩) us ∧ Rw SeR 10 w (some ⟨gs, 0, none⟩) ss ∧ Rw FaR 3 w (some ⟨gf, 0, none⟩) fs ∧ Rw ReR 5 w (some ⟨gr, 0, none⟩) es) → (Rw UsR 6 w (some ⟨ku, 0, none⟩) us ∧ Rw SeR 10 w (some ⟨ks, 0, none⟩) ss ∧ Rw FaR 3 w (some ⟨kf, 0, none⟩) fs ∧ Rw ReR 5 w (some ⟨kr, 0, none⟩) es) → Calls Tryz.prog 13 #[.agg #[.slice (some ⟨gu, 0, none⟩) ul ul, .slice (some ⟨gs, 0, none⟩) sl sl, .slice (some ⟨gf, 0, none⟩) fl fl, .slice (some ⟨gr, 0, none⟩) rl rl, .int .i64 nx], .agg #[.slice (some ⟨ku, 0, none⟩) ul ul, .slice (some ⟨ks, 0, none⟩) sl sl, .slice (some ⟨kf, 0, none⟩) fl fl, .slice (some ⟨kr, 0, none⟩) rl rl, .int .i64 nx]] w fun e w' => e = .returned (.bool true) ∧ Below w.heap.size w w') := fun w gu gs gf gr ku ks kf kr h k => (eqGuests_yes _ _ _ _ _ _ _ _ _ _ _ _ _ _ _ _ _ _ _ _ us ss fs es nx w h.1 k.1 lu h.2.1 k.2.1 ls h.2.2.1 k.2.2.1 lf h.2.2.2 k.2.2.2 lr bu bs bf br).mono fun e w' h => ⟨h.1, h.2.below⟩
  generalize gokB ip b gt gm wm rs ps ros us ss fs es nx = z at HS HI
  have hne : (z == z) = true := by simp
  clear hr1 hr2 hb HZ hr9 hr91 hr92 hb9 hsn hsz nu ns nf hszu HY
  go_wp2_with fail
  have KP : Hid (∀ wx, Below wx2.heap.size wx2 wx → wx.cell? ⟨w.heap.size, 0, none⟩ = some (.int .i64 ip) ∧ wx.cell? ⟨w.heap.size, 1, none⟩ = some (.int .i64 b) ∧ wx.cell? ⟨w.heap.size, 2, none⟩ = some (.int .i64 gt) ∧ wx.cell? ⟨w.heap.size, 3, none⟩ = some (.string gm) ∧ wx.cell? ⟨w.heap.size, 4, none⟩ = some (.string wm) ∧ wx.cell? ⟨w.heap.size, 5, none⟩ = some (.int .i64 rs) ∧ wx.cell? ⟨w.heap.size, 6, none⟩ = some (.slice x lenx capx) ∧ wx.cell? ⟨w.heap.size, 7, none⟩ = some (.slice y leny capy) ∧ wx.cell? ⟨w.heap.size + 1, 0, none⟩ = some (.slice ua ul uc) ∧ wx.cell? ⟨w.heap.size + 1, 1, none⟩ = some (.slice sa sl sc) ∧ wx.cell? ⟨w.heap.size + 1, 2, none⟩ = some (.slice fa fl fc) ∧ wx.cell? ⟨w.heap.size + 1, 3, none⟩ = some (.slice ra rl rc) ∧ wx.cell? ⟨w.heap.size + 1, 4, none⟩ = some (.int .i64 nx)) := fun wx hb => ⟨bkeep hb c2_0_0, bkeep hb c2_0_1, bkeep hb c2_0_2, bkeep hb c2_0_3, bkeep hb c2_0_4, bkeep hb c2_0_5, bkeep hb c2_0_6, bkeep hb c2_0_7, bkeep hb c2_1_0, bkeep hb c2_1_1, bkeep hb c2_1_2, bkeep hb c2_1_3, bkeep hb c2_1_4⟩
  have DR : Hid (Below wx2.heap.size wx2 wx2.drew) := (Below.refl _ _).drew
  refine wp_region_held_drew (S := (fun wx => wx.cell? ⟨w.heap.size, 0, none⟩ = some (.int .i64 ip) ∧ wx.cell? ⟨w.heap.size, 1, none⟩ = some (.int .i64 b) ∧ wx.cell? ⟨w.heap.size, 2, none⟩ = some (.int .i64 gt) ∧ wx.cell? ⟨w.heap.size, 3, none⟩ = some (.string gm) ∧ wx.cell? ⟨w.heap.size, 4, none⟩ = some (.string wm) ∧ wx.cell? ⟨w.heap.size, 5, none⟩ = some (.int .i64 rs) ∧ wx.cell? ⟨w.heap.size, 6, none⟩ = some (.slice x lenx capx) ∧ wx.cell? ⟨w.heap.size, 7, none⟩ = some (.slice y leny capy) ∧ wx.cell? ⟨w.heap.size + 1, 0, none⟩ = some (.slice ua ul uc) ∧ wx.cell? ⟨w.heap.size + 1, 1, none⟩ = some (.slice sa sl sc) ∧ wx.cell? ⟨w.heap.size + 1, 2, none⟩ = some (.slice fa fl fc) ∧ wx.cell? ⟨w.heap.size + 1, 3, none⟩ = some (.slice ra rl rc) ∧ wx.cell? ⟨w.heap.size + 1, 4, none⟩ = some (.int .i64 nx))) (by kernel_rfl) ?_ (fun hH0 => ?_)
  · exact KP.out _ DR.out
  refine wpAnyH_take (i := 0) (v := ?v501) rfl (by kernel_rfl) (by kernel_rfl) (by kernel_rfl) (fun _ _ _ h => h) (Or.inl ⟨by rfl, ?hy501⟩) (by assumption) ?rest501
  case hy501 => (intro w hSw; (try dsimp only at hSw); go_simp; (try with_reducible rfl))
  refine wpAnyH_take (i := 2) (v := ?v502) rfl (by kernel_rfl) (by kernel_rfl) (by kernel_rfl) (fun _ _ _ h => h) (Or.inl ⟨by rfl, ?hy502⟩) (by assumption) ?rest502
  case hy502 => (intro w hSw; (try dsimp only at hSw); go_simp; (try with_reducible rfl))
  refine wpAnyH_ready (rs := [1]) (by kernel_rfl) (by simp) ?_
  refine AllReadyH.cons rfl (fun K hK => ?_) ?_
  · go_simp
    go_at_call 9
    (with_reducible refine (HT.out _ ⟨RC.out.1.keep PlR.kp (BX2.out.trans (DR.out.mono BX2.out.size)), RC.out.2.keep (RoR.kp 0) (BX2.out.trans (DR.out.mono BX2.out.size))⟩).mono ?_)
    rintro e wc ⟨xa3, ya3, rfl, hr3, bc⟩
    have BC : Hid (Below wx2.heap.size wx2 wc) := DR.out.trans bc
    have R3 : Hid (Rw PlR 4 wc xa3 ps ∧ Rw (RoR 0) 5 wc ya3 ros) := hr3
    clear hr3 bc
    refine hK.out _ _ ?_ (fun hH503 => ?_)
    · (try dsimp only)
      first | with_reducible exact KP.out _ BF.out | with_reducible exact KP.out _ BV.out | with_reducible exact KP.out _ BC.out
    clear hK K hH0
    refine wpAnyH_ready (rs := [3]) (by kernel_rfl) (by simp) ?_
    refine AllReadyH.cons rfl (fun K hK => ?_) ?_
    · go_simp
      go_at_call 10
      (with_reducible refine (HV.out _ ⟨RG.out.1.keep UsR.kp (BX2.out.trans (BC.out.mono BX2.out.size)), RG.out.2.1.keep SeR.kp (BX2.out.trans (BC.out.mono BX2.out.size)), RG.out.2.2.1.keep FaR.kp (BX2.out.trans (BC.out.mono BX2.out.size)), RG.out.2.2.2.keep ReR.kp (BX2.out.trans (BC.out.mono BX2.out.size))⟩).mono ?_)
      rintro e wv ⟨bu4, bs4, bf4, br4, rfl, hr4, bv⟩
      have BV : Hid (Below wx2.heap.size wx2 wv) := BC.out.trans (bv.mono BC.out.size)
      have R3v : Hid (Rw PlR 4 wv xa3 ps ∧ Rw (RoR 0) 5 wv ya3 ros) := ⟨R3.out.1.keep PlR.kp bv, R3.out.2.keep (RoR.kp 0) bv⟩
      have R4 : Hid (Rw UsR 6 wv (some ⟨bu4, 0, none⟩) us ∧ Rw SeR 10 wv (some ⟨bs4, 0, none⟩) ss ∧ Rw FaR 3 wv (some ⟨bf4, 0, none⟩) fs ∧ Rw ReR 5 wv (some ⟨br4, 0, none⟩) es) := hr4
      clear hr4 bv
      refine hK.out _ _ ?_ (fun hH504 => ?_)
      · (try dsimp only)
        first | with_reducible exact KP.out _ BF.out | with_reducible exact KP.out _ BV.out | with_reducible exact KP.out _ BC.out
      clear hK K hH503
      refine wpAnyH_ready (rs := [4]) (by kernel_rfl) (by simp) ?_
      refine AllReadyH.cons rfl (fun K hK => ?_) ?_
      · go_simp
        go_at_call 8
        (with_reducible refine (HS.out _ _ _ _ _ _ _ R3v.out R4.out).mono ?_)
        rintro e wx5 ⟨rfl, bs⟩
        have BF : Hid (Below wx2.heap.size wx2 wx5) := BV.out.trans (bs.mono BV.out.size)
        clear bs
        refine hK.out _ _ ?_ (fun hH505 => ?_)
        · (try dsimp only)
          first | with_reducible exact KP.out _ BF.out | with_reducible exact KP.out _ BV.out | with_reducible exact KP.out _ BC.out
        clear hK K hH504
        refine wpAnyH_take (i := 5) (v := ?v506) rfl (by kernel_rfl) (by kernel_rfl) (by kernel_rfl) (fun _ _ _ h => h) (Or.inl ⟨by rfl, ?hy506⟩) (by assumption) ?rest506
        case hy506 => (intro w hSw; (try dsimp only at hSw); go_simp; (try with_reducible rfl))
        refine wpAnyH_done (by kernel_rfl) ?_ _
        go_simp
        have c5_0_0 : wx5.cell? ⟨w.heap.size, 0, none⟩ = some (.int .i64 ip) := bkeep BF.out c2_0_0
        have c5_0_1 : wx5.cell? ⟨w.heap.size, 1, none⟩ = some (.int .i64 b) := bkeep BF.out c2_0_1
        have c5_0_2 : wx5.cell? ⟨w.heap.size, 2, none⟩ = some (.int .i64 gt) := bkeep BF.out c2_0_2
        have c5_0_3 : wx5.cell? ⟨w.heap.size, 3, none⟩ = some (.string gm) := bkeep BF.out c2_0_3
        have c5_0_4 : wx5.cell? ⟨w.heap.size, 4, none⟩ = some (.string wm) := bkeep BF.out c2_0_4
        have c5_0_5 : wx5.cell? ⟨w.heap.size, 5, none⟩ = some (.int .i64 rs) := bkeep BF.out c2_0_5
        have c5_0_6 : wx5.cell? ⟨w.heap.size, 6, none⟩ = some (.slice x lenx capx) := bkeep BF.out c2_0_6
        have c5_0_7 : wx5.cell? ⟨w.heap.size, 7, none⟩ = some (.slice y leny capy) := bkeep BF.out c2_0_7
        have c5_1_0 : wx5.cell? ⟨w.heap.size + 1, 0, none⟩ = some (.slice ua ul uc) := bkeep BF.out c2_1_0
        have c5_1_1 : wx5.cell? ⟨w.heap.size + 1, 1, none⟩ = some (.slice sa sl sc) := bkeep BF.out c2_1_1
        have c5_1_2 : wx5.cell? ⟨w.heap.size + 1, 2, none⟩ = some (.slice fa fl fc) := bkeep BF.out c2_1_2
        have c5_1_3 : wx5.cell? ⟨w.heap.size + 1, 3, none⟩ = some (.slice ra rl rc) := bkeep BF.out c2_1_3
        have c5_1_4 : wx5.cell? ⟨w.heap.size + 1, 4, none⟩ = some (.int .i64 nx) := bkeep BF.out c2_1_4
        have BX5 : Hid (Below w.heap.size w wx5) := BX2.out.trans (BF.out.mono BX2.out.size)
        clear KP DR BC BV BF R3 R3v R4 BX2 c2_0_0 c2_0_1 c2_0_2 c2_0_3 c2_0_4 c2_0_5 c2_0_6 c2_0_7 c2_1_0 c2_1_1 c2_1_2 c2_1_3 c2_1_4
        go_wp2_with fail
        refine (HT.out _ ⟨RC.out.1.keep PlR.kp BX5.out, RC.out.2.keep (RoR.kp 0) BX5.out⟩).mono ?_
        rintro e wx6 ⟨xa6, ya6, rfl, hr6, bx⟩
        have c6_0_0 : wx6.cell? ⟨w.heap.size, 0, none⟩ = some (.int .i64 ip) := bkeep bx (by first | (simp [go_sem]; done) | simp [go_sem, c5_0_0])
        have c6_0_1 : wx6.cell? ⟨w.heap.size, 1, none⟩ = some (.int .i64 b) := bkeep bx (by first | (simp [go_sem]; done) | simp [go_sem, c5_0_1])
        have c6_0_2 : wx6.cell? ⟨w.heap.size, 2, none⟩ = some (.int .i64 gt) := bkeep bx (by first | (simp [go_sem]; done) | simp [go_sem, c5_0_2])
        have c6_0_3 : wx6.cell? ⟨w.heap.size, 3, none⟩ = some (.string gm) := bkeep bx (by first | (simp [go_sem]; done) | simp [go_sem, c5_0_3])
        have c6_0_4 : wx6.cell? ⟨w.heap.size, 4, none⟩ = some (.string wm) := bkeep bx (by first | (simp [go_sem]; done) | simp [go_sem, c5_0_4])
        have c6_0_5 : wx6.cell? ⟨w.heap.size, 5, none⟩ = some (.int .i64 rs) := bkeep bx (by first | (simp [go_sem]; done) | simp [go_sem, c5_0_5])
        have c6_0_6 : wx6.cell? ⟨w.heap.size, 6, none⟩ = some (.slice x lenx capx) := bkeep bx (by first | (simp [go_sem]; done) | simp [go_sem, c5_0_6])
        have c6_0_7 : wx6.cell? ⟨w.heap.size, 7, none⟩ = some (.slice y leny capy) := bkeep bx (by first | (simp [go_sem]; done) | simp [go_sem, c5_0_7])
        have c6_1_0 : wx6.cell? ⟨w.heap.size + 1, 0, none⟩ = some (.slice ua ul uc) := bkeep bx (by first | (simp [go_sem]; done) | simp [go_sem, c5_1_0])
        have c6_1_1 : wx6.cell? ⟨w.heap.size + 1, 1, none⟩ = some (.slice sa sl sc) := bkeep bx (by first | (simp [go_sem]; done) | simp [go_sem, c5_1_1])
        have c6_1_2 : wx6.cell? ⟨w.heap.size + 1, 2, none⟩ = some (.slice fa fl fc) := bkeep bx (by first | (simp [go_sem]; done) | simp [go_sem, c5_1_2])
        have c6_1_3 : wx6.cell? ⟨w.heap.size + 1, 3, none⟩ = some (.slice ra rl rc) := bkeep bx (by first | (simp [go_sem]; done) | simp [go_sem, c5_1_3])
        have c6_1_4 : wx6.cell? ⟨w.heap.size + 1, 4, none⟩ = some (.int .i64 nx) := bkeep bx (by first | (simp [go_sem]; done) | simp [go_sem, c5_1_4])
        have BX6 : Hid (Below w.heap.size w wx6) := BX5.out.trans (bx.mono (by have := BX5.out.size; simp <;> omega))
        clear bx c5_0_0 c5_0_1 c5_0_2 c5_0_3 c5_0_4 c5_0_5 c5_0_6 c5_0_7 c5_1_0 c5_1_1 c5_1_2 c5_1_3 c5_1_4 BX5
        have R6 : Hid (Rw PlR 4 _ xa6 ps ∧ Rw (RoR 0) 5 _ ya6 ros) := ⟨hr6.1.keep PlR.kp ((Below.refl _ _).alloc (Nat.le_refl _) (.cells #[.int .i64 ip, .int .i64 b, .int .i64 gt, .string gm, .string wm, .int .i64 rs, .slice xa6 lenx lenx, .slice ya6 leny leny] 41)), hr6.2.keep (RoR.kp 0) ((Below.refl _ _).alloc (Nat.le_refl _) (.cells #[.int .i64 ip, .int .i64 b, .int .i64 gt, .string gm, .string wm, .int .i64 rs, .slice xa6 lenx lenx, .slice ya6 leny leny] 41))⟩
        clear hr6
        have m6_0 := acell c6_1_0 (.cells #[.int .i64 ip, .int .i64 b, .int .i64 gt, .string gm, .string wm, .int .i64 rs, .slice xa6 lenx lenx, .slice ya6 leny leny] 41)
        have m6_1 := acell c6_1_1 (.cells #[.int .i64 ip, .int .i64 b, .int .i64 gt, .string gm, .string wm, .int .i64 rs, .slice xa6 lenx lenx, .slice ya6 leny leny] 41)
        have m6_2 := acell c6_1_2 (.cells #[.int .i64 ip, .int .i64 b, .int .i64 gt, .string gm, .string wm, .int .i64 rs, .slice xa6 lenx lenx, .slice ya6 leny leny] 41)
        have m6_3 := acell c6_1_3 (.cells #[.int .i64 ip, .int .i64 b, .int .i64 gt, .string gm, .string wm, .int .i64 rs, .slice xa6 lenx lenx, .slice ya6 leny leny] 41)
        have m6_4 := acell c6_1_4 (.cells #[.int .i64 ip, .int .i64 b, .int .i64 gt, .string gm, .string wm, .int .i64 rs, .slice xa6 lenx lenx, .slice ya6 leny leny] 41)
        go_wp2_with fail
        refine (HV.out _ ⟨RG.out.1.keep UsR.kp (BX6.out.alloc (by have := BX6.out.size; simp <;> omega) _), RG.out.2.1.keep SeR.kp (BX6.out.alloc (by have := BX6.out.size; simp <;> omega) _), RG.out.2.2.1.keep FaR.kp (BX6.out.alloc (by have := BX6.out.size; simp <;> omega) _), RG.out.2.2.2.keep ReR.kp (BX6.out.alloc (by have := BX6.out.size; simp <;> omega) _)⟩).mono ?_
        rintro e wx7 ⟨bu7, bs7, bf7, br7, rfl, hr7, bx⟩
        have c7_0_0 : wx7.cell? ⟨w.heap.size, 0, none⟩ = some (.int .i64 ip) := bkeep bx (by exact acell c6_0_0 _)
        have c7_0_1 : wx7.cell? ⟨w.heap.size, 1, none⟩ = some (.int .i64 b) := bkeep bx (by exact acell c6_0_1 _)
        have c7_0_2 : wx7.cell? ⟨w.heap.size, 2, none⟩ = some (.int .i64 gt) := bkeep bx (by exact acell c6_0_2 _)
        have c7_0_3 : wx7.cell? ⟨w.heap.size, 3, none⟩ = some (.string gm) := bkeep bx (by exact acell c6_0_3 _)
        have c7_0_4 : wx7.cell? ⟨w.heap.size, 4, none⟩ = some (.string wm) := bkeep bx (by exact acell c6_0_4 _)
        have c7_0_5 : wx7.cell? ⟨w.heap.size, 5, none⟩ = some (.int .i64 rs) := bkeep bx (by exact acell c6_0_5 _)
        have c7_0_6 : wx7.cell? ⟨w.heap.size, 6, none⟩ = some (.slice x lenx capx) := bkeep bx (by exact acell c6_0_6 _)
        have c7_0_7 : wx7.cell? ⟨w.heap.size, 7, none⟩ = some (.slice y leny capy) := bkeep bx (by exact acell c6_0_7 _)
        have c7_1_0 : wx7.cell? ⟨w.heap.size + 1, 0, none⟩ = some (.slice ua ul uc) := bkeep bx (by exact acell c6_1_0 _)
        have c7_1_1 : wx7.cell? ⟨w.heap.size + 1, 1, none⟩ = some (.slice sa sl sc) := bkeep bx (by exact acell c6_1_1 _)
        have c7_1_2 : wx7.cell? ⟨w.heap.size + 1, 2, none⟩ = some (.slice fa fl fc) := bkeep bx (by exact acell c6_1_2 _)
        have c7_1_3 : wx7.cell? ⟨w.heap.size + 1, 3, none⟩ = some (.slice ra rl rc) := bkeep bx (by exact acell c6_1_3 _)
        have c7_1_4 : wx7.cell? ⟨w.heap.size + 1, 4, none⟩ = some (.int .i64 nx) := bkeep bx (by exact acell c6_1_4 _)
        have c7_2_0 : wx7.cell? ⟨wx6.heap.size, 0, none⟩ = some (.int .i64 ip) := bkeep bx (by simp [go_sem])
        have c7_2_1 : wx7.cell? ⟨wx6.heap.size, 1, none⟩ = some (.int .i64 b) := bkeep bx (by simp [go_sem])
        have c7_2_2 : wx7.cell? ⟨wx6.heap.size, 2, none⟩ = some (.int .i64 gt) := bkeep bx (by simp [go_sem])
        have c7_2_3 : wx7.cell? ⟨wx6.heap.size, 3, none⟩ = some (.string gm) := bkeep bx (by simp [go_sem])
        have c7_2_4 : wx7.cell? ⟨wx6.heap.size, 4, none⟩ = some (.string wm) := bkeep bx (by simp [go_sem])
        have c7_2_5 : wx7.cell? ⟨wx6.heap.size, 5, none⟩ = some (.int .i64 rs) := bkeep bx (by simp [go_sem])
        have c7_2_6 : wx7.cell? ⟨wx6.heap.size, 6, none⟩ = some (.slice xa6 lenx lenx) := bkeep bx (by simp [go_sem])
        have c7_2_7 : wx7.cell? ⟨wx6.heap.size, 7, none⟩ = some (.slice ya6 leny leny) := bkeep bx (by simp [go_sem])
        have BX7 : Hid (Below w.heap.size w wx7) := (BX6.out.alloc (by have := BX6.out.size; simp <;> omega) _).trans (bx.mono (by have := BX6.out.size; simp <;> omega))
        replace R6 : Hid (Rw PlR 4 _ xa6 ps ∧ Rw (RoR 0) 5 _ ya6 ros) := ⟨R6.out.1.keep PlR.kp bx, R6.out.2.keep (RoR.kp 0) bx⟩
        clear bx c6_0_0 c6_0_1 c6_0_2 c6_0_3 c6_0_4 c6_0_5 c6_0_6 c6_0_7 c6_1_0 c6_1_1 c6_1_2 c6_1_3 c6_1_4 BX6
        clear m6_0 m6_1 m6_2 m6_3 m6_4
        have R7 : Hid (Rw UsR 6 _ (some ⟨bu7, 0, none⟩) us ∧ Rw SeR 10 _ (some ⟨bs7, 0, none⟩) ss ∧ Rw FaR 3 _ (some ⟨bf7, 0, none⟩) fs ∧ Rw ReR 5 _ (some ⟨br7, 0, none⟩) es) := ⟨hr7.1.keep UsR.kp ((Below.refl _ _).alloc (Nat.le_refl _) (.cells #[.slice (some ⟨bu7, 0, none⟩) ul ul, .slice (some ⟨bs7, 0, none⟩) sl sl, .slice (some ⟨bf7, 0, none⟩) fl fl, .slice (some ⟨br7, 0, none⟩) rl rl, .int .i64 nx] 48)), hr7.2.1.keep SeR.kp ((Below.refl _ _).alloc (Nat.le_refl _) (.cells #[.slice (some ⟨bu7, 0, none⟩) ul ul, .slice (some ⟨bs7, 0, none⟩) sl sl, .slice (some ⟨bf7, 0, none⟩) fl fl, .slice (some ⟨br7, 0, none⟩) rl rl, .int .i64 nx] 48)), hr7.2.2.1.keep FaR.kp ((Below.refl _ _).alloc (Nat.le_refl _) (.cells #[.slice (some ⟨bu7, 0, none⟩) ul ul, .slice (some ⟨bs7, 0, none⟩) sl sl, .slice (some ⟨bf7, 0, none⟩) fl fl, .slice (some ⟨br7, 0, none⟩) rl rl, .int .i64 nx] 48)), hr7.2.2.2.keep ReR.kp ((Below.refl _ _).alloc (Nat.le_refl _) (.cells #[.slice (some ⟨bu7, 0, none⟩) ul ul, .slice (some ⟨bs7, 0, none⟩) sl sl, .slice (some ⟨bf7, 0, none⟩) fl fl, .slice (some ⟨br7, 0, none⟩) rl rl, .int .i64 nx] 48))⟩
        clear hr7
        replace R6 : Hid (Rw PlR 4 _ xa6 ps ∧ Rw (RoR 0) 5 _ ya6 ros) := ⟨R6.out.1.keep PlR.kp ((Below.refl _ _).alloc (Nat.le_refl _) (.cells #[.slice (some ⟨bu7, 0, none⟩) ul ul, .slice (some ⟨bs7, 0, none⟩) sl sl, .slice (some ⟨bf7, 0, none⟩) fl fl, .slice (some ⟨br7, 0, none⟩) rl rl, .int .i64 nx] 48)), R6.out.2.keep (RoR.kp 0) ((Below.refl _ _).alloc (Nat.le_refl _) (.cells #[.slice (some ⟨bu7, 0, none⟩) ul ul, .slice (some ⟨bs7, 0, none⟩) sl sl, .slice (some ⟨bf7, 0, none⟩) fl fl, .slice (some ⟨br7, 0, none⟩) rl rl, .int .i64 nx] 48))⟩
        have m7_0 := acell c7_2_0 (.cells #[.slice (some ⟨bu7, 0, none⟩) ul ul, .slice (some ⟨bs7, 0, none⟩) sl sl, .slice (some ⟨bf7, 0, none⟩) fl fl, .slice (some ⟨br7, 0, none⟩) rl rl, .int .i64 nx] 48)
        have m7_1 := acell c7_2_1 (.cells #[.slice (some ⟨bu7, 0, none⟩) ul ul, .slice (some ⟨bs7, 0, none⟩) sl sl, .slice (some ⟨bf7, 0, none⟩) fl fl, .slice (some ⟨br7, 0, none⟩) rl rl, .int .i64 nx] 48)
        have m7_2 := acell c7_2_2 (.cells #[.slice (some ⟨bu7, 0, none⟩) ul ul, .slice (some ⟨bs7, 0, none⟩) sl sl, .slice (some ⟨bf7, 0, none⟩) fl fl, .slice (some ⟨br7, 0, none⟩) rl rl, .int .i64 nx] 48)
        have m7_3 := acell c7_2_3 (.cells #[.slice (some ⟨bu7, 0, none⟩) ul ul, .slice (some ⟨bs7, 0, none⟩) sl sl, .slice (some ⟨bf7, 0, none⟩) fl fl, .slice (some ⟨br7, 0, none⟩) rl rl, .int .i64 nx] 48)
        have m7_4 := acell c7_2_4 (.cells #[.slice (some ⟨bu7, 0, none⟩) ul ul, .slice (some ⟨bs7, 0, none⟩) sl sl, .slice (some ⟨bf7, 0, none⟩) fl fl, .slice (some ⟨br7, 0, none⟩) rl rl, .int .i64 nx] 48)
        have m7_5 := acell c7_2_5 (.cells #[.slice (some ⟨bu7, 0, none⟩) ul ul, .slice (some ⟨bs7, 0, none⟩) sl sl, .slice (some ⟨bf7, 0, none⟩) fl fl, .slice (some ⟨br7, 0, none⟩) rl rl, .int .i64 nx] 48)
        have m7_6 := acell c7_2_6 (.cells #[.slice (some ⟨bu7, 0, none⟩) ul ul, .slice (some ⟨bs7, 0, none⟩) sl sl, .slice (some ⟨bf7, 0, none⟩) fl fl, .slice (some ⟨br7, 0, none⟩) rl rl, .int .i64 nx] 48)
        have m7_7 := acell c7_2_7 (.cells #[.slice (some ⟨bu7, 0, none⟩) ul ul, .slice (some ⟨bs7, 0, none⟩) sl sl, .slice (some ⟨bf7, 0, none⟩) fl fl, .slice (some ⟨br7, 0, none⟩) rl rl, .int .i64 nx] 48)
        go_wp2_with fail
        refine (HI.out _ _ _ _ _ _ _ R6.out R7.out).mono ?_
        rintro e wx8 ⟨rfl, bx⟩
        have c8_0_0 : wx8.cell? ⟨w.heap.size, 0, none⟩ = some (.int .i64 ip) := bkeep bx (by exact acell c7_0_0 _)
        have c8_0_1 : wx8.cell? ⟨w.heap.size, 1, none⟩ = some (.int .i64 b) := bkeep bx (by exact acell c7_0_1 _)
        have c8_0_2 : wx8.cell? ⟨w.heap.size, 2, none⟩ = some (.int .i64 gt) := bkeep bx (by exact acell c7_0_2 _)
        have c8_0_3 : wx8.cell? ⟨w.heap.size, 3, none⟩ = some (.string gm) := bkeep bx (by exact acell c7_0_3 _)
        have c8_0_4 : wx8.cell? ⟨w.heap.size, 4, none⟩ = some (.string wm) := bkeep bx (by exact acell c7_0_4 _)
        have c8_0_5 : wx8.cell? ⟨w.heap.size, 5, none⟩ = some (.int .i64 rs) := bkeep bx (by exact acell c7_0_5 _)
        have c8_0_6 : wx8.cell? ⟨w.heap.size, 6, none⟩ = some (.slice x lenx capx) := bkeep bx (by exact acell c7_0_6 _)
        have c8_0_7 : wx8.cell? ⟨w.heap.size, 7, none⟩ = some (.slice y leny capy) := bkeep bx (by exact acell c7_0_7 _)
        have c8_1_0 : wx8.cell? ⟨w.heap.size + 1, 0, none⟩ = some (.slice ua ul uc) := bkeep bx (by exact acell c7_1_0 _)
        have c8_1_1 : wx8.cell? ⟨w.heap.size + 1, 1, none⟩ = some (.slice sa sl sc) := bkeep bx (by exact acell c7_1_1 _)
        have c8_1_2 : wx8.cell? ⟨w.heap.size + 1, 2, none⟩ = some (.slice fa fl fc) := bkeep bx (by exact acell c7_1_2 _)
        have c8_1_3 : wx8.cell? ⟨w.heap.size + 1, 3, none⟩ = some (.slice ra rl rc) := bkeep bx (by exact acell c7_1_3 _)
        have c8_1_4 : wx8.cell? ⟨w.heap.size + 1, 4, none⟩ = some (.int .i64 nx) := bkeep bx (by exact acell c7_1_4 _)
        have c8_2_0 : wx8.cell? ⟨wx6.heap.size, 0, none⟩ = some (.int .i64 ip) := bkeep bx (by exact acell c7_2_0 _)
        have c8_2_1 : wx8.cell? ⟨wx6.heap.size, 1, none⟩ = some (.int .i64 b) := bkeep bx (by exact acell c7_2_1 _)
        have c8_2_2 : wx8.cell? ⟨wx6.heap.size, 2, none⟩ = some (.int .i64 gt) := bkeep bx (by exact acell c7_2_2 _)
        have c8_2_3 : wx8.cell? ⟨wx6.heap.size, 3, none⟩ = some (.string gm) := bkeep bx (by exact acell c7_2_3 _)
        have c8_2_4 : wx8.cell? ⟨wx6.heap.size, 4, none⟩ = some (.string wm) := bkeep bx (by exact acell c7_2_4 _)
        have c8_2_5 : wx8.cell? ⟨wx6.heap.size, 5, none⟩ = some (.int .i64 rs) := bkeep bx (by exact acell c7_2_5 _)
        have c8_2_6 : wx8.cell? ⟨wx6.heap.size, 6, none⟩ = some (.slice xa6 lenx lenx) := bkeep bx (by exact acell c7_2_6 _)
        have c8_2_7 : wx8.cell? ⟨wx6.heap.size, 7, none⟩ = some (.slice ya6 leny leny) := bkeep bx (by exact acell c7_2_7 _)
        have c8_3_0 : wx8.cell? ⟨wx7.heap.size, 0, none⟩ = some (.slice (some ⟨bu7, 0, none⟩) ul ul) := bkeep bx (by simp [go_sem])
        have c8_3_1 : wx8.cell? ⟨wx7.heap.size, 1, none⟩ = some (.slice (some ⟨bs7, 0, none⟩) sl sl) := bkeep bx (by simp [go_sem])
        have c8_3_2 : wx8.cell? ⟨wx7.heap.size, 2, none⟩ = some (.slice (some ⟨bf7, 0, none⟩) fl fl) := bkeep bx (by simp [go_sem])
        have c8_3_3 : wx8.cell? ⟨wx7.heap.size, 3, none⟩ = some (.slice (some ⟨br7, 0, none⟩) rl rl) := bkeep bx (by simp [go_sem])
        have c8_3_4 : wx8.cell? ⟨wx7.heap.size, 4, none⟩ = some (.int .i64 nx) := bkeep bx (by simp [go_sem])
        have BX8 : Hid (Below w.heap.size w wx8) := (BX7.out.alloc (by have := BX7.out.size; simp <;> omega) _).trans (bx.mono (by have := BX7.out.size; simp <;> omega))
        replace R6 : Hid (Rw PlR 4 _ xa6 ps ∧ Rw (RoR 0) 5 _ ya6 ros) := ⟨R6.out.1.keep PlR.kp bx, R6.out.2.keep (RoR.kp 0) bx⟩
        replace R7 : Hid (Rw UsR 6 _ (some ⟨bu7, 0, none⟩) us ∧ Rw SeR 10 _ (some ⟨bs7, 0, none⟩) ss ∧ Rw FaR 3 _ (some ⟨bf7, 0, none⟩) fs ∧ Rw ReR 5 _ (some ⟨br7, 0, none⟩) es) := ⟨R7.out.1.keep UsR.kp bx, R7.out.2.1.keep SeR.kp bx, R7.out.2.2.1.keep FaR.kp bx, R7.out.2.2.2.keep ReR.kp bx⟩
        clear bx c7_0_0 c7_0_1 c7_0_2 c7_0_3 c7_0_4 c7_0_5 c7_0_6 c7_0_7 c7_1_0 c7_1_1 c7_1_2 c7_1_3 c7_1_4 c7_2_0 c7_2_1 c7_2_2 c7_2_3 c7_2_4 c7_2_5 c7_2_6 c7_2_7 BX7
        clear m7_0 m7_1 m7_2 m7_3 m7_4 m7_5 m7_6 m7_7
        go_wp2_with fail
        have KP : Hid (∀ wx, Below wx8.heap.size wx8 wx → wx.cell? ⟨wx6.heap.size, 0, none⟩ = some (.int .i64 ip) ∧ wx.cell? ⟨wx6.heap.size, 1, none⟩ = some (.int .i64 b) ∧ wx.cell? ⟨wx6.heap.size, 2, none⟩ = some (.int .i64 gt) ∧ wx.cell? ⟨wx6.heap.size, 3, none⟩ = some (.string gm) ∧ wx.cell? ⟨wx6.heap.size, 4, none⟩ = some (.string wm) ∧ wx.cell? ⟨wx6.heap.size, 5, none⟩ = some (.int .i64 rs) ∧ wx.cell? ⟨wx6.heap.size, 6, none⟩ = some (.slice xa6 lenx lenx) ∧ wx.cell? ⟨wx6.heap.size, 7, none⟩ = some (.slice ya6 leny leny) ∧ wx.cell? ⟨w.heap.size, 0, none⟩ = some (.int .i64 ip) ∧ wx.cell? ⟨w.heap.size, 1, none⟩ = some (.int .i64 b) ∧ wx.cell? ⟨w.heap.size, 2, none⟩ = some (.int .i64 gt) ∧ wx.cell? ⟨w.heap.size, 3, none⟩ = some (.string gm) ∧ wx.cell? ⟨w.heap.size, 4, none⟩ = some (.string wm) ∧ wx.cell? ⟨w.heap.size, 5, none⟩ = some (.int .i64 rs) ∧ wx.cell? ⟨w.heap.size, 6, none⟩ = some (.slice x lenx capx) ∧ wx.cell? ⟨w.heap.size, 7, none⟩ = some (.slice y leny capy)) := fun wx hb => ⟨bkeep hb c8_2_0, bkeep hb c8_2_1, bkeep hb c8_2_2, bkeep hb c8_2_3, bkeep hb c8_2_4, bkeep hb c8_2_5, bkeep hb c8_2_6, bkeep hb c8_2_7, bkeep hb c8_0_0, bkeep hb c8_0_1, bkeep hb c8_0_2, bkeep hb c8_0_3, bkeep hb c8_0_4, bkeep hb c8_0_5, bkeep hb c8_0_6, bkeep hb c8_0_7⟩
        have DR : Hid (Below wx8.heap.size wx8 wx8.drew) := (Below.refl _ _).drew
        refine wp_region_held_drew (S := (fun wx => wx.cell? ⟨wx6.heap.size, 0, none⟩ = some (.int .i64 ip) ∧ wx.cell? ⟨wx6.heap.size, 1, none⟩ = some (.int .i64 b) ∧ wx.cell? ⟨wx6.heap.size, 2, none⟩ = some (.int .i64 gt) ∧ wx.cell? ⟨wx6.heap.size, 3, none⟩ = some (.string gm) ∧ wx.cell? ⟨wx6.heap.size, 4, none⟩ = some (.string wm) ∧ wx.cell? ⟨wx6.heap.size, 5, none⟩ = some (.int .i64 rs) ∧ wx.cell? ⟨wx6.heap.size, 6, none⟩ = some (.slice xa6 lenx lenx) ∧ wx.cell? ⟨wx6.heap.size, 7, none⟩ = some (.slice ya6 leny leny) ∧ wx.cell? ⟨w.heap.size, 0, none⟩ = some (.int .i64 ip) ∧ wx.cell? ⟨w.heap.size, 1, none⟩ = some (.int .i64 b) ∧ wx.cell? ⟨w.heap.size, 2, none⟩ = some (.int .i64 gt) ∧ wx.cell? ⟨w.heap.size, 3, none⟩ = some (.string gm) ∧ wx.cell? ⟨w.heap.size, 4, none⟩ = some (.string wm) ∧ wx.cell? ⟨w.heap.size, 5, none⟩ = some (.int .i64 rs) ∧ wx.cell? ⟨w.heap.size, 6, none⟩ = some (.slice x lenx capx) ∧ wx.cell? ⟨w.heap.size, 7, none⟩ = some (.slice y leny capy))) (by kernel_rfl) ?_ (fun hH0 => ?_)
        · exact KP.out _ DR.out
        refine wpAnyH_take (i := 0) (v := ?v901) rfl (by kernel_rfl) (by kernel_rfl) (by kernel_rfl) (fun _ _ _ h => h) (Or.inl ⟨by rfl, ?hy901⟩) (by assumption) ?rest901
        case hy901 => (intro w hSw; (try dsimp only at hSw); go_simp; (try with_reducible rfl))
        refine wpAnyH_take (i := 1) (v := ?v902) rfl (by kernel_rfl) (by kernel_rfl) (by kernel_rfl) (fun _ _ _ h => h) (Or.inl ⟨by rfl, ?hy902⟩) (by assumption) ?rest902
        case hy902 => (intro w hSw; (try dsimp only at hSw); go_simp; (try with_reducible rfl))
        refine wpAnyH_ready (rs := [2]) (by kernel_rfl) (by simp) ?_
        refine AllReadyH.cons rfl (fun K hK => ?_) ?_
        · go_simp
          go_at_call 9
          (with_reducible refine (HT.out _ ⟨RC.out.1.keep PlR.kp (BX8.out.trans (DR.out.mono BX8.out.size)), RC.out.2.keep (RoR.kp 0) (BX8.out.trans (DR.out.mono BX8.out.size))⟩).mono ?_)
          rintro e wc ⟨xb, yb, rfl, hr9, bc⟩
          have BC : Hid (Below wx8.heap.size wx8 wc) := DR.out.trans bc
          have R4c : Hid (Rw PlR 4 wc xa6 ps ∧ Rw (RoR 0) 5 wc ya6 ros) := ⟨R6.out.1.keep PlR.kp BC.out, R6.out.2.keep (RoR.kp 0) BC.out⟩
          have R9 : Hid (Rw PlR 4 wc xb ps ∧ Rw (RoR 0) 5 wc yb ros) := hr9
          clear hr9
          refine hK.out _ _ ?_ (fun hH903 => ?_)
          · (try dsimp only)
            first | with_reducible exact KP.out _ BD.out | with_reducible exact KP.out _ BC.out
          clear hK K hH0
          refine wpAnyH_ready (rs := [3]) (by kernel_rfl) (by simp) ?_
          refine AllReadyH.cons rfl (fun K hK => ?_) ?_
          · go_simp
            go_at_call 12
            (with_reducible refine (HE.out _ _ _ _ _ R4c.out R9.out).mono ?_)
            rintro e wd ⟨rfl, bd⟩
            have BD : Hid (Below wx8.heap.size wx8 wd) := BC.out.trans (bd.mono BC.out.size)
            clear bd
            refine hK.out _ _ ?_ (fun hH904 => ?_)
            · (try dsimp only)
              first | with_reducible exact KP.out _ BD.out | with_reducible exact KP.out _ BC.out
            clear hK K hH903
            refine wpAnyH_take (i := 4) (v := ?v905) rfl (by kernel_rfl) (by kernel_rfl) (by kernel_rfl) (fun _ _ _ h => h) (Or.inl ⟨by rfl, ?hy905⟩) (by assumption) ?rest905
            case hy905 => (intro w hSw; (try dsimp only at hSw); go_simp; (try with_reducible rfl))
            refine wpAnyH_done (by kernel_rfl) ?_ _
            go_simp
            have B9 : Hid (Below w.heap.size w wd) := BX8.out.trans (BD.out.mono BX8.out.size)
            have c9_1_0 : wd.cell? ⟨w.heap.size + 1, 0, none⟩ = some (.slice ua ul uc) := bkeep BD.out c8_1_0
            have c9_1_1 : wd.cell? ⟨w.heap.size + 1, 1, none⟩ = some (.slice sa sl sc) := bkeep BD.out c8_1_1
            have c9_1_2 : wd.cell? ⟨w.heap.size + 1, 2, none⟩ = some (.slice fa fl fc) := bkeep BD.out c8_1_2
            have c9_1_3 : wd.cell? ⟨w.heap.size + 1, 3, none⟩ = some (.slice ra rl rc) := bkeep BD.out c8_1_3
            have c9_1_4 : wd.cell? ⟨w.heap.size + 1, 4, none⟩ = some (.int .i64 nx) := bkeep BD.out c8_1_4
            have c9_3_0 : wd.cell? ⟨wx7.heap.size, 0, none⟩ = some (.slice (some ⟨bu7, 0, none⟩) ul ul) := bkeep BD.out c8_3_0
            have c9_3_1 : wd.cell? ⟨wx7.heap.size, 1, none⟩ = some (.slice (some ⟨bs7, 0, none⟩) sl sl) := bkeep BD.out c8_3_1
            have c9_3_2 : wd.cell? ⟨wx7.heap.size, 2, none⟩ = some (.slice (some ⟨bf7, 0, none⟩) fl fl) := bkeep BD.out c8_3_2
            have c9_3_3 : wd.cell? ⟨wx7.heap.size, 3, none⟩ = some (.slice (some ⟨br7, 0, none⟩) rl rl) := bkeep BD.out c8_3_3
            have c9_3_4 : wd.cell? ⟨wx7.heap.size, 4, none⟩ = some (.int .i64 nx) := bkeep BD.out c8_3_4
            have R79 : Hid (Rw UsR 6 wd (some ⟨bu7, 0, none⟩) us ∧ Rw SeR 10 wd (some ⟨bs7, 0, none⟩) ss ∧ Rw FaR 3 wd (some ⟨bf7, 0, none⟩) fs ∧ Rw ReR 5 wd (some ⟨br7, 0, none⟩) es) := ⟨R7.out.1.keep UsR.kp BD.out, R7.out.2.1.keep SeR.kp BD.out, R7.out.2.2.1.keep FaR.kp BD.out, R7.out.2.2.2.keep ReR.kp BD.out⟩
            clear KP DR BC BD R4c R9 R6 R7 BX8 c8_0_0 c8_0_1 c8_0_2 c8_0_3 c8_0_4 c8_0_5 c8_0_6 c8_0_7 c8_1_0 c8_1_1 c8_1_2 c8_1_3 c8_1_4 c8_2_0 c8_2_1 c8_2_2 c8_2_3 c8_2_4 c8_2_5 c8_2_6 c8_2_7 c8_3_0 c8_3_1 c8_3_2 c8_3_3 c8_3_4
            go_wp2_with fail
            have KP : Hid (∀ wx, Below wd.heap.size wd wx → wx.cell? ⟨wx7.heap.size, 0, none⟩ = some (.slice (some ⟨bu7, 0, none⟩) ul ul) ∧ wx.cell? ⟨wx7.heap.size, 1, none⟩ = some (.slice (some ⟨bs7, 0, none⟩) sl sl) ∧ wx.cell? ⟨wx7.heap.size, 2, none⟩ = some (.slice (some ⟨bf7, 0, none⟩) fl fl) ∧ wx.cell? ⟨wx7.heap.size, 3, none⟩ = some (.slice (some ⟨br7, 0, none⟩) rl rl) ∧ wx.cell? ⟨wx7.heap.size, 4, none⟩ = some (.int .i64 nx) ∧ wx.cell? ⟨w.heap.size + 1, 0, none⟩ = some (.slice ua ul uc) ∧ wx.cell? ⟨w.heap.size + 1, 1, none⟩ = some (.slice sa sl sc) ∧ wx.cell? ⟨w.heap.size + 1, 2, none⟩ = some (.slice fa fl fc) ∧ wx.cell? ⟨w.heap.size + 1, 3, none⟩ = some (.slice ra rl rc) ∧ wx.cell? ⟨w.heap.size + 1, 4, none⟩ = some (.int .i64 nx)) := fun wx hb => ⟨bkeep hb c9_3_0, bkeep hb c9_3_1, bkeep hb c9_3_2, bkeep hb c9_3_3, bkeep hb c9_3_4, bkeep hb c9_1_0, bkeep hb c9_1_1, bkeep hb c9_1_2, bkeep hb c9_1_3, bkeep hb c9_1_4⟩
            have DR : Hid (Below wd.heap.size wd wd.drew) := (Below.refl _ _).drew
            refine wp_region_held_drew (S := (fun wx => wx.cell? ⟨wx7.heap.size, 0, none⟩ = some (.slice (some ⟨bu7, 0, none⟩) ul ul) ∧ wx.cell? ⟨wx7.heap.size, 1, none⟩ = some (.slice (some ⟨bs7, 0, none⟩) sl sl) ∧ wx.cell? ⟨wx7.heap.size, 2, none⟩ = some (.slice (some ⟨bf7, 0, none⟩) fl fl) ∧ wx.cell? ⟨wx7.heap.size, 3, none⟩ = some (.slice (some ⟨br7, 0, none⟩) rl rl) ∧ wx.cell? ⟨wx7.heap.size, 4, none⟩ = some (.int .i64 nx) ∧ wx.cell? ⟨w.heap.size + 1, 0, none⟩ = some (.slice ua ul uc) ∧ wx.cell? ⟨w.heap.size + 1, 1, none⟩ = some (.slice sa sl sc) ∧ wx.cell? ⟨w.heap.size + 1, 2, none⟩ = some (.slice fa fl fc) ∧ wx.cell? ⟨w.heap.size + 1, 3, none⟩ = some (.slice ra rl rc) ∧ wx.cell? ⟨w.heap.size + 1, 4, none⟩ = some (.int .i64 nx))) (by kernel_rfl) ?_ (fun hH0 => ?_)
            · exact KP.out _ DR.out
            refine wpAnyH_take (i := 0) (v := ?v1901) rfl (by kernel_rfl) (by kernel_rfl) (by kernel_rfl) (fun _ _ _ h => h) (Or.inl ⟨by rfl, ?hy1901⟩) (by assumption) ?rest1901
            case hy1901 => (intro w hSw; (try dsimp only at hSw); go_simp; (try with_reducible rfl))
            refine wpAnyH_take (i := 1) (v := ?v1902) rfl (by kernel_rfl) (by kernel_rfl) (by kernel_rfl) (fun _ _ _ h => h) (Or.inl ⟨by rfl, ?hy1902⟩) (by assumption) ?rest1902
            case hy1902 => (intro w hSw; (try dsimp only at hSw); go_simp; (try with_reducible rfl))
            refine wpAnyH_ready (rs := [2]) (by kernel_rfl) (by simp) ?_
            refine AllReadyH.cons rfl (fun K hK => ?_) ?_
            · go_simp
              go_at_call 10
              (with_reducible refine (HV.out _ ⟨RG.out.1.keep UsR.kp (B9.out.trans (DR.out.mono B9.out.size)), RG.out.2.1.keep SeR.kp (B9.out.trans (DR.out.mono B9.out.size)), RG.out.2.2.1.keep FaR.kp (B9.out.trans (DR.out.mono B9.out.size)), RG.out.2.2.2.keep ReR.kp (B9.out.trans (DR.out.mono B9.out.size))⟩).mono ?_)
              rintro e we ⟨ku, ks, kf, kr, rfl, hr9, bc⟩
              have BC : Hid (Below wd.heap.size wd we) := DR.out.trans bc
              have R4c : Hid (Rw UsR 6 we (some ⟨bu7, 0, none⟩) us ∧ Rw SeR 10 we (some ⟨bs7, 0, none⟩) ss ∧ Rw FaR 3 we (some ⟨bf7, 0, none⟩) fs ∧ Rw ReR 5 we (some ⟨br7, 0, none⟩) es) := ⟨R79.out.1.keep UsR.kp BC.out, R79.out.2.1.keep SeR.kp BC.out, R79.out.2.2.1.keep FaR.kp BC.out, R79.out.2.2.2.keep ReR.kp BC.out⟩
              have R9 : Hid (Rw UsR 6 we (some ⟨ku, 0, none⟩) us ∧ Rw SeR 10 we (some ⟨ks, 0, none⟩) ss ∧ Rw FaR 3 we (some ⟨kf, 0, none⟩) fs ∧ Rw ReR 5 we (some ⟨kr, 0, none⟩) es) := hr9
              clear hr9
              refine hK.out _ _ ?_ (fun hH1903 => ?_)
              · (try dsimp only)
                first | with_reducible exact KP.out _ BD.out | with_reducible exact KP.out _ BC.out
              clear hK K hH0
              refine wpAnyH_ready (rs := [3]) (by kernel_rfl) (by simp) ?_
              refine AllReadyH.cons rfl (fun K hK => ?_) ?_
              · go_simp
                go_at_call 13
                (with_reducible refine (HF.out _ _ _ _ _ _ _ _ _ R4c.out R9.out).mono ?_)
                rintro e wf ⟨rfl, bd⟩
                have BD : Hid (Below wd.heap.size wd wf) := BC.out.trans (bd.mono BC.out.size)
                clear bd
                refine hK.out _ _ ?_ (fun hH1904 => ?_)
                · (try dsimp only)
                  first | with_reducible exact KP.out _ BD.out | with_reducible exact KP.out _ BC.out
                clear hK K hH1903
                refine wpAnyH_take (i := 4) (v := ?v1905) rfl (by kernel_rfl) (by kernel_rfl) (by kernel_rfl) (fun _ _ _ h => h) (Or.inl ⟨by rfl, ?hy1905⟩) (by assumption) ?rest1905
                case hy1905 => (intro w hSw; (try dsimp only at hSw); go_simp; (try with_reducible rfl))
                refine wpAnyH_done (by kernel_rfl) ?_ _
                go_simp
                go_wp2
                go_ret
                exact ⟨rfl, B9.out.trans (BD.out.mono B9.out.size)⟩
              exact AllReadyH.nil
            exact AllReadyH.nil
          exact AllReadyH.nil
        exact AllReadyH.nil
        
      exact AllReadyH.nil
    exact AllReadyH.nil
  exact AllReadyH.nil
end Go.Proofs.YtimhkeebgogfoabGreat
