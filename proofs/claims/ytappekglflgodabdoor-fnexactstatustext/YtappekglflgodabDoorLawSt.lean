/- The walk of laws.FnExactStatusText. -/
import Derived.Test.YtappekglflgodabDoorStaC
import Derived.Test.YtappekglflgodabDoorStaE
import Derived.Deep.RegionHeld3
namespace Go.Proofs.YtappekglflgodabDoor
open Go.RowKit Go.PlainAid Go.Proofs.YtappekglflgodabDoor.Bt Go.Sort
set_option linter.unusedVariables false
set_option maxRecDepth 20000
theorem Tens.to {w : World} (h : Tens w.heap.size w) {W : World} (hb : Below w.heap.size w W) : Tens W.heap.size W := fun W' hW => h W' (hb.trans (hW.mono hb.size))
theorem nm_of {us : List UserV} {n : Int} (h : szL wtUser us ≤ n) (hn : n ≤ 1048576) : ∀ u ∈ us, u.nm.size ≤ 1048576 := by
  intro u hu
  have := szL_mem wtUser_nn us u hu
  have e : wtUser u = (u.nm.size : Int) + u.sa.size + u.ha.size + u.ro.size := rfl
  rw [e] at this
  omega
set_option maxHeartbeats 8000000 in
theorem lawStatusText_any (ua sa fa ra : Option Addr) (ul uc sl sc fl fc rl rc : Nat) (us : List UserV) (ss : List SessV) (fs : List FailV) (rs : List RecV) (nx : Int) (mac : ByteArray) (q now : Int) (w : World) (hu : Rw UsR 6 w ua us) (lu : us.length = ul) (hs : Rw SeR 10 w sa ss) (ls : ss.length = sl) (hf : Rw FaR 3 w fa fs) (lf : fs.length = fl) (hr : Rw ReR 5 w ra rs) (lr : rs.length = rl) (bu : ul ≤ 9223372036854775807) (bs : sl ≤ 9223372036854775807) (bf : fl ≤ 9223372036854775807) (br : rl ≤ 9223372036854775807) (hmac : mac.size ≤ maxLen) (ht : Tens w.heap.size w) :
    Calls Tryd.prog 3 #[.agg #[.slice ua ul uc, .slice sa sl sc, .slice fa fl fc, .slice ra rl rc, .int .i64 nx], .string mac, .int .i64 q, .int .i64 now] w fun e w' => e = .returned (.bool true) ∧ Below w.heap.size w w' := by
  unfold maxLen at hmac
  have HT9 : Hid (Tens w.heap.size w) := ht
  clear ht
  by_cases hlong : 1048576 < mac.size
  · have hz : (1048576 : Int) < (mac.size : Int) := by omega
    go_enter Tryd.func3, Tryd.ntmps3
    go_wp2
    go_ret
    exact ⟨rfl, (Below.refl _ _).alloc (Nat.le_refl _) _⟩
  have hz : (mac.size : Int) ≤ 1048576 := by omega
  have RG : Hid (Rw UsR 6 w ua us ∧ Rw SeR 10 w sa ss ∧ Rw FaR 3 w fa fs ∧ Rw ReR 5 w ra rs) := ⟨hu, hs, hf, hr⟩
  have HZ : Hid (∀ w, (Rw UsR 6 w ua us ∧ Rw SeR 10 w sa ss ∧ Rw FaR 3 w fa fs ∧ Rw ReR 5 w ra rs) → Calls Tryd.prog 4 #[.agg #[.slice ua ul uc, .slice sa sl sc, .slice fa fl fc, .slice ra rl rc, .int .i64 nx], .int .i64 1048576] w fun e w' => ∃ r : Int, e = .returned (.int .i64 r) ∧ (0 ≤ r → ((ul : Int) + szL wtUser us + sl + szL wtSession ss + fl + szL wtFail fs + rl) ≤ 1048576) ∧ -1 ≤ r ∧ r ≤ 1048576 ∧ Below w.heap.size w w') := fun w h => (szGuests_any ua sa fa ra ul uc sl sc fl fc rl rc us ss fs rs nx 1048576 w h.1 lu h.2.1 ls h.2.2.1 lf h.2.2.2 lr bu bs bf br (by omega) (by omega)).mono fun e w' ⟨r, h1, h2, h3, h4, h5⟩ => ⟨r, h1, h2, h3, h4, h5.below⟩
  clear hu hs hf hr
  go_enter Tryd.func3, Tryd.ntmps3
  go_wp2_with fail
  refine (HZ.out _ ⟨RG.out.1.keep UsR.kp ((Below.refl w.heap.size w).alloc (by simp <;> omega) _), RG.out.2.1.keep SeR.kp ((Below.refl w.heap.size w).alloc (by simp <;> omega) _), RG.out.2.2.1.keep FaR.kp ((Below.refl w.heap.size w).alloc (by simp <;> omega) _), RG.out.2.2.2.keep ReR.kp ((Below.refl w.heap.size w).alloc (by simp <;> omega) _)⟩).mono ?_
  rintro e wx1 ⟨r, rfl, hr, hr1, hr2, bx⟩
  have c1_0_0 : wx1.cell? ⟨w.heap.size, 0, none⟩ = some (.slice ua ul uc) := bkeep bx (by simp [go_sem])
  have c1_0_1 : wx1.cell? ⟨w.heap.size, 1, none⟩ = some (.slice sa sl sc) := bkeep bx (by simp [go_sem])
  have c1_0_2 : wx1.cell? ⟨w.heap.size, 2, none⟩ = some (.slice fa fl fc) := bkeep bx (by simp [go_sem])
  have c1_0_3 : wx1.cell? ⟨w.heap.size, 3, none⟩ = some (.slice ra rl rc) := bkeep bx (by simp [go_sem])
  have c1_0_4 : wx1.cell? ⟨w.heap.size, 4, none⟩ = some (.int .i64 nx) := bkeep bx (by simp [go_sem])
  have BX1 : Hid (Below w.heap.size w wx1) := ((Below.refl w.heap.size w).alloc (by simp <;> omega) _).trans (bx.mono (by simp <;> omega))
  clear bx
  by_cases hr0 : r < 0
  · go_wp2
    go_ret
    exact ⟨rfl, BX1.out⟩
  have hb := hr (by omega)
  have nu := szL_nonneg wtUser_nn us
  have ns := szL_nonneg wtSession_nn ss
  have nf := szL_nonneg wtFail_nn fs
  have hz9 := nm_of (us := us) (n := 1048576) (by omega) (by omega)
  have HT : Hid (∀ w, (Rw UsR 6 w ua us ∧ Rw SeR 10 w sa ss ∧ Rw FaR 3 w fa fs ∧ Rw ReR 5 w ra rs) → Calls Tryd.prog 6 #[.agg #[.slice ua ul uc, .slice sa sl sc, .slice fa fl fc, .slice ra rl rc, .int .i64 nx]] w fun e w' => ∃ gu gs gf gr : Nat, e = .returned (.agg #[.slice (some ⟨gu, 0, none⟩) ul ul, .slice (some ⟨gs, 0, none⟩) sl sl, .slice (some ⟨gf, 0, none⟩) fl fl, .slice (some ⟨gr, 0, none⟩) rl rl, .int .i64 nx]) ∧ (Rw UsR 6 w' (some ⟨gu, 0, none⟩) us ∧ Rw SeR 10 w' (some ⟨gs, 0, none⟩) ss ∧ Rw FaR 3 w' (some ⟨gf, 0, none⟩) fs ∧ Rw ReR 5 w' (some ⟨gr, 0, none⟩) rs) ∧ Below w.heap.size w w') := fun w h => (toGuests_any ua sa fa ra ul uc sl sc fl fc rl rc us ss fs rs nx w h.1 lu h.2.1 ls h.2.2.1 lf h.2.2.2 lr (by omega) (by omega) (by omega) (by omega)).mono fun e w' ⟨b1, b2, b3, b4, h1, _, h2, h3⟩ => ⟨b1, b2, b3, b4, h1, h2, h3⟩
  have HS : Hid (∀ w gu gs gf gr, Rw SeR 10 w (some ⟨gs, 0, none⟩) ss → Rw UsR 6 w (some ⟨gu, 0, none⟩) us → Calls Tryd.prog 5 #[.agg #[.slice (some ⟨gu, 0, none⟩) ul ul, .slice (some ⟨gs, 0, none⟩) sl sl, .slice (some ⟨gf, 0, none⟩) fl fl, .slice (some ⟨gr, 0, none⟩) rl rl, .int .i64 nx], .string mac, .int .i64 q, .int .i64 now] w fun e w' => e = .returned (.tuple #[.string (stS us ss mac q now), .int .i64 (stC us ss mac now)]) ∧ Below w.heap.size w w') := fun w gu gs gf gr h k => specSt_any _ _ _ _ _ _ _ _ _ _ _ _ _ us ss mac q now w h ls k lu (by omega) hz9 (by omega)
  have HI : Hid (∀ w gu gs gf gr, Rw SeR 10 w (some ⟨gs, 0, none⟩) ss → Rw UsR 6 w (some ⟨gu, 0, none⟩) us → Tens w.heap.size w → Calls Tryd.prog 7 #[.agg #[.slice (some ⟨gu, 0, none⟩) ul ul, .slice (some ⟨gs, 0, none⟩) sl sl, .slice (some ⟨gf, 0, none⟩) fl fl, .slice (some ⟨gr, 0, none⟩) rl rl, .int .i64 nx], .string mac, .int .i64 q, .int .i64 now] w fun e w' => e = .returned (.tuple #[.string (stS us ss mac q now), .int .i64 (stC us ss mac now)]) ∧ Below w.heap.size w w') := fun w gu gs gf gr h k t => implSt_any _ _ _ _ _ _ _ _ _ _ _ _ _ us ss mac q now w h ls k lu (by omega) hz9 (by omega) (by omega) t
  have HE : Hid (∀ w gu gs gf gr ku ks kf kr, (Rw UsR 6 w (some ⟨gu, 0, none⟩) us ∧ Rw SeR 10 w (some ⟨gs, 0, none⟩) ss ∧ Rw FaR 3 w (some ⟨gf, 0, none⟩) fs ∧ Rw ReR 5 w (some ⟨gr, 0, none⟩) rs) → (Rw UsR 6 w (some ⟨ku, 0, none⟩) us ∧ Rw SeR 10 w (some ⟨ks, 0, none⟩) ss ∧ Rw FaR 3 w (some ⟨kf, 0, none⟩) fs ∧ Rw ReR 5 w (some ⟨kr, 0, none⟩) rs) → Calls Tryd.prog 8 #[.agg #[.slice (some ⟨gu, 0, none⟩) ul ul, .slice (some ⟨gs, 0, none⟩) sl sl, .slice (some ⟨gf, 0, none⟩) fl fl, .slice (some ⟨gr, 0, none⟩) rl rl, .int .i64 nx], .agg #[.slice (some ⟨ku, 0, none⟩) ul ul, .slice (some ⟨ks, 0, none⟩) sl sl, .slice (some ⟨kf, 0, none⟩) fl fl, .slice (some ⟨kr, 0, none⟩) rl rl, .int .i64 nx]] w fun e w' => e = .returned (.bool true) ∧ Below w.heap.size w w') := fun w gu gs gf gr ku ks kf kr h k => (eqGuests_yes _ _ _ _ _ _ _ _ _ _ _ _ _ _ _ _ _ _ _ _ us ss fs rs nx w h.1 k.1 lu h.2.1 k.2.1 ls h.2.2.1 k.2.2.1 lf h.2.2.2 k.2.2.2 lr bu bs bf br).mono fun e w' h => ⟨h.1, h.2.below⟩
  generalize stS us ss mac q now = z1 at HS HI
  generalize stC us ss mac now = z2 at HS HI
  have hne1 : (z1.toList != z1.toList) = false := by simp
  have hne1b : (z1.toList == z1.toList) = true := by simp
  have hne2 : (z2 != z2) = false := by simp
  clear hr hr1 hr2 hb HZ nu ns nf hz9
  go_wp2_with fail
  refine (HT.out _ ⟨RG.out.1.keep UsR.kp BX1.out, RG.out.2.1.keep SeR.kp BX1.out, RG.out.2.2.1.keep FaR.kp BX1.out, RG.out.2.2.2.keep ReR.kp BX1.out⟩).mono ?_
  rintro e wx2 ⟨bu2, bs2, bf2, br2, rfl, hr2, bx⟩
  have c2_0_0 : wx2.cell? ⟨w.heap.size, 0, none⟩ = some (.slice ua ul uc) := bkeep bx (by first | (simp [go_sem]; done) | simp [go_sem, c1_0_0])
  have c2_0_1 : wx2.cell? ⟨w.heap.size, 1, none⟩ = some (.slice sa sl sc) := bkeep bx (by first | (simp [go_sem]; done) | simp [go_sem, c1_0_1])
  have c2_0_2 : wx2.cell? ⟨w.heap.size, 2, none⟩ = some (.slice fa fl fc) := bkeep bx (by first | (simp [go_sem]; done) | simp [go_sem, c1_0_2])
  have c2_0_3 : wx2.cell? ⟨w.heap.size, 3, none⟩ = some (.slice ra rl rc) := bkeep bx (by first | (simp [go_sem]; done) | simp [go_sem, c1_0_3])
  have c2_0_4 : wx2.cell? ⟨w.heap.size, 4, none⟩ = some (.int .i64 nx) := bkeep bx (by first | (simp [go_sem]; done) | simp [go_sem, c1_0_4])
  have BX2 : Hid (Below w.heap.size w wx2) := BX1.out.trans (bx.mono (by have := BX1.out.size; simp <;> omega))
  clear bx c1_0_0 c1_0_1 c1_0_2 c1_0_3 c1_0_4 BX1
  have R2 : Hid (Rw SeR 10 _ (some ⟨bs2, 0, none⟩) ss ∧ Rw UsR 6 _ (some ⟨bu2, 0, none⟩) us) := ⟨hr2.2.1, hr2.1⟩
  clear hr2
  go_wp2_with fail
  refine (HS.out _ _ _ _ _ R2.out.1 R2.out.2).mono ?_
  rintro e wx3 ⟨rfl, bx⟩
  have c3_0_0 : wx3.cell? ⟨w.heap.size, 0, none⟩ = some (.slice ua ul uc) := bkeep bx (by first | (simp [go_sem]; done) | simp [go_sem, c2_0_0])
  have c3_0_1 : wx3.cell? ⟨w.heap.size, 1, none⟩ = some (.slice sa sl sc) := bkeep bx (by first | (simp [go_sem]; done) | simp [go_sem, c2_0_1])
  have c3_0_2 : wx3.cell? ⟨w.heap.size, 2, none⟩ = some (.slice fa fl fc) := bkeep bx (by first | (simp [go_sem]; done) | simp [go_sem, c2_0_2])
  have c3_0_3 : wx3.cell? ⟨w.heap.size, 3, none⟩ = some (.slice ra rl rc) := bkeep bx (by first | (simp [go_sem]; done) | simp [go_sem, c2_0_3])
  have c3_0_4 : wx3.cell? ⟨w.heap.size, 4, none⟩ = some (.int .i64 nx) := bkeep bx (by first | (simp [go_sem]; done) | simp [go_sem, c2_0_4])
  have BX3 : Hid (Below w.heap.size w wx3) := BX2.out.trans (bx.mono (by have := BX2.out.size; simp <;> omega))
  clear bx c2_0_0 c2_0_1 c2_0_2 c2_0_3 c2_0_4 BX2
  clear R2
  go_wp2_with fail
  refine (HT.out _ ⟨RG.out.1.keep UsR.kp BX3.out, RG.out.2.1.keep SeR.kp BX3.out, RG.out.2.2.1.keep FaR.kp BX3.out, RG.out.2.2.2.keep ReR.kp BX3.out⟩).mono ?_
  rintro e wx4 ⟨bu4, bs4, bf4, br4, rfl, hr4, bx⟩
  have c4_0_0 : wx4.cell? ⟨w.heap.size, 0, none⟩ = some (.slice ua ul uc) := bkeep bx (by first | (simp [go_sem]; done) | simp [go_sem, c3_0_0])
  have c4_0_1 : wx4.cell? ⟨w.heap.size, 1, none⟩ = some (.slice sa sl sc) := bkeep bx (by first | (simp [go_sem]; done) | simp [go_sem, c3_0_1])
  have c4_0_2 : wx4.cell? ⟨w.heap.size, 2, none⟩ = some (.slice fa fl fc) := bkeep bx (by first | (simp [go_sem]; done) | simp [go_sem, c3_0_2])
  have c4_0_3 : wx4.cell? ⟨w.heap.size, 3, none⟩ = some (.slice ra rl rc) := bkeep bx (by first | (simp [go_sem]; done) | simp [go_sem, c3_0_3])
  have c4_0_4 : wx4.cell? ⟨w.heap.size, 4, none⟩ = some (.int .i64 nx) := bkeep bx (by first | (simp [go_sem]; done) | simp [go_sem, c3_0_4])
  have BX4 : Hid (Below w.heap.size w wx4) := BX3.out.trans (bx.mono (by have := BX3.out.size; simp <;> omega))
  clear bx c3_0_0 c3_0_1 c3_0_2 c3_0_3 c3_0_4 BX3
  have R4 : Hid (Rw UsR 6 _ (some ⟨bu4, 0, none⟩) us ∧ Rw SeR 10 _ (some ⟨bs4, 0, none⟩) ss ∧ Rw FaR 3 _ (some ⟨bf4, 0, none⟩) fs ∧ Rw ReR 5 _ (some ⟨br4, 0, none⟩) rs) := ⟨hr4.1.keep UsR.kp ((Below.refl _ _).alloc (Nat.le_refl _) (.cells #[.slice (some ⟨bu4, 0, none⟩) ul ul, .slice (some ⟨bs4, 0, none⟩) sl sl, .slice (some ⟨bf4, 0, none⟩) fl fl, .slice (some ⟨br4, 0, none⟩) rl rl, .int .i64 nx] 36)), hr4.2.1.keep SeR.kp ((Below.refl _ _).alloc (Nat.le_refl _) (.cells #[.slice (some ⟨bu4, 0, none⟩) ul ul, .slice (some ⟨bs4, 0, none⟩) sl sl, .slice (some ⟨bf4, 0, none⟩) fl fl, .slice (some ⟨br4, 0, none⟩) rl rl, .int .i64 nx] 36)), hr4.2.2.1.keep FaR.kp ((Below.refl _ _).alloc (Nat.le_refl _) (.cells #[.slice (some ⟨bu4, 0, none⟩) ul ul, .slice (some ⟨bs4, 0, none⟩) sl sl, .slice (some ⟨bf4, 0, none⟩) fl fl, .slice (some ⟨br4, 0, none⟩) rl rl, .int .i64 nx] 36)), hr4.2.2.2.keep ReR.kp ((Below.refl _ _).alloc (Nat.le_refl _) (.cells #[.slice (some ⟨bu4, 0, none⟩) ul ul, .slice (some ⟨bs4, 0, none⟩) sl sl, .slice (some ⟨bf4, 0, none⟩) fl fl, .slice (some ⟨br4, 0, none⟩) rl rl, .int .i64 nx] 36))⟩
  clear hr4
  go_wp2_with fail
  refine (HI.out _ _ _ _ _ R4.out.2.1 R4.out.1 (HT9.out.to (BX4.out.alloc (by have := BX4.out.size; simp <;> omega) _))).mono ?_
  rintro e wx5 ⟨rfl, bx⟩
  have c5_0_0 : wx5.cell? ⟨w.heap.size, 0, none⟩ = some (.slice ua ul uc) := bkeep bx (by exact acell c4_0_0 _)
  have c5_0_1 : wx5.cell? ⟨w.heap.size, 1, none⟩ = some (.slice sa sl sc) := bkeep bx (by exact acell c4_0_1 _)
  have c5_0_2 : wx5.cell? ⟨w.heap.size, 2, none⟩ = some (.slice fa fl fc) := bkeep bx (by exact acell c4_0_2 _)
  have c5_0_3 : wx5.cell? ⟨w.heap.size, 3, none⟩ = some (.slice ra rl rc) := bkeep bx (by exact acell c4_0_3 _)
  have c5_0_4 : wx5.cell? ⟨w.heap.size, 4, none⟩ = some (.int .i64 nx) := bkeep bx (by exact acell c4_0_4 _)
  have c5_1_0 : wx5.cell? ⟨wx4.heap.size, 0, none⟩ = some (.slice (some ⟨bu4, 0, none⟩) ul ul) := bkeep bx (by simp [go_sem])
  have c5_1_1 : wx5.cell? ⟨wx4.heap.size, 1, none⟩ = some (.slice (some ⟨bs4, 0, none⟩) sl sl) := bkeep bx (by simp [go_sem])
  have c5_1_2 : wx5.cell? ⟨wx4.heap.size, 2, none⟩ = some (.slice (some ⟨bf4, 0, none⟩) fl fl) := bkeep bx (by simp [go_sem])
  have c5_1_3 : wx5.cell? ⟨wx4.heap.size, 3, none⟩ = some (.slice (some ⟨br4, 0, none⟩) rl rl) := bkeep bx (by simp [go_sem])
  have c5_1_4 : wx5.cell? ⟨wx4.heap.size, 4, none⟩ = some (.int .i64 nx) := bkeep bx (by simp [go_sem])
  have BX5 : Hid (Below w.heap.size w wx5) := (BX4.out.alloc (by have := BX4.out.size; simp <;> omega) _).trans (bx.mono (by have := BX4.out.size; simp <;> omega))
  replace R4 : Hid (Rw UsR 6 _ (some ⟨bu4, 0, none⟩) us ∧ Rw SeR 10 _ (some ⟨bs4, 0, none⟩) ss ∧ Rw FaR 3 _ (some ⟨bf4, 0, none⟩) fs ∧ Rw ReR 5 _ (some ⟨br4, 0, none⟩) rs) := ⟨R4.out.1.keep UsR.kp bx, R4.out.2.1.keep SeR.kp bx, R4.out.2.2.1.keep FaR.kp bx, R4.out.2.2.2.keep ReR.kp bx⟩
  clear bx c4_0_0 c4_0_1 c4_0_2 c4_0_3 c4_0_4 BX4
  go_wp2_with fail
  have KP : Hid (∀ wx, Below wx5.heap.size wx5 wx → wx.cell? ⟨wx4.heap.size, 0, none⟩ = some (.slice (some ⟨bu4, 0, none⟩) ul ul) ∧ wx.cell? ⟨wx4.heap.size, 1, none⟩ = some (.slice (some ⟨bs4, 0, none⟩) sl sl) ∧ wx.cell? ⟨wx4.heap.size, 2, none⟩ = some (.slice (some ⟨bf4, 0, none⟩) fl fl) ∧ wx.cell? ⟨wx4.heap.size, 3, none⟩ = some (.slice (some ⟨br4, 0, none⟩) rl rl) ∧ wx.cell? ⟨wx4.heap.size, 4, none⟩ = some (.int .i64 nx) ∧ wx.cell? ⟨w.heap.size, 0, none⟩ = some (.slice ua ul uc) ∧ wx.cell? ⟨w.heap.size, 1, none⟩ = some (.slice sa sl sc) ∧ wx.cell? ⟨w.heap.size, 2, none⟩ = some (.slice fa fl fc) ∧ wx.cell? ⟨w.heap.size, 3, none⟩ = some (.slice ra rl rc) ∧ wx.cell? ⟨w.heap.size, 4, none⟩ = some (.int .i64 nx)) := fun wx hb => ⟨bkeep hb c5_1_0, bkeep hb c5_1_1, bkeep hb c5_1_2, bkeep hb c5_1_3, bkeep hb c5_1_4, bkeep hb c5_0_0, bkeep hb c5_0_1, bkeep hb c5_0_2, bkeep hb c5_0_3, bkeep hb c5_0_4⟩
  have DR : Hid (Below wx5.heap.size wx5 wx5.drew) := (Below.refl _ _).drew
  refine wp_region_held_drew (S := (fun wx => wx.cell? ⟨wx4.heap.size, 0, none⟩ = some (.slice (some ⟨bu4, 0, none⟩) ul ul) ∧ wx.cell? ⟨wx4.heap.size, 1, none⟩ = some (.slice (some ⟨bs4, 0, none⟩) sl sl) ∧ wx.cell? ⟨wx4.heap.size, 2, none⟩ = some (.slice (some ⟨bf4, 0, none⟩) fl fl) ∧ wx.cell? ⟨wx4.heap.size, 3, none⟩ = some (.slice (some ⟨br4, 0, none⟩) rl rl) ∧ wx.cell? ⟨wx4.heap.size, 4, none⟩ = some (.int .i64 nx) ∧ wx.cell? ⟨w.heap.size, 0, none⟩ = some (.slice ua ul uc) ∧ wx.cell? ⟨w.heap.size, 1, none⟩ = some (.slice sa sl sc) ∧ wx.cell? ⟨w.heap.size, 2, none⟩ = some (.slice fa fl fc) ∧ wx.cell? ⟨w.heap.size, 3, none⟩ = some (.slice ra rl rc) ∧ wx.cell? ⟨w.heap.size, 4, none⟩ = some (.int .i64 nx))) (by kernel_rfl) ?_ (fun hH0 => ?_)
  · exact KP.out _ DR.out
  refine wpAnyH_take (i := 0) (v := ?v901) rfl (by kernel_rfl) (by kernel_rfl) (by kernel_rfl) (fun _ _ _ h => h) (Or.inl ⟨by rfl, ?hy901⟩) (by assumption) ?rest901
  case hy901 => (intro w hSw; (try dsimp only at hSw); go_simp; (try with_reducible rfl))
  refine wpAnyH_take (i := 1) (v := ?v902) rfl (by kernel_rfl) (by kernel_rfl) (by kernel_rfl) (fun _ _ _ h => h) (Or.inl ⟨by rfl, ?hy902⟩) (by assumption) ?rest902
  case hy902 => (intro w hSw; (try dsimp only at hSw); go_simp; (try with_reducible rfl))
  refine wpAnyH_ready (rs := [2]) (by kernel_rfl) (by simp) ?_
  refine AllReadyH.cons rfl (fun K hK => ?_) ?_
  · go_simp
    go_at_call 6
    (with_reducible refine (HT.out _ ⟨RG.out.1.keep UsR.kp (BX5.out.trans (DR.out.mono BX5.out.size)), RG.out.2.1.keep SeR.kp (BX5.out.trans (DR.out.mono BX5.out.size)), RG.out.2.2.1.keep FaR.kp (BX5.out.trans (DR.out.mono BX5.out.size)), RG.out.2.2.2.keep ReR.kp (BX5.out.trans (DR.out.mono BX5.out.size))⟩).mono ?_)
    rintro e wc ⟨bu6, bs6, bf6, br6, rfl, hr6, bc⟩
    have BC : Hid (Below wx5.heap.size wx5 wc) := DR.out.trans bc
    have R4c : Hid (Rw UsR 6 wc (some ⟨bu4, 0, none⟩) us ∧ Rw SeR 10 wc (some ⟨bs4, 0, none⟩) ss ∧ Rw FaR 3 wc (some ⟨bf4, 0, none⟩) fs ∧ Rw ReR 5 wc (some ⟨br4, 0, none⟩) rs) := ⟨R4.out.1.keep UsR.kp BC.out, R4.out.2.1.keep SeR.kp BC.out, R4.out.2.2.1.keep FaR.kp BC.out, R4.out.2.2.2.keep ReR.kp BC.out⟩
    have R6 : Hid (Rw UsR 6 wc (some ⟨bu6, 0, none⟩) us ∧ Rw SeR 10 wc (some ⟨bs6, 0, none⟩) ss ∧ Rw FaR 3 wc (some ⟨bf6, 0, none⟩) fs ∧ Rw ReR 5 wc (some ⟨br6, 0, none⟩) rs) := hr6
    clear hr6
    refine hK.out _ _ ?_ (fun hH903 => ?_)
    · (try dsimp only)
      first | with_reducible exact KP.out _ BD.out | with_reducible exact KP.out _ BC.out
    clear hK K hH0
    refine wpAnyH_ready (rs := [3]) (by kernel_rfl) (by simp) ?_
    refine AllReadyH.cons rfl (fun K hK => ?_) ?_
    · go_simp
      go_at_call 8
      (with_reducible refine (HE.out _ _ _ _ _ _ _ _ _ R4c.out R6.out).mono ?_)
      rintro e wd ⟨rfl, bd⟩
      have BD : Hid (Below wx5.heap.size wx5 wd) := BC.out.trans (bd.mono BC.out.size)
      clear bd
      refine hK.out _ _ ?_ (fun hH904 => ?_)
      · (try dsimp only)
        first | with_reducible exact KP.out _ BD.out | with_reducible exact KP.out _ BC.out
      clear hK K hH903
      refine wpAnyH_take (i := 4) (v := ?v905) rfl (by kernel_rfl) (by kernel_rfl) (by kernel_rfl) (fun _ _ _ h => h) (Or.inl ⟨by rfl, ?hy905⟩) (by assumption) ?rest905
      case hy905 => (intro w hSw; (try dsimp only at hSw); go_simp; (try with_reducible rfl))
      refine wpAnyH_done (by kernel_rfl) ?_ _
      go_simp
      go_wp2
      go_ret
      exact ⟨rfl, BX5.out.trans (BD.out.mono BX5.out.size)⟩
    exact AllReadyH.nil
  exact AllReadyH.nil
end Go.Proofs.YtappekglflgodabDoor
