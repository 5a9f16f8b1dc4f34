/- RuleText of the program; the walk of laws.FnExactRuleText. -/
import Derived.Test.YtcgdpijmfgkalacDoorRtS
import Derived.Lib.ItoaNum
namespace Go.Proofs.YtcgdpijmfgkalacDoor
open Go.RowKit Go.PlainAid Go.Proofs.YtcgdpijmfgkalacDoor.Bt Go.Sort
set_option linter.unusedVariables false
set_option maxRecDepth 20000
/-- Five words in a box of one's own. -/
structure Box5 (w W : World) (B : Nat) (v0 v1 v2 v3 v4 : Value) : Prop where
  below : Below w.heap.size w W
  lt : B < W.heap.size
  le : w.heap.size ≤ B
  c0 : W.cell? ⟨B, 0, none⟩ = some v0
  c1 : W.cell? ⟨B, 1, none⟩ = some v1
  c2 : W.cell? ⟨B, 2, none⟩ = some v2
  c3 : W.cell? ⟨B, 3, none⟩ = some v3
  c4 : W.cell? ⟨B, 4, none⟩ = some v4
  fz : ∀ i, W.frozen? ⟨B, i, none⟩ = false
theorem box5_new {w W : World} (h : Below w.heap.size w W) (v0 v1 v2 v3 v4 : Value) (t : TypeId) : Box5 w (W.alloc (.cells #[v0, v1, v2, v3, v4] t)) W.heap.size v0 v1 v2 v3 v4 :=
  ⟨h.alloc h.size _, by simp, h.size, by simp, by simp, by simp, by simp, by simp, fun i => by simp⟩
theorem box5_set {w W : World} {B : Nat} {u0 u1 u2 u3 u4 : Value} (h : Box5 w W B u0 u1 u2 u3 u4) (v0 v1 v2 v3 v4 : Value) :
    Box5 w (((((W.setCell ⟨B, 0, none⟩ v0).setCell ⟨B, 1, none⟩ v1).setCell ⟨B, 2, none⟩ v2).setCell ⟨B, 3, none⟩ v3).setCell ⟨B, 4, none⟩ v4) B v0 v1 v2 v3 v4 := by
  have c0 := h.c0
  have c1 := h.c1
  have c2 := h.c2
  have c3 := h.c3
  have c4 := h.c4
  refine ⟨((((h.below.setCell h.le _).setCell h.le _).setCell h.le _).setCell h.le _).setCell h.le _, by simpa using h.lt, h.le, ?_, ?_, ?_, ?_, ?_, ?_⟩
  · simp [go_sem, c0]
  · simp [go_sem, c1]
  · simp [go_sem, c2]
  · simp [go_sem, c3]
  · simp [go_sem, c4]
  · intro i
    rw [World.frozen?_setCell, World.frozen?_setCell, World.frozen?_setCell, World.frozen?_setCell, World.frozen?_setCell]
    exact h.fz i
theorem box5_keep {w W W' : World} {B : Nat} {u0 u1 u2 u3 u4 : Value} (h : Box5 w W B u0 u1 u2 u3 u4) (g : Grw W W') : Box5 w W' B u0 u1 u2 u3 u4 :=
  ⟨h.below.trans (g.below.mono h.below.size), Nat.lt_of_lt_of_le h.lt g.below.size, h.le, g.keep h.c0, g.keep h.c1, g.keep h.c2, g.keep h.c3, g.keep h.c4, fun i => by rw [g.below.frozen (p := ⟨B, i, none⟩) h.lt]; exact h.fz i⟩
theorem Tens.tab {w : World} (h : Tens w.heap.size w) {W : World} (hb : Below w.heap.size w W) : Lib.TabIs Tryd.prog W "internal/strconv.uint64pow10" .u64 Lib.pow10Tab := h W hb
theorem itoa_str (n : Int) (h : 0 ≤ n) : (⟨(Lib.itoa n).toArray⟩ : ByteArray) = dgS n := by
  obtain ⟨k, rfl⟩ := Int.eq_ofNat_of_zero_le h
  unfold dgS
  rw [← dec_str, Int.toNat_natCast]
  rfl
theorem app_data (x y : ByteArray) : (x ++ y).data.toList = x.data.toList ++ y.data.toList := by simp
theorem join5 (B : Nat) (a0 a1 a2 a3 a4 : ByteArray) (w : World) (c0 : w.cell? ⟨B, 0, none⟩ = some (.string a0)) (c1 : w.cell? ⟨B, 1, none⟩ = some (.string a1)) (c2 : w.cell? ⟨B, 2, none⟩ = some (.string a2)) (c3 : w.cell? ⟨B, 3, none⟩ = some (.string a3)) (c4 : w.cell? ⟨B, 4, none⟩ = some (.string a4)) (hB : B < w.heap.size) (hz : a0.size + a1.size + a2.size + a3.size + a4.size ≤ 1000) :
    Calls Tryd.prog 29 #[.slice (some ⟨B, 0, none⟩) 5 5, .string ⟨#[32]⟩] w fun e w' => e = .returned (.string (a0 ++ spc ++ a1 ++ spc ++ a2 ++ spc ++ a3 ++ spc ++ a4)) ∧ Below w.heap.size w w' := by
  have hj : Lib.join ([a0, a1, a2, a3, a4].map (·.data.toList)) (⟨#[32]⟩ : ByteArray).data.toList = (a0 ++ spc ++ a1 ++ spc ++ a2 ++ spc ++ a3 ++ spc ++ a4).data.toList := by
    simp only [app_data, List.map_cons, List.map_nil]
    rw [Lib.join_cons]
    simp [Lib.joinTail, spc]
  have := Tryd.strings_Join B 0 5 [a0, a1, a2, a3, a4] ⟨#[32]⟩ w (fun j x hx => by
    match j, hx with
    | 0, hx => cases hx; exact c0
    | 1, hx => cases hx; exact c1
    | 2, hx => cases hx; exact c2
    | 3, hx => cases hx; exact c3
    | 4, hx => cases hx; exact c4
    | n + 5, hx => simp at hx) hB (by simp) (by simp) (by
      rw [hj]
      have e : (a0 ++ spc ++ a1 ++ spc ++ a2 ++ spc ++ a3 ++ spc ++ a4).data.toList.length = a0.size + a1.size + a2.size + a3.size + a4.size + 4 := by
        simp only [app_data, List.length_append]
        simp [spc]
        have s0 : a0.data.size = a0.size := rfl
        have s1 : a1.data.size = a1.size := rfl
        have s2 : a2.data.size = a2.size := rfl
        have s3 : a3.data.size = a3.size := rfl
        have s4 : a4.data.size = a4.size := rfl
        omega
      omega)
  rw [hj] at this
  exact this
theorem rt_words (p ip b lo hi : Int) (al : Bool) : (if al then (⟨#[97, 108, 108, 111, 119]⟩ : ByteArray) else ⟨#[100, 101, 110, 121]⟩) ++ spc ++ pwS p ++ spc ++ ntT ip b ++ spc ++ dgS lo ++ spc ++ dgS hi = rtT ⟨p, ip, b, lo, hi, al⟩ := by
  have e : alS al = (if al then (⟨#[97, 108, 108, 111, 119]⟩ : ByteArray) else ⟨#[100, 101, 110, 121]⟩) ++ spc := by cases al <;> rfl
  show _ = alS al ++ pwS p ++ spc ++ strOfNums (adl ip 4) ++ slash ++ dgS b ++ spc ++ dgS lo ++ spc ++ dgS hi
  rw [e]
  unfold ntT dgS
  simp only [ByteArray.append_assoc]
set_option maxHeartbeats 8000000 in
theorem implRuleText_yes (p ip b lo hi : Int) (al : Bool) (w : World) (h : ruB ⟨p, ip, b, lo, hi, al⟩ = true) (ht : Tens w.heap.size w) :
    Calls Tryd.prog 10 #[.agg #[.int .i64 p, .int .i64 ip, .int .i64 b, .int .i64 lo, .int .i64 hi, .bool al]] w fun e w' => e = .returned (.tuple #[.string (rtT ⟨p, ip, b, lo, hi, al⟩), .int .i64 0]) ∧ Below w.heap.size w w' := by
  have hr : (p = 0 ∨ p = 1 ∨ p = 6 ∨ p = 17) ∧ nB ip b = true ∧ 0 ≤ lo ∧ lo ≤ 65535 ∧ 0 ≤ hi ∧ hi ≤ 65535 := ru_all h
  have HO : Hid (∀ w, Calls Tryd.prog 16 #[.agg #[.int .i64 p, .int .i64 ip, .int .i64 b, .int .i64 lo, .int .i64 hi, .bool al]] w fun e w' => e = .returned (.bool true) ∧ Below w.heap.size w w') := fun w => (h ▸ implRuleOK_any p ip b lo hi al w (by omega) (by omega)).mono fun e w' h => ⟨h.1, h.2.below⟩
  have HN : Hid (∀ w, Tens w.heap.size w → Calls Tryd.prog 26 #[.agg #[.int .i64 ip, .int .i64 b]] w fun e w' => e = .returned (.tuple #[.string (ntT ip b), .int .i64 0]) ∧ Below w.heap.size w w') := fun w h => implNetText_yes ip b w hr.2.1 h
  have HP : Hid (∀ w, Calls Tryd.prog 27 #[.int .i64 p] w fun e w' => e = .returned (.string (pwS p)) ∧ w' = w) := fun w => protoWord_any p w
  have HL : Hid (∀ w, Lib.TabIs Tryd.prog w "internal/strconv.uint64pow10" .u64 Lib.pow10Tab → Calls Tryd.prog 28 #[.int .i64 lo] w fun e w' => e = .returned (.string (dgS lo)) ∧ Grw w w') := fun w h => by
    have := Tryd.strconv_Itoa lo (by omega) (by omega) w h
    rw [itoa_str lo (by omega)] at this
    exact this
  have HH : Hid (∀ w, Lib.TabIs Tryd.prog w "internal/strconv.uint64pow10" .u64 Lib.pow10Tab → Calls Tryd.prog 28 #[.int .i64 hi] w fun e w' => e = .returned (.string (dgS hi)) ∧ Grw w w') := fun w h => by
    have := Tryd.strconv_Itoa hi (by omega) (by omega) w h
    rw [itoa_str hi (by omega)] at this
    exact this
  have HT : Hid (Tens w.heap.size w) := ht
  have ZE : Hid ((if al then (⟨#[97, 108, 108, 111, 119]⟩ : ByteArray) else ⟨#[100, 101, 110, 121]⟩) ++ spc ++ pwS p ++ spc ++ ntT ip b ++ spc ++ dgS lo ++ spc ++ dgS hi = rtT ⟨p, ip, b, lo, hi, al⟩) := rt_words p ip b lo hi al
  have zn : (ntT ip b).size ≤ 30 := by
    have h1 := adl_len ip 4
    have h2 := (dgs_len 2 b.toNat (by have := nB_yes hr.2.1; omega)).2
    have e : (ntT ip b).size = (strOfNums (adl ip 4)).size + 1 + (strOfNums (dgs b.toNat)).size := by
      unfold ntT
      rw [ByteArray.size_append, ByteArray.size_append]
      rfl
    rw [e, strs_size, strs_size]
    omega
  have zl : (dgS lo).size ≤ 5 := dgS_size lo (by omega)
  have zh : (dgS hi).size ≤ 5 := dgS_size hi (by omega)
  have zp := pw_size p
  clear h ht
  generalize rtT ⟨p, ip, b, lo, hi, al⟩ = Z at ZE ⊢
  generalize ntT ip b = NT at HN ZE zn
  go_enter Tryd.func10, Tryd.ntmps10
  go_wp2_with fail
  refine (HO.out _).mono ?_
  rintro e wx1 ⟨rfl, bx⟩
  have c1_0_0 : wx1.cell? ⟨w.heap.size, 0, none⟩ = some (.int .i64 p) := bkeep bx (by simp [go_sem])
  have c1_0_1 : wx1.cell? ⟨w.heap.size, 1, none⟩ = some (.int .i64 ip) := bkeep bx (by simp [go_sem])
  have c1_0_2 : wx1.cell? ⟨w.heap.size, 2, none⟩ = some (.int .i64 b) := bkeep bx (by simp [go_sem])
  have c1_0_3 : wx1.cell? ⟨w.heap.size, 3, none⟩ = some (.int .i64 lo) := bkeep bx (by simp [go_sem])
  have c1_0_4 : wx1.cell? ⟨w.heap.size, 4, none⟩ = some (.int .i64 hi) := bkeep bx (by simp [go_sem])
  have c1_0_5 : wx1.cell? ⟨w.heap.size, 5, none⟩ = some (.bool al) := bkeep bx (by simp [go_sem])
  have BX1 : Hid (Below w.heap.size w wx1) := ((Below.refl w.heap.size w).alloc (by simp <;> omega) _).trans (bx.mono (by simp <;> omega))
  clear bx
  go_wp2_with fail
  refine (HN.out _ (HT.out.now BX1.out)).mono ?_
  rintro e wx2 ⟨rfl, bx⟩
  have c2_0_0 : wx2.cell? ⟨w.heap.size, 0, none⟩ = some (.int .i64 p) := bkeep bx (by first | (simp [go_sem]; done) | simp [go_sem, c1_0_0])
  have c2_0_1 : wx2.cell? ⟨w.heap.size, 1, none⟩ = some (.int .i64 ip) := bkeep bx (by first | (simp [go_sem]; done) | simp [go_sem, c1_0_1])
  have c2_0_2 : wx2.cell? ⟨w.heap.size, 2, none⟩ = some (.int .i64 b) := bkeep bx (by first | (simp [go_sem]; done) | simp [go_sem, c1_0_2])
  have c2_0_3 : wx2.cell? ⟨w.heap.size, 3, none⟩ = some (.int .i64 lo) := bkeep bx (by first | (simp [go_sem]; done) | simp [go_sem, c1_0_3])
  have c2_0_4 : wx2.cell? ⟨w.heap.size, 4, none⟩ = some (.int .i64 hi) := bkeep bx (by first | (simp [go_sem]; done) | simp [go_sem, c1_0_4])
  have c2_0_5 : wx2.cell? ⟨w.heap.size, 5, none⟩ = some (.bool al) := bkeep bx (by first | (simp [go_sem]; done) | simp [go_sem, c1_0_5])
  have BX2 : Hid (Below w.heap.size w wx2) := BX1.out.trans (bx.mono (by have := BX1.out.size; simp <;> omega))
  clear bx c1_0_0 c1_0_1 c1_0_2 c1_0_3 c1_0_4 c1_0_5 BX1
  have KP : Hid (∀ wx, Below wx2.heap.size wx2 wx → wx.cell? ⟨w.heap.size, 0, none⟩ = some (.int .i64 p) ∧ wx.cell? ⟨w.heap.size, 3, none⟩ = some (.int .i64 lo) ∧ wx.cell? ⟨w.heap.size, 4, none⟩ = some (.int .i64 hi)) := fun wx hb => ⟨bkeep hb c2_0_0, bkeep hb c2_0_3, bkeep hb c2_0_4⟩
  have TB : Hid (∀ wx, Below wx2.heap.size wx2 wx → Lib.TabIs Tryd.prog wx "internal/strconv.uint64pow10" .u64 Lib.pow10Tab) := fun wx hb => HT.out.tab (BX2.out.trans (hb.mono BX2.out.size))
  have DR : Hid (Below wx2.heap.size wx2 wx2.drew) := (Below.refl _ _).drew
  have DA : Hid (Box5 wx2 (wx2.alloc (.cells #[.string ⟨#[]⟩, .string ⟨#[]⟩, .string ⟨#[]⟩, .string ⟨#[]⟩, .string ⟨#[]⟩] 60)).drew wx2.heap.size (.string ⟨#[]⟩) (.string ⟨#[]⟩) (.string ⟨#[]⟩) (.string ⟨#[]⟩) (.string ⟨#[]⟩)) := box5_keep (box5_new (Below.refl _ _) _ _ _ _ _ _) (Grw.refl _).drew
  go_wp2_with fail
  refine wp_region_held_drew (S := (fun wx => wx.cell? ⟨w.heap.size, 0, none⟩ = some (.int .i64 p) ∧ wx.cell? ⟨w.heap.size, 3, none⟩ = some (.int .i64 lo) ∧ wx.cell? ⟨w.heap.size, 4, none⟩ = some (.int .i64 hi))) (by kernel_rfl) ?_ (fun hH0 => ?_)
  · exact KP.out _ DR.out
  refine wpAnyH_take (i := 0) (v := ?v3001) rfl (by kernel_rfl) (by kernel_rfl) (by kernel_rfl) (fun _ _ _ h => h) (Or.inl ⟨by rfl, ?hy3001⟩) (by assumption) ?rest3001
  case hy3001 => (intro w hSw; (try dsimp only at hSw); go_simp; (try with_reducible rfl))
  refine wpAnyH_take (i := 1) (v := ?v3002) rfl (by kernel_rfl) (by kernel_rfl) (by kernel_rfl) (fun _ _ _ h => h) (Or.inl ⟨by rfl, ?hy3002⟩) (by assumption) ?rest3002
  case hy3002 => (intro w hSw; (try dsimp only at hSw); go_simp; (try with_reducible rfl))
  refine wpAnyH_take (i := 3) (v := ?v3003) rfl (by kernel_rfl) (by kernel_rfl) (by kernel_rfl) (fun _ _ _ h => h) (Or.inl ⟨by rfl, ?hy3003⟩) (by assumption) ?rest3003
  case hy3003 => (intro w hSw; (try dsimp only at hSw); go_simp; (try with_reducible rfl))
  refine wpAnyH_take (i := 4) (v := ?v3004) rfl (by kernel_rfl) (by kernel_rfl) (by kernel_rfl) (fun _ _ _ h => h) (Or.inl ⟨by rfl, ?hy3004⟩) (by assumption) ?rest3004
  case hy3004 => (intro w hSw; (try dsimp only at hSw); go_simp; (try with_reducible rfl))
  refine wpAnyH_take (i := 5) (v := ?v3005) rfl (by kernel_rfl) (by kernel_rfl) (by kernel_rfl) (fun _ _ _ h => h) (Or.inl ⟨by rfl, ?hy3005⟩) (by assumption) ?rest3005
  case hy3005 => (intro w hSw; (try dsimp only at hSw); go_simp; (try with_reducible rfl))
  refine wpAnyH_take (i := 6) (v := ?v3006) rfl (by kernel_rfl) (by kernel_rfl) (by kernel_rfl) (fun _ _ _ h => h) (Or.inl ⟨by rfl, ?hy3006⟩) (by assumption) ?rest3006
  case hy3006 => (intro w hSw; (try dsimp only at hSw); go_simp; (try with_reducible rfl))
  refine wpAnyH_take (i := 8) (v := ?v3007) rfl (by kernel_rfl) (by kernel_rfl) (by kernel_rfl) (fun _ _ _ h => h) (Or.inl ⟨by rfl, ?hy3007⟩) (by assumption) ?rest3007
  case hy3007 => (intro w hSw; (try dsimp only at hSw); go_simp; (try with_reducible rfl))
  refine wpAnyH_take (i := 9) (v := ?v3008) rfl (by kernel_rfl) (by kernel_rfl) (by kernel_rfl) (fun _ _ _ h => h) (Or.inl ⟨by rfl, ?hy3008⟩) (by assumption) ?rest3008
  case hy3008 => (intro w hSw; (try dsimp only at hSw); go_simp; (try with_reducible rfl))
  refine wpAnyH_take (i := 10) (v := ?v3009) rfl (by kernel_rfl) (by kernel_rfl) (by kernel_rfl) (fun _ _ _ h => h) (Or.inl ⟨by rfl, ?hy3009⟩) (by assumption) ?rest3009
  case hy3009 => (intro w hSw; (try dsimp only at hSw); go_simp; (try with_reducible rfl))
  refine wpAnyH_ready (rs := [2, 13]) (by kernel_rfl) (by simp) ?_
  refine AllReadyH.cons rfl (fun K hK => ?_) ?_
  · go_simp
    go_at_call 27
    (with_reducible refine (HP.out _).mono ?_)
    rintro e wp ⟨rfl, rfl⟩
    refine hK.out _ _ ?_ (fun hH3010 => ?_)
    · (try dsimp only)
      first | with_reducible exact KP.out _ DR.out | with_reducible exact KP.out _ DA.out.below | with_reducible exact KP.out _ BC.out | with_reducible exact KP.out _ CA.out.below | with_reducible exact KP.out _ BD.out | with_reducible exact KP.out _ (BD.out.alloc BD.out.size _) | with_reducible exact KP.out _ (box5_set C6.out _ _ _ _ _).below
    clear hK K hH0
    refine wpAnyH_ready (rs := [7, 13]) (by kernel_rfl) (by simp) ?_
    refine AllReadyH.cons rfl (fun K hK => ?_) ?_
    · go_simp
      go_at_call 28
      (first | (with_reducible refine (HL.out _ (TB.out _ DR.out)).mono ?_) | (with_reducible refine (HL.out _ (TB.out _ DA.out.below)).mono ?_))
      rintro e wc ⟨rfl, g1⟩
      have BC : Hid (Below wx2.heap.size wx2 wc) := by first | exact DR.out.trans g1.below | exact (box5_keep DA.out g1).below
      have CA : Hid (Box5 wx2 (wc.alloc (.cells #[.string ⟨#[]⟩, .string ⟨#[]⟩, .string ⟨#[]⟩, .string ⟨#[]⟩, .string ⟨#[]⟩] 60)) wc.heap.size (.string ⟨#[]⟩) (.string ⟨#[]⟩) (.string ⟨#[]⟩) (.string ⟨#[]⟩) (.string ⟨#[]⟩)) := box5_new BC.out _ _ _ _ _ _
      first | (have C5 : Hid (Box5 wx2 wc wx2.heap.size (.string ⟨#[]⟩) (.string ⟨#[]⟩) (.string ⟨#[]⟩) (.string ⟨#[]⟩) (.string ⟨#[]⟩)) := box5_keep DA.out g1) | skip
      clear g1
      refine hK.out _ _ ?_ (fun hH3011 => ?_)
      · (try dsimp only)
        first | with_reducible exact KP.out _ DR.out | with_reducible exact KP.out _ DA.out.below | with_reducible exact KP.out _ BC.out | with_reducible exact KP.out _ CA.out.below | with_reducible exact KP.out _ BD.out | with_reducible exact KP.out _ (BD.out.alloc BD.out.size _) | with_reducible exact KP.out _ (box5_set C6.out _ _ _ _ _).below
      clear hK K hH3010
      refine wpAnyH_ready (rs := [11, 13]) (by kernel_rfl) (by simp) ?_
      refine AllReadyH.cons rfl (fun K hK => ?_) ?_
      · go_simp
        go_at_call 28
        (first | (with_reducible refine (HH.out _ (TB.out _ BC.out)).mono ?_) | (with_reducible refine (HH.out _ (TB.out _ CA.out.below)).mono ?_))
        rintro e wd ⟨rfl, g2⟩
        have BD : Hid (Below wx2.heap.size wx2 wd) := by first | exact BC.out.trans (g2.below.mono BC.out.size) | exact (box5_keep CA.out g2).below
        first | (have C6 : Hid (Box5 wx2 wd wx2.heap.size (.string ⟨#[]⟩) (.string ⟨#[]⟩) (.string ⟨#[]⟩) (.string ⟨#[]⟩) (.string ⟨#[]⟩)) := box5_keep C5.out g2) | (have C6 : Hid (Box5 wx2 wd wc.heap.size (.string ⟨#[]⟩) (.string ⟨#[]⟩) (.string ⟨#[]⟩) (.string ⟨#[]⟩) (.string ⟨#[]⟩)) := box5_keep CA.out g2) | skip
        (try (have y0 := C6.out.c0; have y1 := C6.out.c1; have y2 := C6.out.c2; have y3 := C6.out.c3; have y4 := C6.out.c4; have yf := C6.out.fz))
        clear g2
        refine hK.out _ _ ?_ (fun hH3012 => ?_)
        · (try dsimp only)
          first | with_reducible exact KP.out _ DR.out | with_reducible exact KP.out _ DA.out.below | with_reducible exact KP.out _ BC.out | with_reducible exact KP.out _ CA.out.below | with_reducible exact KP.out _ BD.out | with_reducible exact KP.out _ (BD.out.alloc BD.out.size _) | with_reducible exact KP.out _ (box5_set C6.out _ _ _ _ _).below
        clear hK K hH3011
        refine wpAnyH_take (i := 12) (v := ?v3013) rfl (by kernel_rfl) (by kernel_rfl) (by kernel_rfl) (fun _ _ _ h => h) (Or.inl ⟨by rfl, ?hy3013⟩) (by assumption) ?rest3013
        case hy3013 => (intro w hSw; (try dsimp only at hSw); go_simp; (try with_reducible rfl))
        refine wpAnyH_ready (rs := [13]) (by kernel_rfl) (by simp) ?_
        refine AllReadyH.cons rfl (fun K hK => ?_) ?_
        · go_simp
          refine hK.out _ _ ?_ (fun hH3014 => ?_)
          · (try dsimp only)
            first | with_reducible exact KP.out _ DR.out | with_reducible exact KP.out _ DA.out.below | with_reducible exact KP.out _ BC.out | with_reducible exact KP.out _ CA.out.below | with_reducible exact KP.out _ BD.out | with_reducible exact KP.out _ (BD.out.alloc BD.out.size _) | with_reducible exact KP.out _ (box5_set C6.out _ _ _ _ _).below
          clear hK K hH3012
          refine wpAnyH_ready (rs := [14]) (by kernel_rfl) (by simp) ?_
          refine AllReadyH.cons rfl (fun K hK => ?_) ?_
          · go_simp
            refine hK.out _ _ ?_ (fun hH3015 => ?_)
            · (try dsimp only)
              first | with_reducible exact KP.out _ DR.out | with_reducible exact KP.out _ DA.out.below | with_reducible exact KP.out _ BC.out | with_reducible exact KP.out _ CA.out.below | with_reducible exact KP.out _ BD.out | with_reducible exact KP.out _ (BD.out.alloc BD.out.size _) | with_reducible exact KP.out _ (box5_set C6.out _ _ _ _ _).below
            clear hK K hH3014
            refine wpAnyH_done (by kernel_rfl) ?_ _
            (try go_simp)
            first
              | (have N5 : Hid (Box5 wx2 (((((wd.setCell ⟨wx2.heap.size, 0, none⟩ (.string ⟨#[100, 101, 110, 121]⟩)).setCell ⟨wx2.heap.size, 1, none⟩ (.string (pwS p))).setCell ⟨wx2.heap.size, 2, none⟩ (.string NT)).setCell ⟨wx2.heap.size, 3, none⟩ (.string (dgS lo))).setCell ⟨wx2.heap.size, 4, none⟩ (.string (dgS hi))) (wx2.heap.size) (.string ⟨#[100, 101, 110, 121]⟩) (.string (pwS p)) (.string NT) (.string (dgS lo)) (.string (dgS hi))) := box5_set C6.out _ _ _ _ _
                 obtain ⟨WF, hWF⟩ : ∃ W, W = ((((wd.setCell ⟨wx2.heap.size, 0, none⟩ (.string ⟨#[100, 101, 110, 121]⟩)).setCell ⟨wx2.heap.size, 1, none⟩ (.string (pwS p))).setCell ⟨wx2.heap.size, 2, none⟩ (.string NT)).setCell ⟨wx2.heap.size, 3, none⟩ (.string (dgS lo))).setCell ⟨wx2.heap.size, 4, none⟩ (.string (dgS hi)) := ⟨_, rfl⟩
                 obtain ⟨BF, hBF⟩ : ∃ B, B = wx2.heap.size := ⟨_, rfl⟩
                 rw [← hWF] at N5 ⊢
                 rw [← hBF] at N5 ⊢
                 clear hWF hBF)
              | (have N5 : Hid (Box5 wx2 (((((wd.setCell ⟨wc.heap.size, 0, none⟩ (.string ⟨#[100, 101, 110, 121]⟩)).setCell ⟨wc.heap.size, 1, none⟩ (.string (pwS p))).setCell ⟨wc.heap.size, 2, none⟩ (.string NT)).setCell ⟨wc.heap.size, 3, none⟩ (.string (dgS lo))).setCell ⟨wc.heap.size, 4, none⟩ (.string (dgS hi))) (wc.heap.size) (.string ⟨#[100, 101, 110, 121]⟩) (.string (pwS p)) (.string NT) (.string (dgS lo)) (.string (dgS hi))) := box5_set C6.out _ _ _ _ _
                 obtain ⟨WF, hWF⟩ : ∃ W, W = ((((wd.setCell ⟨wc.heap.size, 0, none⟩ (.string ⟨#[100, 101, 110, 121]⟩)).setCell ⟨wc.heap.size, 1, none⟩ (.string (pwS p))).setCell ⟨wc.heap.size, 2, none⟩ (.string NT)).setCell ⟨wc.heap.size, 3, none⟩ (.string (dgS lo))).setCell ⟨wc.heap.size, 4, none⟩ (.string (dgS hi)) := ⟨_, rfl⟩
                 obtain ⟨BF, hBF⟩ : ∃ B, B = wc.heap.size := ⟨_, rfl⟩
                 rw [← hWF] at N5 ⊢
                 rw [← hBF] at N5 ⊢
                 clear hWF hBF)
              | (have N5 : Hid (Box5 wx2 (wd.alloc (.cells #[.string ⟨#[100, 101, 110, 121]⟩, .string (pwS p), .string NT, .string (dgS lo), .string (dgS hi)] 60)) (wd.heap.size) (.string ⟨#[100, 101, 110, 121]⟩) (.string (pwS p)) (.string NT) (.string (dgS lo)) (.string (dgS hi))) := box5_new BD.out _ _ _ _ _ _
                 obtain ⟨WF, hWF⟩ : ∃ W, W = wd.alloc (.cells #[.string ⟨#[100, 101, 110, 121]⟩, .string (pwS p), .string NT, .string (dgS lo), .string (dgS hi)] 60) := ⟨_, rfl⟩
                 obtain ⟨BF, hBF⟩ : ∃ B, B = wd.heap.size := ⟨_, rfl⟩
                 rw [← hWF] at N5 ⊢
                 rw [← hBF] at N5 ⊢
                 clear hWF hBF)
            have d5 : WF.cell? ⟨w.heap.size, 5, none⟩ = some (.bool al) := bkeep N5.out.below c2_0_5
            have n0 := N5.out.c0
            have nf := N5.out.fz 0
            have BW : Hid (Below w.heap.size w WF) := BX2.out.trans (N5.out.below.mono BX2.out.size)
            have hBw : w.heap.size ≤ BF := Nat.le_trans BX2.out.size N5.out.le
            clear KP TB DR DA hH3015
            cases al with
            | false =>
              have HJ : Hid (Calls Tryd.prog 29 #[.slice (some ⟨BF, 0, none⟩) 5 5, .string ⟨#[32]⟩] WF fun e w' => e = .returned (.string Z) ∧ Below WF.heap.size WF w') := by
                have := join5 BF _ _ _ _ _ WF N5.out.c0 N5.out.c1 N5.out.c2 N5.out.c3 N5.out.c4 N5.out.lt (by have e : (⟨#[100, 101, 110, 121]⟩ : ByteArray).size = 4 := rfl; omega)
                have ze : (⟨#[100, 101, 110, 121]⟩ : ByteArray) ++ spc ++ pwS p ++ spc ++ NT ++ spc ++ dgS lo ++ spc ++ dgS hi = Z := ZE.out
                rw [ze] at this
                exact this
              go_wp2_with fail
              refine HJ.out.mono ?_
              rintro e wj ⟨rfl, bj⟩
              have BJ : Hid (Below w.heap.size w wj) := BW.out.trans (bj.mono BW.out.size)
              clear bj
              go_wp2
              go_ret2
              exact ⟨rfl, BJ.out⟩
            | true =>
              have BW2 : Hid (Below w.heap.size w (WF.setCell ⟨BF, 0, none⟩ (.string ⟨#[97, 108, 108, 111, 119]⟩))) := BW.out.setCell hBw _
              have HJ : Hid (Calls Tryd.prog 29 #[.slice (some ⟨BF, 0, none⟩) 5 5, .string ⟨#[32]⟩] (WF.setCell ⟨BF, 0, none⟩ (.string ⟨#[97, 108, 108, 111, 119]⟩)) fun e w' => e = .returned (.string Z) ∧ Below (WF.setCell ⟨BF, 0, none⟩ (.string ⟨#[97, 108, 108, 111, 119]⟩)).heap.size (WF.setCell ⟨BF, 0, none⟩ (.string ⟨#[97, 108, 108, 111, 119]⟩)) w') := by
                have m0 := N5.out.c0
                have m1 := N5.out.c1
                have m2 := N5.out.c2
                have m3 := N5.out.c3
                have m4 := N5.out.c4
                have := join5 BF ⟨#[97, 108, 108, 111, 119]⟩ (pwS p) NT (dgS lo) (dgS hi) (WF.setCell ⟨BF, 0, none⟩ (.string ⟨#[97, 108, 108, 111, 119]⟩)) (by simp [go_sem, m0]) (by simp [go_sem, m1]) (by simp [go_sem, m2]) (by simp [go_sem, m3]) (by simp [go_sem, m4]) (by simpa using N5.out.lt) (by have e : (⟨#[97, 108, 108, 111, 119]⟩ : ByteArray).size = 5 := rfl; omega)
                have ze : (⟨#[97, 108, 108, 111, 119]⟩ : ByteArray) ++ spc ++ pwS p ++ spc ++ NT ++ spc ++ dgS lo ++ spc ++ dgS hi = Z := ZE.out
                rw [ze] at this
                exact this
              go_wp2_with fail
              refine HJ.out.mono ?_
              rintro e wj ⟨rfl, bj⟩
              have BJ : Hid (Below w.heap.size w wj) := BW2.out.trans (bj.mono BW2.out.size)
              clear bj
              go_wp2
              go_ret2
              exact ⟨rfl, BJ.out⟩
          exact AllReadyH.nil
        exact AllReadyH.nil
      refine AllReadyH.cons rfl (fun K hK => ?_) ?_
      · go_simp
        refine hK.out _ _ ?_ (fun hH3016 => ?_)
        · (try dsimp only)
          first | with_reducible exact KP.out _ DR.out | with_reducible exact KP.out _ DA.out.below | with_reducible exact KP.out _ BC.out | with_reducible exact KP.out _ CA.out.below | with_reducible exact KP.out _ BD.out | with_reducible exact KP.out _ (BD.out.alloc BD.out.size _) | with_reducible exact KP.out _ (box5_set C6.out _ _ _ _ _).below
        clear hK K hH3011
        refine wpAnyH_ready (rs := [11]) (by kernel_rfl) (by simp) ?_
        refine AllReadyH.cons rfl (fun K hK => ?_) ?_
        · go_simp
          go_at_call 28
          (first | (with_reducible refine (HH.out _ (TB.out _ BC.out)).mono ?_) | (with_reducible refine (HH.out _ (TB.out _ CA.out.below)).mono ?_))
          rintro e wd ⟨rfl, g2⟩
          have BD : Hid (Below wx2.heap.size wx2 wd) := by first | exact BC.out.trans (g2.below.mono BC.out.size) | exact (box5_keep CA.out g2).below
          first | (have C6 : Hid (Box5 wx2 wd wx2.heap.size (.string ⟨#[]⟩) (.string ⟨#[]⟩) (.string ⟨#[]⟩) (.string ⟨#[]⟩) (.string ⟨#[]⟩)) := box5_keep C5.out g2) | (have C6 : Hid (Box5 wx2 wd wc.heap.size (.string ⟨#[]⟩) (.string ⟨#[]⟩) (.string ⟨#[]⟩) (.string ⟨#[]⟩) (.string ⟨#[]⟩)) := box5_keep CA.out g2) | skip
          (try (have y0 := C6.out.c0; have y1 := C6.out.c1; have y2 := C6.out.c2; have y3 := C6.out.c3; have y4 := C6.out.c4; have yf := C6.out.fz))
          clear g2
          refine hK.out _ _ ?_ (fun hH3017 => ?_)
          · (try dsimp only)
            first | with_reducible exact KP.out _ DR.out | with_reducible exact KP.out _ DA.out.below | with_reducible exact KP.out _ BC.out | with_reducible exact KP.out _ CA.out.below | with_reducible exact KP.out _ BD.out | with_reducible exact KP.out _ (BD.out.alloc BD.out.size _) | with_reducible exact KP.out _ (box5_set C6.out _ _ _ _ _).below
          clear hK K hH3016
          refine wpAnyH_take (i := 12) (v := ?v3018) rfl (by kernel_rfl) (by kernel_rfl) (by kernel_rfl) (fun _ _ _ h => h) (Or.inl ⟨by rfl, ?hy3018⟩) (by assumption) ?rest3018
          case hy3018 => (intro w hSw; (try dsimp only at hSw); go_simp; (try with_reducible rfl))
          refine wpAnyH_ready (rs := [14]) (by kernel_rfl) (by simp) ?_
          refine AllReadyH.cons rfl (fun K hK => ?_) ?_
          · go_simp
            refine hK.out _ _ ?_ (fun hH3019 => ?_)
            · (try dsimp only)
              first | with_reducible exact KP.out _ DR.out | with_reducible exact KP.out _ DA.out.below | with_reducible exact KP.out _ BC.out | with_reducible exact KP.out _ CA.out.below | with_reducible exact KP.out _ BD.out | with_reducible exact KP.out _ (BD.out.alloc BD.out.size _) | with_reducible exact KP.out _ (box5_set C6.out _ _ _ _ _).below
            clear hK K hH3017
            refine wpAnyH_done (by kernel_rfl) ?_ _
            (try go_simp)
            first
              | (have N5 : Hid (Box5 wx2 (((((wd.setCell ⟨wx2.heap.size, 0, none⟩ (.string ⟨#[100, 101, 110, 121]⟩)).setCell ⟨wx2.heap.size, 1, none⟩ (.string (pwS p))).setCell ⟨wx2.heap.size, 2, none⟩ (.string NT)).setCell ⟨wx2.heap.size, 3, none⟩ (.string (dgS lo))).setCell ⟨wx2.heap.size, 4, none⟩ (.string (dgS hi))) (wx2.heap.size) (.string ⟨#[100, 101, 110, 121]⟩) (.string (pwS p)) (.string NT) (.string (dgS lo)) (.string (dgS hi))) := box5_set C6.out _ _ _ _ _
                 obtain ⟨WF, hWF⟩ : ∃ W, W = ((((wd.setCell ⟨wx2.heap.size, 0, none⟩ (.string ⟨#[100, 101, 110, 121]⟩)).setCell ⟨wx2.heap.size, 1, none⟩ (.string (pwS p))).setCell ⟨wx2.heap.size, 2, none⟩ (.string NT)).setCell ⟨wx2.heap.size, 3, none⟩ (.string (dgS lo))).setCell ⟨wx2.heap.size, 4, none⟩ (.string (dgS hi)) := ⟨_, rfl⟩
                 obtain ⟨BF, hBF⟩ : ∃ B, B = wx2.heap.size := ⟨_, rfl⟩
                 rw [← hWF] at N5 ⊢
                 rw [← hBF] at N5 ⊢
                 clear hWF hBF)
              | (have N5 : Hid (Box5 wx2 (((((wd.setCell ⟨wc.heap.size, 0, none⟩ (.string ⟨#[100, 101, 110, 121]⟩)).setCell ⟨wc.heap.size, 1, none⟩ (.string (pwS p))).setCell ⟨wc.heap.size, 2, none⟩ (.string NT)).setCell ⟨wc.heap.size, 3, none⟩ (.string (dgS lo))).setCell ⟨wc.heap.size, 4, none⟩ (.string (dgS hi))) (wc.heap.size) (.string ⟨#[100, 101, 110, 121]⟩) (.string (pwS p)) (.string NT) (.string (dgS lo)) (.string (dgS hi))) := box5_set C6.out _ _ _ _ _
                 obtain ⟨WF, hWF⟩ : ∃ W, W = ((((wd.setCell ⟨wc.heap.size, 0, none⟩ (.string ⟨#[100, 101, 110, 121]⟩)).setCell ⟨wc.heap.size, 1, none⟩ (.string (pwS p))).setCell ⟨wc.heap.size, 2, none⟩ (.string NT)).setCell ⟨wc.heap.size, 3, none⟩ (.string (dgS lo))).setCell ⟨wc.heap.size, 4, none⟩ (.string (dgS hi)) := ⟨_, rfl⟩
                 obtain ⟨BF, hBF⟩ : ∃ B, B = wc.heap.size := ⟨_, rfl⟩
                 rw [← hWF] at N5 ⊢
                 rw [← hBF] at N5 ⊢
                 clear hWF hBF)
              | (have N5 : Hid (Box5 wx2 (wd.alloc (.cells #[.string ⟨#[100, 101, 110, 121]⟩, .string (pwS p), .string NT, .string (dgS lo), .string (dgS hi)] 60)) (wd.heap.size) (.string ⟨#[100, 101, 110, 121]⟩) (.string (pwS p)) (.string NT) (.string (dgS lo)) (.string (dgS hi))) := box5_new BD.out _ _ _ _ _ _
                 obtain ⟨WF, hWF⟩ : ∃ W, W = wd.alloc (.cells #[.string ⟨#[100, 101, 110, 121]⟩, .string (pwS p), .string NT, .string (dgS lo), .string (dgS hi)] 60) := ⟨_, rfl⟩
                 obtain ⟨BF, hBF⟩ : ∃ B, B = wd.heap.size := ⟨_, rfl⟩
                 rw [← hWF] at N5 ⊢
                 rw [← hBF] at N5 ⊢
                 clear hWF hBF)
            have d5 : WF.cell? ⟨w.heap.size, 5, none⟩ = some (.bool al) := bkeep N5.out.below c2_0_5
            have n0 := N5.out.c0
            have nf := N5.out.fz 0
            have BW : Hid (Below w.heap.size w WF) := BX2.out.trans (N5.out.below.mono BX2.out.size)
            have hBw : w.heap.size ≤ BF := Nat.le_trans BX2.out.size N5.out.le
            clear KP TB DR DA hH3019
            cases al with
            | false =>
              have HJ : Hid (Calls Tryd.prog 29 #[.slice (some ⟨BF, 0, none⟩) 5 5, .string ⟨#[32]⟩] WF fun e w' => e = .returned (.string Z) ∧ Below WF.heap.size WF w') := by
                have := join5 BF _ _ _ _ _ WF N5.out.c0 N5.out.c1 N5.out.c2 N5.out.c3 N5.out.c4 N5.out.lt (by have e : (⟨#[100, 101, 110, 121]⟩ : ByteArray).size = 4 := rfl; omega)
                have ze : (⟨#[100, 101, 110, 121]⟩ : ByteArray) ++ spc ++ pwS p ++ spc ++ NT ++ spc ++ dgS lo ++ spc ++ dgS hi = Z := ZE.out
                rw [ze] at this
                exact this
              go_wp2_with fail
              refine HJ.out.mono ?_
              rintro e wj ⟨rfl, bj⟩
              have BJ : Hid (Below w.heap.size w wj) := BW.out.trans (bj.mono BW.out.size)
              clear bj
              go_wp2
              go_ret2
              exact ⟨rfl, BJ.out⟩
            | true =>
              have BW2 : Hid (Below w.heap.size w (WF.setCell ⟨BF, 0, none⟩ (.string ⟨#[97, 108, 108, 111, 119]⟩))) := BW.out.setCell hBw _
              have HJ : Hid (Calls Tryd.prog 29 #[.slice (some ⟨BF, 0, none⟩) 5 5, .string ⟨#[32]⟩] (WF.setCell ⟨BF, 0, none⟩ (.string ⟨#[97, 108, 108, 111, 119]⟩)) fun e w' => e = .returned (.string Z) ∧ Below (WF.setCell ⟨BF, 0, none⟩ (.string ⟨#[97, 108, 108, 111, 119]⟩)).heap.size (WF.setCell ⟨BF, 0, none⟩ (.string ⟨#[97, 108, 108, 111, 119]⟩)) w') := by
                have m0 := N5.out.c0
                have m1 := N5.out.c1
                have m2 := N5.out.c2
                have m3 := N5.out.c3
                have m4 := N5.out.c4
                have := join5 BF ⟨#[97, 108, 108, 111, 119]⟩ (pwS p) NT (dgS lo) (dgS hi) (WF.setCell ⟨BF, 0, none⟩ (.string ⟨#[97, 108, 108, 111, 119]⟩)) (by simp [go_sem, m0]) (by simp [go_sem, m1]) (by simp [go_sem, m2]) (by simp [go_sem, m3]) (by simp [go_sem, m4]) (by simpa using N5.out.lt) (by have e : (⟨#[97, 108, 108, 111, 119]⟩ : ByteArray).size = 5 := rfl; omega)
                have ze : (⟨#[97, 108, 108, 111, 119]⟩ : ByteArray) ++ spc ++ pwS p ++ spc ++ NT ++ spc ++ dgS lo ++ spc ++ dgS hi = Z := ZE.out
                rw [ze] at this
                exact this
              go_wp2_with fail
              refine HJ.out.mono ?_
              rintro e wj ⟨rfl, bj⟩
              have BJ : Hid (Below w.heap.size w wj) := BW2.out.trans (bj.mono BW2.out.size)
              clear bj
              go_wp2
              go_ret2
              exact ⟨rfl, BJ.out⟩
          exact AllReadyH.nil
        exact AllReadyH.nil
      exact AllReadyH.nil
    refine AllReadyH.cons rfl (fun K hK => ?_) ?_
    · go_simp
      refine hK.out _ _ ?_ (fun hH3020 => ?_)
      · (try dsimp only)
        first | with_reducible exact KP.out _ DR.out | with_reducible exact KP.out _ DA.out.below | with_reducible exact KP.out _ BC.out | with_reducible exact KP.out _ CA.out.below | with_reducible exact KP.out _ BD.out | with_reducible exact KP.out _ (BD.out.alloc BD.out.size _) | with_reducible exact KP.out _ (box5_set C6.out _ _ _ _ _).below
      clear hK K hH3010
      refine wpAnyH_ready (rs := [7]) (by kernel_rfl) (by simp) ?_
      refine AllReadyH.cons rfl (fun K hK => ?_) ?_
      · go_simp
        go_at_call 28
        (first | (with_reducible refine (HL.out _ (TB.out _ DR.out)).mono ?_) | (with_reducible refine (HL.out _ (TB.out _ DA.out.below)).mono ?_))
        rintro e wc ⟨rfl, g1⟩
        have BC : Hid (Below wx2.heap.size wx2 wc) := by first | exact DR.out.trans g1.below | exact (box5_keep DA.out g1).below
        have CA : Hid (Box5 wx2 (wc.alloc (.cells #[.string ⟨#[]⟩, .string ⟨#[]⟩, .string ⟨#[]⟩, .string ⟨#[]⟩, .string ⟨#[]⟩] 60)) wc.heap.size (.string ⟨#[]⟩) (.string ⟨#[]⟩) (.string ⟨#[]⟩) (.string ⟨#[]⟩) (.string ⟨#[]⟩)) := box5_new BC.out _ _ _ _ _ _
        first | (have C5 : Hid (Box5 wx2 wc wx2.heap.size (.string ⟨#[]⟩) (.string ⟨#[]⟩) (.string ⟨#[]⟩) (.string ⟨#[]⟩) (.string ⟨#[]⟩)) := box5_keep DA.out g1) | skip
        clear g1
        refine hK.out _ _ ?_ (fun hH3021 => ?_)
        · (try dsimp only)
          first | with_reducible exact KP.out _ DR.out | with_reducible exact KP.out _ DA.out.below | with_reducible exact KP.out _ BC.out | with_reducible exact KP.out _ CA.out.below | with_reducible exact KP.out _ BD.out | with_reducible exact KP.out _ (BD.out.alloc BD.out.size _) | with_reducible exact KP.out _ (box5_set C6.out _ _ _ _ _).below
        clear hK K hH3020
        refine wpAnyH_ready (rs := [11]) (by kernel_rfl) (by simp) ?_
        refine AllReadyH.cons rfl (fun K hK => ?_) ?_
        · go_simp
          go_at_call 28
          (first | (with_reducible refine (HH.out _ (TB.out _ BC.out)).mono ?_) | (with_reducible refine (HH.out _ (TB.out _ CA.out.below)).mono ?_))
          rintro e wd ⟨rfl, g2⟩
          have BD : Hid (Below wx2.heap.size wx2 wd) := by first | exact BC.out.trans (g2.below.mono BC.out.size) | exact (box5_keep CA.out g2).below
          first | (have C6 : Hid (Box5 wx2 wd wx2.heap.size (.string ⟨#[]⟩) (.string ⟨#[]⟩) (.string ⟨#[]⟩) (.string ⟨#[]⟩) (.string ⟨#[]⟩)) := box5_keep C5.out g2) | (have C6 : Hid (Box5 wx2 wd wc.heap.size (.string ⟨#[]⟩) (.string ⟨#[]⟩) (.string ⟨#[]⟩) (.string ⟨#[]⟩) (.string ⟨#[]⟩)) := box5_keep CA.out g2) | skip
          (try (have y0 := C6.out.c0; have y1 := C6.out.c1; have y2 := C6.out.c2; have y3 := C6.out.c3; have y4 := C6.out.c4; have yf := C6.out.fz))
          clear g2
          refine hK.out _ _ ?_ (fun hH3022 => ?_)
          · (try dsimp only)
            first | with_reducible exact KP.out _ DR.out | with_reducible exact KP.out _ DA.out.below | with_reducible exact KP.out _ BC.out | with_reducible exact KP.out _ CA.out.below | with_reducible exact KP.out _ BD.out | with_reducible exact KP.out _ (BD.out.alloc BD.out.size _) | with_reducible exact KP.out _ (box5_set C6.out _ _ _ _ _).below
          clear hK K hH3021
          refine wpAnyH_take (i := 12) (v := ?v3023) rfl (by kernel_rfl) (by kernel_rfl) (by kernel_rfl) (fun _ _ _ h => h) (Or.inl ⟨by rfl, ?hy3023⟩) (by assumption) ?rest3023
          case hy3023 => (intro w hSw; (try dsimp only at hSw); go_simp; (try with_reducible rfl))
          refine wpAnyH_ready (rs := [14]) (by kernel_rfl) (by simp) ?_
          refine AllReadyH.cons rfl (fun K hK => ?_) ?_
          · go_simp
            refine hK.out _ _ ?_ (fun hH3024 => ?_)
            · (try dsimp only)
              first | with_reducible exact KP.out _ DR.out | with_reducible exact KP.out _ DA.out.below | with_reducible exact KP.out _ BC.out | with_reducible exact KP.out _ CA.out.below | with_reducible exact KP.out _ BD.out | with_reducible exact KP.out _ (BD.out.alloc BD.out.size _) | with_reducible exact KP.out _ (box5_set C6.out _ _ _ _ _).below
            clear hK K hH3022
            refine wpAnyH_done (by kernel_rfl) ?_ _
            (try go_simp)
            first
              | (have N5 : Hid (Box5 wx2 (((((wd.setCell ⟨wx2.heap.size, 0, none⟩ (.string ⟨#[100, 101, 110, 121]⟩)).setCell ⟨wx2.heap.size, 1, none⟩ (.string (pwS p))).setCell ⟨wx2.heap.size, 2, none⟩ (.string NT)).setCell ⟨wx2.heap.size, 3, none⟩ (.string (dgS lo))).setCell ⟨wx2.heap.size, 4, none⟩ (.string (dgS hi))) (wx2.heap.size) (.string ⟨#[100, 101, 110, 121]⟩) (.string (pwS p)) (.string NT) (.string (dgS lo)) (.string (dgS hi))) := box5_set C6.out _ _ _ _ _
                 obtain ⟨WF, hWF⟩ : ∃ W, W = ((((wd.setCell ⟨wx2.heap.size, 0, none⟩ (.string ⟨#[100, 101, 110, 121]⟩)).setCell ⟨wx2.heap.size, 1, none⟩ (.string (pwS p))).setCell ⟨wx2.heap.size, 2, none⟩ (.string NT)).setCell ⟨wx2.heap.size, 3, none⟩ (.string (dgS lo))).setCell ⟨wx2.heap.size, 4, none⟩ (.string (dgS hi)) := ⟨_, rfl⟩
                 obtain ⟨BF, hBF⟩ : ∃ B, B = wx2.heap.size := ⟨_, rfl⟩
                 rw [← hWF] at N5 ⊢
                 rw [← hBF] at N5 ⊢
                 clear hWF hBF)
              | (have N5 : Hid (Box5 wx2 (((((wd.setCell ⟨wc.heap.size, 0, none⟩ (.string ⟨#[100, 101, 110, 121]⟩)).setCell ⟨wc.heap.size, 1, none⟩ (.string (pwS p))).setCell ⟨wc.heap.size, 2, none⟩ (.string NT)).setCell ⟨wc.heap.size, 3, none⟩ (.string (dgS lo))).setCell ⟨wc.heap.size, 4, none⟩ (.string (dgS hi))) (wc.heap.size) (.string ⟨#[100, 101, 110, 121]⟩) (.string (pwS p)) (.string NT) (.string (dgS lo)) (.string (dgS hi))) := box5_set C6.out _ _ _ _ _
                 obtain ⟨WF, hWF⟩ : ∃ W, W = ((((wd.setCell ⟨wc.heap.size, 0, none⟩ (.string ⟨#[100, 101, 110, 121]⟩)).setCell ⟨wc.heap.size, 1, none⟩ (.string (pwS p))).setCell ⟨wc.heap.size, 2, none⟩ (.string NT)).setCell ⟨wc.heap.size, 3, none⟩ (.string (dgS lo))).setCell ⟨wc.heap.size, 4, none⟩ (.string (dgS hi)) := ⟨_, rfl⟩
                 obtain ⟨BF, hBF⟩ : ∃ B, B = wc.heap.size := ⟨_, rfl⟩
                 rw [← hWF] at N5 ⊢
                 rw [← hBF] at N5 ⊢
                 clear hWF hBF)
              | (have N5 : Hid (Box5 wx2 (wd.alloc (.cells #[.string ⟨#[100, 101, 110, 121]⟩, .string (pwS p), .string NT, .string (dgS lo), .string (dgS hi)] 60)) (wd.heap.size) (.string ⟨#[100, 101, 110, 121]⟩) (.string (pwS p)) (.string NT) (.string (dgS lo)) (.string (dgS hi))) := box5_new BD.out _ _ _ _ _ _
                 obtain ⟨WF, hWF⟩ : ∃ W, W = wd.alloc (.cells #[.string ⟨#[100, 101, 110, 121]⟩, .string (pwS p), .string NT, .string (dgS lo), .string (dgS hi)] 60) := ⟨_, rfl⟩
                 obtain ⟨BF, hBF⟩ : ∃ B, B = wd.heap.size := ⟨_, rfl⟩
                 rw [← hWF] at N5 ⊢
                 rw [← hBF] at N5 ⊢
                 clear hWF hBF)
            have d5 : WF.cell? ⟨w.heap.size, 5, none⟩ = some (.bool al) := bkeep N5.out.below c2_0_5
            have n0 := N5.out.c0
            have nf := N5.out.fz 0
            have BW : Hid (Below w.heap.size w WF) := BX2.out.trans (N5.out.below.mono BX2.out.size)
            have hBw : w.heap.size ≤ BF := Nat.le_trans BX2.out.size N5.out.le
            clear KP TB DR DA hH3024
            cases al with
            | false =>
              have HJ : Hid (Calls Tryd.prog 29 #[.slice (some ⟨BF, 0, none⟩) 5 5, .string ⟨#[32]⟩] WF fun e w' => e = .returned (.string Z) ∧ Below WF.heap.size WF w') := by
                have := join5 BF _ _ _ _ _ WF N5.out.c0 N5.out.c1 N5.out.c2 N5.out.c3 N5.out.c4 N5.out.lt (by have e : (⟨#[100, 101, 110, 121]⟩ : ByteArray).size = 4 := rfl; omega)
                have ze : (⟨#[100, 101, 110, 121]⟩ : ByteArray) ++ spc ++ pwS p ++ spc ++ NT ++ spc ++ dgS lo ++ spc ++ dgS hi = Z := ZE.out
                rw [ze] at this
                exact this
              go_wp2_with fail
              refine HJ.out.mono ?_
              rintro e wj ⟨rfl, bj⟩
              have BJ : Hid (Below w.heap.size w wj) := BW.out.trans (bj.mono BW.out.size)
              clear bj
              go_wp2
              go_ret2
              exact ⟨rfl, BJ.out⟩
            | true =>
              have BW2 : Hid (Below w.heap.size w (WF.setCell ⟨BF, 0, none⟩ (.string ⟨#[97, 108, 108, 111, 119]⟩))) := BW.out.setCell hBw _
              have HJ : Hid (Calls Tryd.prog 29 #[.slice (some ⟨BF, 0, none⟩) 5 5, .string ⟨#[32]⟩] (WF.setCell ⟨BF, 0, none⟩ (.string ⟨#[97, 108, 108, 111, 119]⟩)) fun e w' => e = .returned (.string Z) ∧ Below (WF.setCell ⟨BF, 0, none⟩ (.string ⟨#[97, 108, 108, 111, 119]⟩)).heap.size (WF.setCell ⟨BF, 0, none⟩ (.string ⟨#[97, 108, 108, 111, 119]⟩)) w') := by
                have m0 := N5.out.c0
                have m1 := N5.out.c1
                have m2 := N5.out.c2
                have m3 := N5.out.c3
                have m4 := N5.out.c4
                have := join5 BF ⟨#[97, 108, 108, 111, 119]⟩ (pwS p) NT (dgS lo) (dgS hi) (WF.setCell ⟨BF, 0, none⟩ (.string ⟨#[97, 108, 108, 111, 119]⟩)) (by simp [go_sem, m0]) (by simp [go_sem, m1]) (by simp [go_sem, m2]) (by simp [go_sem, m3]) (by simp [go_sem, m4]) (by simpa using N5.out.lt) (by have e : (⟨#[97, 108, 108, 111, 119]⟩ : ByteArray).size = 5 := rfl; omega)
                have ze : (⟨#[97, 108, 108, 111, 119]⟩ : ByteArray) ++ spc ++ pwS p ++ spc ++ NT ++ spc ++ dgS lo ++ spc ++ dgS hi = Z := ZE.out
                rw [ze] at this
                exact this
              go_wp2_with fail
              refine HJ.out.mono ?_
              rintro e wj ⟨rfl, bj⟩
              have BJ : Hid (Below w.heap.size w wj) := BW2.out.trans (bj.mono BW2.out.size)
              clear bj
              go_wp2
              go_ret2
              exact ⟨rfl, BJ.out⟩
          exact AllReadyH.nil
        exact AllReadyH.nil
      exact AllReadyH.nil
    exact AllReadyH.nil
  refine AllReadyH.cons rfl (fun K hK => ?_) ?_
  · go_simp
    refine hK.out _ _ ?_ (fun hH3025 => ?_)
    · (try dsimp only)
      first | with_reducible exact KP.out _ DR.out | with_reducible exact KP.out _ DA.out.below | with_reducible exact KP.out _ BC.out | with_reducible exact KP.out _ CA.out.below | with_reducible exact KP.out _ BD.out | with_reducible exact KP.out _ (BD.out.alloc BD.out.size _) | with_reducible exact KP.out _ (box5_set C6.out _ _ _ _ _).below
    clear hK K hH0
    refine wpAnyH_ready (rs := [2]) (by kernel_rfl) (by simp) ?_
    refine AllReadyH.cons rfl (fun K hK => ?_) ?_
    · go_simp
      go_at_call 27
      (with_reducible refine (HP.out _).mono ?_)
      rintro e wp ⟨rfl, rfl⟩
      refine hK.out _ _ ?_ (fun hH3026 => ?_)
      · (try dsimp only)
        first | with_reducible exact KP.out _ DR.out | with_reducible exact KP.out _ DA.out.below | with_reducible exact KP.out _ BC.out | with_reducible exact KP.out _ CA.out.below | with_reducible exact KP.out _ BD.out | with_reducible exact KP.out _ (BD.out.alloc BD.out.size _) | with_reducible exact KP.out _ (box5_set C6.out _ _ _ _ _).below
      clear hK K hH3025
      refine wpAnyH_ready (rs := [7]) (by kernel_rfl) (by simp) ?_
      refine AllReadyH.cons rfl (fun K hK => ?_) ?_
      · go_simp
        go_at_call 28
        (first | (with_reducible refine (HL.out _ (TB.out _ DR.out)).mono ?_) | (with_reducible refine (HL.out _ (TB.out _ DA.out.below)).mono ?_))
        rintro e wc ⟨rfl, g1⟩
        have BC : Hid (Below wx2.heap.size wx2 wc) := by first | exact DR.out.trans g1.below | exact (box5_keep DA.out g1).below
        have CA : Hid (Box5 wx2 (wc.alloc (.cells #[.string ⟨#[]⟩, .string ⟨#[]⟩, .string ⟨#[]⟩, .string ⟨#[]⟩, .string ⟨#[]⟩] 60)) wc.heap.size (.string ⟨#[]⟩) (.string ⟨#[]⟩) (.string ⟨#[]⟩) (.string ⟨#[]⟩) (.string ⟨#[]⟩)) := box5_new BC.out _ _ _ _ _ _
        first | (have C5 : Hid (Box5 wx2 wc wx2.heap.size (.string ⟨#[]⟩) (.string ⟨#[]⟩) (.string ⟨#[]⟩) (.string ⟨#[]⟩) (.string ⟨#[]⟩)) := box5_keep DA.out g1) | skip
        clear g1
        refine hK.out _ _ ?_ (fun hH3027 => ?_)
        · (try dsimp only)
          first | with_reducible exact KP.out _ DR.out | with_reducible exact KP.out _ DA.out.below | with_reducible exact KP.out _ BC.out | with_reducible exact KP.out _ CA.out.below | with_reducible exact KP.out _ BD.out | with_reducible exact KP.out _ (BD.out.alloc BD.out.size _) | with_reducible exact KP.out _ (box5_set C6.out _ _ _ _ _).below
        clear hK K hH3026
        refine wpAnyH_ready (rs := [11]) (by kernel_rfl) (by simp) ?_
        refine AllReadyH.cons rfl (fun K hK => ?_) ?_
        · go_simp
          go_at_call 28
          (first | (with_reducible refine (HH.out _ (TB.out _ BC.out)).mono ?_) | (with_reducible refine (HH.out _ (TB.out _ CA.out.below)).mono ?_))
          rintro e wd ⟨rfl, g2⟩
          have BD : Hid (Below wx2.heap.size wx2 wd) := by first | exact BC.out.trans (g2.below.mono BC.out.size) | exact (box5_keep CA.out g2).below
          first | (have C6 : Hid (Box5 wx2 wd wx2.heap.size (.string ⟨#[]⟩) (.string ⟨#[]⟩) (.string ⟨#[]⟩) (.string ⟨#[]⟩) (.string ⟨#[]⟩)) := box5_keep C5.out g2) | (have C6 : Hid (Box5 wx2 wd wc.heap.size (.string ⟨#[]⟩) (.string ⟨#[]⟩) (.string ⟨#[]⟩) (.string ⟨#[]⟩) (.string ⟨#[]⟩)) := box5_keep CA.out g2) | skip
          (try (have y0 := C6.out.c0; have y1 := C6.out.c1; have y2 := C6.out.c2; have y3 := C6.out.c3; have y4 := C6.out.c4; have yf := C6.out.fz))
          clear g2
          refine hK.out _ _ ?_ (fun hH3028 => ?_)
          · (try dsimp only)
            first | with_reducible exact KP.out _ DR.out | with_reducible exact KP.out _ DA.out.below | with_reducible exact KP.out _ BC.out | with_reducible exact KP.out _ CA.out.below | with_reducible exact KP.out _ BD.out | with_reducible exact KP.out _ (BD.out.alloc BD.out.size _) | with_reducible exact KP.out _ (box5_set C6.out _ _ _ _ _).below
          clear hK K hH3027
          refine wpAnyH_take (i := 12) (v := ?v3029) rfl (by kernel_rfl) (by kernel_rfl) (by kernel_rfl) (fun _ _ _ h => h) (Or.inl ⟨by rfl, ?hy3029⟩) (by assumption) ?rest3029
          case hy3029 => (intro w hSw; (try dsimp only at hSw); go_simp; (try with_reducible rfl))
          refine wpAnyH_ready (rs := [14]) (by kernel_rfl) (by simp) ?_
          refine AllReadyH.cons rfl (fun K hK => ?_) ?_
          · go_simp
            refine hK.out _ _ ?_ (fun hH3030 => ?_)
            · (try dsimp only)
              first | with_reducible exact KP.out _ DR.out | with_reducible exact KP.out _ DA.out.below | with_reducible exact KP.out _ BC.out | with_reducible exact KP.out _ CA.out.below | with_reducible exact KP.out _ BD.out | with_reducible exact KP.out _ (BD.out.alloc BD.out.size _) | with_reducible exact KP.out _ (box5_set C6.out _ _ _ _ _).below
            clear hK K hH3028
            refine wpAnyH_done (by kernel_rfl) ?_ _
            (try go_simp)
            first
              | (have N5 : Hid (Box5 wx2 (((((wd.setCell ⟨wx2.heap.size, 0, none⟩ (.string ⟨#[100, 101, 110, 121]⟩)).setCell ⟨wx2.heap.size, 1, none⟩ (.string (pwS p))).setCell ⟨wx2.heap.size, 2, none⟩ (.string NT)).setCell ⟨wx2.heap.size, 3, none⟩ (.string (dgS lo))).setCell ⟨wx2.heap.size, 4, none⟩ (.string (dgS hi))) (wx2.heap.size) (.string ⟨#[100, 101, 110, 121]⟩) (.string (pwS p)) (.string NT) (.string (dgS lo)) (.string (dgS hi))) := box5_set C6.out _ _ _ _ _
                 obtain ⟨WF, hWF⟩ : ∃ W, W = ((((wd.setCell ⟨wx2.heap.size, 0, none⟩ (.string ⟨#[100, 101, 110, 121]⟩)).setCell ⟨wx2.heap.size, 1, none⟩ (.string (pwS p))).setCell ⟨wx2.heap.size, 2, none⟩ (.string NT)).setCell ⟨wx2.heap.size, 3, none⟩ (.string (dgS lo))).setCell ⟨wx2.heap.size, 4, none⟩ (.string (dgS hi)) := ⟨_, rfl⟩
                 obtain ⟨BF, hBF⟩ : ∃ B, B = wx2.heap.size := ⟨_, rfl⟩
                 rw [← hWF] at N5 ⊢
                 rw [← hBF] at N5 ⊢
                 clear hWF hBF)
              | (have N5 : Hid (Box5 wx2 (((((wd.setCell ⟨wc.heap.size, 0, none⟩ (.string ⟨#[100, 101, 110, 121]⟩)).setCell ⟨wc.heap.size, 1, none⟩ (.string (pwS p))).setCell ⟨wc.heap.size, 2, none⟩ (.string NT)).setCell ⟨wc.heap.size, 3, none⟩ (.string (dgS lo))).setCell ⟨wc.heap.size, 4, none⟩ (.string (dgS hi))) (wc.heap.size) (.string ⟨#[100, 101, 110, 121]⟩) (.string (pwS p)) (.string NT) (.string (dgS lo)) (.string (dgS hi))) := box5_set C6.out _ _ _ _ _
                 obtain ⟨WF, hWF⟩ : ∃ W, W = ((((wd.setCell ⟨wc.heap.size, 0, none⟩ (.string ⟨#[100, 101, 110, 121]⟩)).setCell ⟨wc.heap.size, 1, none⟩ (.string (pwS p))).setCell ⟨wc.heap.size, 2, none⟩ (.string NT)).setCell ⟨wc.heap.size, 3, none⟩ (.string (dgS lo))).setCell ⟨wc.heap.size, 4, none⟩ (.string (dgS hi)) := ⟨_, rfl⟩
                 obtain ⟨BF, hBF⟩ : ∃ B, B = wc.heap.size := ⟨_, rfl⟩
                 rw [← hWF] at N5 ⊢
                 rw [← hBF] at N5 ⊢
                 clear hWF hBF)
              | (have N5 : Hid (Box5 wx2 (wd.alloc (.cells #[.string ⟨#[100, 101, 110, 121]⟩, .string (pwS p), .string NT, .string (dgS lo), .string (dgS hi)] 60)) (wd.heap.size) (.string ⟨#[100, 101, 110, 121]⟩) (.string (pwS p)) (.string NT) (.string (dgS lo)) (.string (dgS hi))) := box5_new BD.out _ _ _ _ _ _
                 obtain ⟨WF, hWF⟩ : ∃ W, W = wd.alloc (.cells #[.string ⟨#[100, 101, 110, 121]⟩, .string (pwS p), .string NT, .string (dgS lo), .string (dgS hi)] 60) := ⟨_, rfl⟩
                 obtain ⟨BF, hBF⟩ : ∃ B, B = wd.heap.size := ⟨_, rfl⟩
                 rw [← hWF] at N5 ⊢
                 rw [← hBF] at N5 ⊢
                 clear hWF hBF)
            have d5 : WF.cell? ⟨w.heap.size, 5, none⟩ = some (.bool al) := bkeep N5.out.below c2_0_5
            have n0 := N5.out.c0
            have nf := N5.out.fz 0
            have BW : Hid (Below w.heap.size w WF) := BX2.out.trans (N5.out.below.mono BX2.out.size)
            have hBw : w.heap.size ≤ BF := Nat.le_trans BX2.out.size N5.out.le
            clear KP TB DR DA hH3030
            cases al with
            | false =>
              have HJ : Hid (Calls Tryd.prog 29 #[.slice (some ⟨BF, 0, none⟩) 5 5, .string ⟨#[32]⟩] WF fun e w' => e = .returned (.string Z) ∧ Below WF.heap.size WF w') := by
                have := join5 BF _ _ _ _ _ WF N5.out.c0 N5.out.c1 N5.out.c2 N5.out.c3 N5.out.c4 N5.out.lt (by have e : (⟨#[100, 101, 110, 121]⟩ : ByteArray).size = 4 := rfl; omega)
                have ze : (⟨#[100, 101, 110, 121]⟩ : ByteArray) ++ spc ++ pwS p ++ spc ++ NT ++ spc ++ dgS lo ++ spc ++ dgS hi = Z := ZE.out
                rw [ze] at this
                exact this
              go_wp2_with fail
              refine HJ.out.mono ?_
              rintro e wj ⟨rfl, bj⟩
              have BJ : Hid (Below w.heap.size w wj) := BW.out.trans (bj.mono BW.out.size)
              clear bj
              go_wp2
              go_ret2
              exact ⟨rfl, BJ.out⟩
            | true =>
              have BW2 : Hid (Below w.heap.size w (WF.setCell ⟨BF, 0, none⟩ (.string ⟨#[97, 108, 108, 111, 119]⟩))) := BW.out.setCell hBw _
              have HJ : Hid (Calls Tryd.prog 29 #[.slice (some ⟨BF, 0, none⟩) 5 5, .string ⟨#[32]⟩] (WF.setCell ⟨BF, 0, none⟩ (.string ⟨#[97, 108, 108, 111, 119]⟩)) fun e w' => e = .returned (.string Z) ∧ Below (WF.setCell ⟨BF, 0, none⟩ (.string ⟨#[97, 108, 108, 111, 119]⟩)).heap.size (WF.setCell ⟨BF, 0, none⟩ (.string ⟨#[97, 108, 108, 111, 119]⟩)) w') := by
                have m0 := N5.out.c0
                have m1 := N5.out.c1
                have m2 := N5.out.c2
                have m3 := N5.out.c3
                have m4 := N5.out.c4
                have := join5 BF ⟨#[97, 108, 108, 111, 119]⟩ (pwS p) NT (dgS lo) (dgS hi) (WF.setCell ⟨BF, 0, none⟩ (.string ⟨#[97, 108, 108, 111, 119]⟩)) (by simp [go_sem, m0]) (by simp [go_sem, m1]) (by simp [go_sem, m2]) (by simp [go_sem, m3]) (by simp [go_sem, m4]) (by simpa using N5.out.lt) (by have e : (⟨#[97, 108, 108, 111, 119]⟩ : ByteArray).size = 5 := rfl; omega)
                have ze : (⟨#[97, 108, 108, 111, 119]⟩ : ByteArray) ++ spc ++ pwS p ++ spc ++ NT ++ spc ++ dgS lo ++ spc ++ dgS hi = Z := ZE.out
                rw [ze] at this
                exact this
              go_wp2_with fail
              refine HJ.out.mono ?_
              rintro e wj ⟨rfl, bj⟩
              have BJ : Hid (Below w.heap.size w wj) := BW2.out.trans (bj.mono BW2.out.size)
              clear bj
              go_wp2
              go_ret2
              exact ⟨rfl, BJ.out⟩
          exact AllReadyH.nil
        exact AllReadyH.nil
      exact AllReadyH.nil
    exact AllReadyH.nil
  exact AllReadyH.nil
end Go.Proofs.YtcgdpijmfgkalacDoor
