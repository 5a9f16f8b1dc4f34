/- namePlace of the program. SameHash, the program's and the model's: both are one text of 32 bytes; the walk of its law. userPlace of the program. -/
import Derived.Test.YtnlepjcjakghcaaGreatDoorJ18
namespace Go.Proofs.YtnlepjcjakghcaaGreatDoor
open Go.RowKit Go.PlainAid Go.Proofs.YtnlepjcjakghcaaGreatDoor.Bt Go.Sort
set_option linter.unusedVariables false
set_option maxRecDepth 20000
set_option maxHeartbeats 2000000 in
theorem idxUser_any (y : Option Addr) (n c : Nat) (xs : List UserV) (p : UserV → Bool) (B0 : Nat) (w : World) (h : Rw UsR 6 w y xs) (hl : xs.length = n) (hn : n ≤ 9223372036854775807)
    (hp : ∀ z, z ∈ xs → ∀ W, Below w.heap.size w W → Calls Tryz.prog 75 #[.agg #[.string z.nm, .string z.sa, .string z.ha, .string z.ro, .int .i64 z.bl, .int .i64 z.lg], .pointer (some ⟨B0, 0, none⟩)] W fun e w' => e = .returned (.bool (p z)) ∧ Grw W w') :
    Calls Tryz.prog 74 #[.slice y n c, .func (.func 75) #[] #[.pointer (some ⟨B0, 0, none⟩)]] w fun e w' => e = .returned (.int .i64 (ixI p xs)) ∧ Grw w w' := by
  have RY : Hid (Rw UsR 6 w y xs) := h
  have HP0 : Hid (∀ z, z ∈ xs → ∀ W, Below w.heap.size w W → Calls Tryz.prog 75 #[.agg #[.string z.nm, .string z.sa, .string z.ha, .string z.ro, .int .i64 z.bl, .int .i64 z.lg], .pointer (some ⟨B0, 0, none⟩)] W fun e w' => e = .returned (.bool (p z)) ∧ Grw W w') := hp
  clear h hp
  have eg : ∀ args w, (callFunc 75 args).run Tryz.prog w = .ok (.enter 75 args) w := enters_of Tryz.func75 (by kernel_rfl) rfl
  go_enter Tryz.func74, Tryz.ntmps74
  go_wp2
  go_loopw [8] (fun u wr => ∃ k : Nat, k ≤ n ∧ u = .int .i64 k ∧ Hid ((xs.take k).find? p = none) ∧ Hid (Grw w wr)) (fun u _ => n - (intOf u).toNat)
  case atStart => exact ⟨0, Nat.zero_le _, rfl, rfl, Grw.refl _⟩
  case round =>
    obtain ⟨k, hk, rfl, HO, HG⟩ := hrel
    by_cases hlt : k < n
    · obtain ⟨z, hx⟩ := at_of hl hlt
      obtain ⟨bk, off, vs, rfl, hb, hvl, hR, hc⟩ := RY.out.at UsR.kp HG.out.below hx
      have HY : Hid (p z = true → ixI p xs = k) := fun h => ixI_at hx HO.out h
      have HN : Hid (p z = false → (xs.take (k + 1)).find? p = none) := fun h => ixI_no hx HO.out h
      obtain ⟨rfl, -⟩ := hR
      have q0 : wr.cell? ⟨bk, off + k * 6, none⟩ = some (.string z.nm) := hc 0 _ rfl
      have q1 : wr.cell? ⟨bk, off + k * 6 + 1, none⟩ = some (.string z.sa) := hc 1 _ rfl
      have q2 : wr.cell? ⟨bk, off + k * 6 + 2, none⟩ = some (.string z.ha) := hc 2 _ rfl
      have q3 : wr.cell? ⟨bk, off + k * 6 + 3, none⟩ = some (.string z.ro) := hc 3 _ rfl
      have q4 : wr.cell? ⟨bk, off + k * 6 + 4, none⟩ = some (.int .i64 z.bl) := hc 4 _ rfl
      have q5 : wr.cell? ⟨bk, off + k * 6 + 5, none⟩ = some (.int .i64 z.lg) := hc 5 _ rfl
      have hltz : (k : Int) < (n : Int) := by omega
      have HP : Hid (∀ W, Grw w W → Calls Tryz.prog 75 #[.agg #[.string z.nm, .string z.sa, .string z.ha, .string z.ro, .int .i64 z.bl, .int .i64 z.lg], .pointer (some ⟨B0, 0, none⟩)] W fun e w' => e = .returned (.bool (p z)) ∧ Grw W w') := fun W g => HP0.out z (List.mem_of_getElem? hx) W g.below
      generalize p z = u at HY HN HP
      clear hc hvl hx
      cases u with
      | false =>
        have HN' : Hid ((xs.take (k + 1)).find? p = none) := HN.out rfl
        clear HY HN
        go_wp2_with (go_at_fn 75; refine (HP.out _ HG.out).mono ?_; rintro e w' ⟨rfl, g1⟩)
        have HG1 : Hid (Grw w _) := HG.out.trans g1
        clear g1 HG
        go_roundw
        case rel => exact ⟨k + 1, by omega, by go_num, HN', HG1⟩
        case measure => simp [intOf]; omega
      | true =>
        have HY' : Hid (ixI p xs = k) := HY.out rfl
        clear HY HN
        go_wp2_with (go_at_fn 75; refine (HP.out _ HG.out).mono ?_; rintro e w' ⟨rfl, g1⟩)
        go_ret
        exact ⟨by rw [HY'.out]; rfl, HG.out.trans g1⟩
    · obtain rfl : k = n := by omega
      have hd : Hid (ixI p xs = -1) := ixI_end hl HO.out
      go_wp2
      go_ret
      exact ⟨by rw [hd.out]; rfl, HG.out⟩

theorem namePlace1_any (z : UserV) (u : ByteArray) (B : Nat) (w : World) (hc : w.cell? ⟨B, 0, none⟩ = some (.string u)) :
    Calls Tryz.prog 75 #[.agg #[.string z.nm, .string z.sa, .string z.ha, .string z.ro, .int .i64 z.bl, .int .i64 z.lg], .pointer (some ⟨B, 0, none⟩)] w fun e w' => e = .returned (.bool (nmP u z)) ∧ Grw w w' := by
  have hc2 := acell hc (.cells #[.string z.nm, .string z.sa, .string z.ha, .string z.ro, .int .i64 z.bl, .int .i64 z.lg] 25)
  unfold nmP
  obtain ⟨t, ht⟩ : ∃ t, (z.nm.toList == u.toList) = t := ⟨_, rfl⟩
  rw [ht]
  go_enter Tryz.func75, Tryz.ntmps75
  go_wp2
  go_ret
  exact ⟨by first | rfl | (rw [ht]; rfl), (Grw.refl _).alloc _⟩
set_option maxHeartbeats 1000000 in
theorem namePlace_any (a : Option Addr) (n c : Nat) (us : List UserV) (u : ByteArray) (w : World) (h : Rw UsR 6 w a us) (hl : us.length = n) (hn : n ≤ 9223372036854775807) :
    Calls Tryz.prog 49 #[.slice a n c, .string u] w fun e w' => e = .returned (.int .i64 (ixI (nmP u) us)) ∧ Grw w w' := by
  have HX : Hid (∀ W B, Grw w W → W.cell? ⟨B, 0, none⟩ = some (.string u) → Calls Tryz.prog 74 #[.slice a n c, .func (.func 75) #[] #[.pointer (some ⟨B, 0, none⟩)]] W fun e w' => e = .returned (.int .i64 (ixI (nmP u) us)) ∧ Grw W w') := fun W B g hc => idxUser_any a n c us (nmP u) B W (h.keep UsR.kp g.below) hl hn (fun z _ W2 b2 => namePlace1_any z u B W2 (bkeep b2 hc))
  clear h
  generalize ixI (nmP u) us = r at HX ⊢
  go_enter Tryz.func49, Tryz.ntmps49
  go_wp2_with (go_at_call 74; refine (HX.out _ _ ((Grw.refl w).alloc _) (by simp [go_sem])).mono ?_; rintro e w' ⟨rfl, g1⟩)
  go_ret
  exact ⟨rfl, ((Grw.refl w).alloc _).trans g1⟩
end Go.Proofs.YtnlepjcjakghcaaGreatDoor

namespace Go.Proofs.YtnlepjcjakghcaaGreatDoor
open Go.RowKit Go.PlainAid
set_option linter.unusedVariables false
set_option maxRecDepth 20000

def sameB (a b : ByteArray) : Bool := decide (a.size = 32) && (a.toList == b.toList)
theorem sameB_n (a b : ByteArray) (h : a.size ≠ 32) : sameB a b = false := by simp [sameB, h]
theorem sameB_y (a b : ByteArray) (h : a.size = 32) : sameB a b = (a.toList == b.toList) := by simp [sameB, h]

theorem sameHash_any (a b : ByteArray) (w : World) (ha : a.size ≤ 9223372036854775807) :
    Calls Tryz.prog 50 #[.string a, .string b] w fun e w' => e = .returned (.bool (sameB a b)) ∧ w' = w := by
  by_cases h : a.size = 32
  · have hq : ((a.size : Int) == 32) = true := by simp; omega
    have HS : Hid (sameB a b = (a.toList == b.toList)) := sameB_y a b h
    clear h
    go_enter Tryz.func50, Tryz.ntmps50
    go_wp2
    go_ret
    exact ⟨(by rw [HS.out]; try rfl), rfl⟩
  · have hq : ((a.size : Int) == 32) = false := by simp; omega
    have HS : Hid (sameB a b = false) := sameB_n a b h
    clear h
    go_enter Tryz.func50, Tryz.ntmps50
    go_wp2
    go_ret
    exact ⟨(by rw [HS.out]; try rfl), rfl⟩

end Go.Proofs.YtnlepjcjakghcaaGreatDoor

namespace Go.Proofs.YtnlepjcjakghcaaGreatDoor
open Go.RowKit Go.PlainAid Go.Proofs.YtnlepjcjakghcaaGreatDoor.Bt Go.Sort
set_option linter.unusedVariables false
set_option maxRecDepth 20000
theorem pwB_same {u : UserV} {wd P : ByteArray} (hP : P = passS u.sa wd 3) : sameB P u.ha = pwB u wd := by
  have h32 : P.size = 32 := by rw [hP]; exact passS_size _ _ _
  rw [sameB_y _ _ h32]
  unfold pwB
  rw [← hP]
  rw [Bool.eq_iff_iff]
  simp only [beq_iff_eq]
  exact eq_comm
set_option maxHeartbeats 1000000 in
theorem userPlace_no (a : Option Addr) (n c : Nat) (us : List UserV) (nm wd : ByteArray) (w : World) (h : Rw UsR 6 w a us) (hl : us.length = n) (hn : n ≤ 1048576) (h0 : ixI (nmP nm) us < 0) :
    Calls Tryz.prog 26 #[.slice a n c, .string nm, .string wd] w fun e w' => e = .returned (.tuple #[.int .i64 0, .bool false]) ∧ Below w.heap.size w w' := by
  have HN : Hid (Calls Tryz.prog 49 #[.slice a n c, .string nm] w fun e w' => e = .returned (.int .i64 (ixI (nmP nm) us)) ∧ Grw w w') := namePlace_any a n c us nm w h hl (by omega)
  have hd : decide (ixI (nmP nm) us < 0) = true := decide_eq_true h0
  clear h h0
  generalize ixI (nmP nm) us = r at HN hd
  go_enter Tryz.func26, Tryz.ntmps26
  go_wp2_with fail
  refine HN.out.mono ?_
  rintro e w2 ⟨rfl, g1⟩
  go_wp2
  go_ret2
  exact ⟨rfl, g1.below⟩
set_option maxHeartbeats 1000000 in
theorem userPlace_at (a : Option Addr) (n c m : Nat) (us : List UserV) (nm wd : ByteArray) (u : UserV) (w : World) (hK : KTab w) (hH : HTab w) (h : Rw UsR 6 w a us) (hl : us.length = n) (hn : n ≤ 1048576) (hi : ixI (nmP nm) us = (m : Int)) (hu : us[m]? = some u) (hw : wd.size ≤ 40) (hs : u.sa.size ≤ 40) :
    Calls Tryz.prog 26 #[.slice a n c, .string nm, .string wd] w fun e w' => e = .returned (.tuple #[.int .i64 (m : Int), .bool (pwB u wd)]) ∧ Below w.heap.size w w' := by
  have HN : Hid (Calls Tryz.prog 49 #[.slice a n c, .string nm] w fun e w' => e = .returned (.int .i64 (m : Int)) ∧ Grw w w') := by
    have := namePlace_any a n c us nm w h hl (by omega)
    rw [hi] at this
    exact this
  obtain ⟨P, hP⟩ : ∃ P, P = passS u.sa wd 3 := ⟨_, rfl⟩
  have h32 : P.size = 32 := by rw [hP]; exact passS_size _ _ _
  have HP : Hid (∀ wx, Below w.heap.size w wx → Calls Tryz.prog 7 #[.string u.sa, .string wd, .int .i64 3] wx fun e w' => e = .returned (.tuple #[.string P, .int .i64 0]) ∧ Below wx.heap.size wx w') := fun wx hb => by
    rw [hP]
    exact passHash_yes u.sa wd 3 wx (hK.below hb) (hH.below hb) hs hw (by omega)
  have HS : Hid (∀ wx, Calls Tryz.prog 50 #[.string P, .string u.ha] wx fun e w' => e = .returned (.bool (pwB u wd)) ∧ w' = wx) := fun wx => by
    have := sameHash_any P u.ha wx (by omega)
    rw [pwB_same hP] at this
    exact this
  have RY : Hid (Rw UsR 6 w a us) := h
  have HU : Hid (us[m]? = some u) := hu
  have hml : m < n := by have := (List.getElem?_eq_some_iff.1 hu).1; omega
  clear h hu hi hK hH hP
  generalize pwB u wd = R at HS ⊢
  go_enter Tryz.func26, Tryz.ntmps26
  go_wp2_with fail
  refine HN.out.mono ?_
  rintro e w2 ⟨rfl, g1⟩
  obtain ⟨bk, off, vs, rfl, hb, hvl, hR, hc⟩ := RY.out.at UsR.kp g1.below HU.out
  obtain ⟨rfl, -⟩ := hR
  have q1 : w2.cell? ⟨bk, off + m * 6 + 1, none⟩ = some (.string u.sa) := hc 1 _ rfl
  clear hc hvl
  go_wp2_with fail
  refine (HP.out _ g1.below).mono ?_
  rintro e w3 ⟨rfl, b3⟩
  obtain ⟨bk', off', vs, e', hb', hvl, hR, hc⟩ := RY.out.at UsR.kp (g1.below.trans (b3.mono g1.below.size)) HU.out
  cases e'
  obtain ⟨rfl, -⟩ := hR
  have q2 : w3.cell? ⟨bk, off + m * 6 + 2, none⟩ = some (.string u.ha) := hc 2 _ rfl
  have B3 : Hid (Below w.heap.size w w3) := g1.below.trans (b3.mono g1.below.size)
  clear hc hvl b3
  go_wp2_with fail
  refine (HS.out _).mono ?_
  rintro e w4 ⟨rfl, rfl⟩
  go_wp2
  go_ret2
  exact ⟨rfl, B3.out⟩
end Go.Proofs.YtnlepjcjakghcaaGreatDoor
