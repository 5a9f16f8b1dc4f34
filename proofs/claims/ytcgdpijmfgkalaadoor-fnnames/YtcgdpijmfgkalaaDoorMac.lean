/- MacText, the program's and the model's: two hexadecimal digits a byte, colons between; the walk of its law. -/
import Derived.Test.YtcgdpijmfgkalaaDoorProg
import Derived.Test.YtcgdpijmfgkalaaDoorCopy
import Derived.Test.YtcgdpijmfgkalaaDoorOwn
import Derived.Deep.RegionHeld3
import Derived.Deep.AppendLies
import Derived.Laws.BitsAllLaws
namespace Go.Proofs.YtcgdpijmfgkalaaDoor
open Go.RowKit Go.PlainAid
set_option linter.unusedVariables false

/-- The sixteen digits. -/
def hexs : ByteArray := ⟨#[48, 49, 50, 51, 52, 53, 54, 55, 56, 57, 97, 98, 99, 100, 101, 102]⟩
theorem hexs_size : hexs.size = 16 := rfl
def hx (n : Int) : Int := bt hexs n.toNat
theorem hx_bd (n : Int) : 0 ≤ hx n ∧ hx n ≤ 255 := ⟨bt_nonneg _ _, bt_le _ _⟩

/-- The digits of the first k bytes, with colons between. -/
def macl (f : Nat → Int) : Nat → List Int
  | 0 => []
  | k + 1 => macl f k ++ ((if k = 0 then [] else [58]) ++ [hx (f k / 16), hx (f k % 16)])

theorem macl_len (f : Nat → Int) : ∀ k : Nat, (macl f k).length ≤ 3 * k
  | 0 => by simp [macl]
  | k + 1 => by
    have := macl_len f k
    unfold macl
    split <;> simp <;> omega
theorem macl_bd (f : Nat → Int) : ∀ k : Nat, ∀ x ∈ macl f k, 0 ≤ x ∧ x ≤ 255
  | 0 => by simp [macl]
  | k + 1 => by
    have := macl_bd f k
    intro x hx'
    unfold macl at hx'
    split at hx' <;> simp at hx' <;> rcases hx' with h | h | h <;> first | exact this x h | (subst h; exact hx_bd _) | skip
    all_goals (first | (subst h; omega) | (rcases h with h | h <;> (subst h; exact hx_bd _)))
theorem macl_first (f : Nat → Int) : macl f 1 = [hx (f 0 / 16), hx (f 0 % 16)] := rfl
theorem macl_next (f : Nat → Int) (k : Nat) (h : 0 < k) : macl f (k + 1) = macl f k ++ [58] ++ [hx (f k / 16), hx (f k % 16)] := by
  rw [macl, if_neg (by omega), List.append_assoc]

theorem u8_and15 (n : Int) (h0 : 0 ≤ n) (h1 : n ≤ 255) : bits BinOp.and IntKind.u8 n 15 = n % 16 := by
  rw [u8_and n 15 h0 (by omega) (by omega) (by omega)]
  show ((n.toNat &&& 15 : Nat) : Int) = _
  rw [nat_mask4]
  omega

set_option maxHeartbeats 1000000 in
set_option maxRecDepth 100000 in
theorem l01MacText_any (s : ByteArray) (w : World) (hs : s.size = 6) :
    Calls Tryd.prog 36 #[.string s] w fun e w' => e = .returned (.string (strOfNums (macl (bt s) 6))) ∧ Below w.heap.size w w' := by
  obtain ⟨i0, hi, hz0, hz1, hz2⟩ := info_parts Tryd.infoByte
  have hb := get_bt s
  have hbx : ∀ (n : Nat) (h : n < (⟨#[48, 49, 50, 51, 52, 53, 54, 55, 56, 57, 97, 98, 99, 100, 101, 102]⟩ : ByteArray).size), (((⟨#[48, 49, 50, 51, 52, 53, 54, 55, 56, 57, 97, 98, 99, 100, 101, 102]⟩ : ByteArray)[n]'h).toNat : Int) = bt hexs n := get_bt hexs
  have hs1 : s.size ≤ 6 := by omega
  have hs2 : 6 ≤ s.size := by omega
  have HS : Hid (s.size = 6) := hs
  clear hs
  go_enter Tryd.func36, Tryd.ntmps36
  go_wp2
  go_loopw [3, 4] (fun v i wr => ∃ k : Nat, k ≤ 6 ∧ i = .int .i64 k ∧ OwnL 5 wr w.heap.size v (macl (bt s) k) ∧ Below w.heap.size w wr) (fun _ i _ => 6 - (intOf i).toNat)
  case atStart => exact ⟨0, Nat.zero_le _, rfl, World.ownsRow_made w #[] 0 (Nat.le_refl _) (Nat.zero_le _) rfl, (Below.refl _ _).alloc (Nat.le_refl _) _⟩
  case round =>
    obtain ⟨k, hk, rfl, hown, hnx⟩ := hrel
    have hB : Hid (Below w.heap.size w wr) := hnx
    have hO : Hid (OwnL 5 wr w.heap.size u3 (macl (bt s) k)) := hown
    have hlen := macl_len (bt s) k
    clear hnx hown
    have h0 := bt_nonneg s k
    have h1 := bt_le s k
    by_cases hlt : k < 6
    · have hand := u8_and15 (bt s k) h0 h1
      have q1 : 0 ≤ bt s k / 16 := by omega
      have q2 : bt s k / 16 < 16 := by omega
      have q3 : 0 ≤ bt s k % 16 := by omega
      have q4 : bt s k % 16 < 16 := by omega
      by_cases hk0 : k = 0
      · have ht : decide (0 < k) = false := by simp; omega
        have ht' : k < 1 := by omega
        have hlt' : (k : Int) < (s.size : Int) := by omega
        have hk0' : (0 : Int) ≤ (k : Int) := by omega
        have HK0 : Hid (k = 0) := hk0
        clear hk0
        go_wp2
        go_region_held3 (fun _ => True) (trivial) ((refine step_append_lies _ (by rfl) _ _ _ (by rfl) w.heap.size 5 i0 _ 1 1 Tryd.underlying22 hi hz0 hz1 hz2 rfl (by omega) u3 (macl (bt s) k).length ((macl (bt s) k).map (.int .u8)) (by rfl) ((World.ownsRow.alloc hO.out _).drew) ⟨wr.heap.size, 0, none⟩ 2 2 [.int .u8 (hx (bt s k / 16)), .int .u8 (hx (bt s k % 16))] (by rfl) (by rfl) (World.news_of_block (cs := #[.int .u8 (hx (bt s k / 16)), .int .u8 (hx (bt s k % 16))]) (t := 5) (fr := (0, 0)) (heap_alloc_new wr _)) (by simp [Value.oneCell']) (by omega) (by unfold maxLen; omega) (by omega) (by have := hB.out.size; simp; omega) (wr.heap.size + 1) (by simp) ?_; intro g cap w1 hown1 hgrow hat hltt))
        all_goals
          have HO : Hid (OwnL 5 w1 w.heap.size (.slice (some ⟨g, 0, none⟩) ((macl (bt s) k).length + 2) cap) (macl (bt s) (k + 1))) := by
            show OwnL _ _ _ _ _
            rw [HK0.out, macl_first]
            rw [HK0.out] at hown1
            exact hown1
          have HB2 : Hid (Below w.heap.size w w1) := ((hB.out.alloc hB.out.size _).drew).grown hgrow (by have := hB.out.size; simp; omega) (fun q hq => (World.ownsRow.lt hO.out q hq).1)
          clear hown1 hgrow hat hltt
          go_wp2
          go_roundw
          case rel => exact ⟨k + 1, by omega, by go_num, HO.out, HB2.out⟩
          case measure => simp [intOf]; omega
      · have ht : decide (0 < k) = true := by simp; omega
        have ht' : 0 < k := by omega
        have hlt' : (k : Int) < (s.size : Int) := by omega
        have hk0' : (0 : Int) ≤ (k : Int) := by omega
        clear hk0
        go_wp2_with (at_builtin; refine wpList_append_lies _ rfl _ _ 22 rfl w.heap.size 5 i0 (.int .u8 0) 1 1 Tryd.underlying22 hi hz0 hz1 hz2 rfl (by decide) u3 (macl (bt s) k).length ((macl (bt s) k).map (.int .u8)) rfl (World.ownsRow.alloc hO.out _) ⟨wr.heap.size, 0, none⟩ 1 1 [.int .u8 58] rfl rfl (cell_one_new _ _ _) (by simp [Value.oneCell']) (by omega) (by unfold maxLen; omega) (by omega) (by have := hB.out.size; simp; omega) (wr.heap.size + 1) (by simp) ?_; intro g1 cap1 w1 hown1 hgrow1 hat1 hlt1)
        have O1 : Hid (w1.ownsRow w.heap.size 5 1 (.slice (some ⟨g1, 0, none⟩) ((macl (bt s) k).length + 1) cap1) ((macl (bt s) k).length + 1) ((macl (bt s) k).map (.int .u8) ++ [.int .u8 58])) := hown1
        have B1 : Hid (Below w.heap.size w w1) := (hB.out.alloc hB.out.size _).grown hgrow1 (by have := hB.out.size; simp; omega) (fun q hq => (World.ownsRow.lt hO.out q hq).1)
        clear hown1 hgrow1 hat1 hlt1
        go_region_held3 (fun _ => True) (trivial) ((refine step_append_lies _ (by rfl) _ _ _ (by rfl) w.heap.size 5 i0 _ 1 1 Tryd.underlying22 hi hz0 hz1 hz2 rfl (by omega) (.slice (some ⟨g1, 0, none⟩) ((macl (bt s) k).length + 1) cap1) ((macl (bt s) k).length + 1) ((macl (bt s) k).map (.int .u8) ++ [.int .u8 58]) (by rfl) ((World.ownsRow.alloc O1.out _).drew) ⟨w1.heap.size, 0, none⟩ 2 2 [.int .u8 (hx (bt s k / 16)), .int .u8 (hx (bt s k % 16))] (by rfl) (by rfl) (World.news_of_block (cs := #[.int .u8 (hx (bt s k / 16)), .int .u8 (hx (bt s k % 16))]) (t := 5) (fr := (0, 0)) (heap_alloc_new w1 _)) (by simp [Value.oneCell']) (by omega) (by unfold maxLen; omega) (by omega) (by have := B1.out.size; simp; omega) (w1.heap.size + 1) (by simp) ?_; intro g cap w2 hown2 hgrow2 hat2 hlt2))
        all_goals
          have HO : Hid (OwnL 5 w2 w.heap.size (.slice (some ⟨g, 0, none⟩) ((macl (bt s) k).length + 1 + 2) cap) (macl (bt s) (k + 1))) := by
            show OwnL _ _ _ _ _
            rw [macl_next _ _ ht']
            unfold OwnL
            simpa using hown2
          have HB2 : Hid (Below w.heap.size w w2) := ((B1.out.alloc B1.out.size _).drew).grown hgrow2 (by have := B1.out.size; simp; omega) (fun q hq => (World.ownsRow.lt O1.out q hq).1)
          clear hown2 hgrow2 hat2 hlt2
          go_wp2
          go_roundw
          case rel => exact ⟨k + 1, by omega, by go_num, HO.out, HB2.out⟩
          case measure => simp [intOf]; omega
    · have hlen6 : Hid (macl (bt s) k = macl (bt s) 6) := by
        show _ = _
        rw [show k = 6 by omega]
      obtain ⟨a, cap, hv, hby, -⟩ := OwnL.slice hO.out (macl_bd (bt s) k)
      have hc := conv_own (P := Tryd.prog) wr 22 9 5 Tryd.underlying22 Tryd.underlying5 Tryd.underlying9 a cap _ hby
      subst hv
      clear hby
      go_wp2
      go_ret
      exact ⟨by rw [← hlen6.out]; rfl, hB.out⟩

theorem isMac_a (s : ByteArray) (q : Bool) (hq : ((s.size : Int) == 6) = q) (w : World) : Calls Tryd.prog 34 #[.string s] w fun e w' => e = .returned (.bool q) ∧ w' = w := by
  go_enter Tryd.func34, Tryd.ntmps34
  go_wp2
  go_ret
  exact ⟨rfl, rfl⟩
set_option maxHeartbeats 1000000 in
set_option maxRecDepth 100000 in
theorem macText_yes (s : ByteArray) (w : World) (hs : s.size = 6) :
    Calls Tryd.prog 10 #[.string s] w fun e w' => e = .returned (.tuple #[.string (strOfNums (macl (bt s) 6)), .int .i64 0]) ∧ Below w.heap.size w w' := by
  obtain ⟨i0, hi, hz0, hz1, hz2⟩ := info_parts Tryd.infoByte
  have hb := get_bt s
  have hbx : ∀ (n : Nat) (h : n < (⟨#[48, 49, 50, 51, 52, 53, 54, 55, 56, 57, 97, 98, 99, 100, 101, 102]⟩ : ByteArray).size), (((⟨#[48, 49, 50, 51, 52, 53, 54, 55, 56, 57, 97, 98, 99, 100, 101, 102]⟩ : ByteArray)[n]'h).toNat : Int) = bt hexs n := get_bt hexs
  have hs1 : s.size ≤ 6 := by omega
  have hs2 : 6 ≤ s.size := by omega
  have HS : Hid (s.size = 6) := hs
  clear hs
  have hmk : ∀ w : World, (Instr.makeSlice 22 (.int .i64 0) (.int .i64 17)).run Tryd.prog w = .ok (.slice (some ⟨w.heap.size, 0, none⟩) 0 17) (w.alloc (.cells #[.int .u8 0, .int .u8 0, .int .u8 0, .int .u8 0, .int .u8 0, .int .u8 0, .int .u8 0, .int .u8 0, .int .u8 0, .int .u8 0, .int .u8 0, .int .u8 0, .int .u8 0, .int .u8 0, .int .u8 0, .int .u8 0, .int .u8 0] 5)) := fun _ => by kernel_rfl
  have hne : ((s.size : Int) != 6) = false := by simp; omega
  have HM : Hid (∀ w, Calls Tryd.prog 34 #[.string s] w fun e w' => e = .returned (.bool true) ∧ w' = w) := fun w => isMac_a s true (by simp; omega) w
  go_enter Tryd.func10, Tryd.ntmps10
  go_wp2_with fail
  refine (HM.out _).mono ?_
  rintro e w1m ⟨rfl, hw1m⟩
  rw [hw1m]
  clear hw1m w1m
  go_wp2
  go_loopw [4, 15] (fun v i wr => ∃ k : Nat, k ≤ 6 ∧ i = .int .i64 k ∧ OwnL 5 wr w.heap.size v (macl (bt s) k) ∧ Below w.heap.size w wr) (fun _ i _ => 6 - (intOf i).toNat)
  case atStart => exact ⟨0, Nat.zero_le _, rfl, World.ownsRow_made w #[.int .u8 0, .int .u8 0, .int .u8 0, .int .u8 0, .int .u8 0, .int .u8 0, .int .u8 0, .int .u8 0, .int .u8 0, .int .u8 0, .int .u8 0, .int .u8 0, .int .u8 0, .int .u8 0, .int .u8 0, .int .u8 0, .int .u8 0] 17 (Nat.le_refl _) (by unfold maxLen; omega) rfl, (Below.refl _ _).alloc (Nat.le_refl _) _⟩
  case round =>
    obtain ⟨k, hk, rfl, hown, hnx⟩ := hrel
    clear hmk
    have hB : Hid (Below w.heap.size w wr) := hnx
    have hO : Hid (OwnL 5 wr w.heap.size u4 (macl (bt s) k)) := hown
    have hlen := macl_len (bt s) k
    clear hnx hown
    have h0 := bt_nonneg s k
    have h1 := bt_le s k
    by_cases hlt : k < 6
    · have hand := u8_and15 (bt s k) h0 h1
      have q1 : 0 ≤ bt s k / 16 := by omega
      have q2 : bt s k / 16 < 16 := by omega
      have q3 : 0 ≤ bt s k % 16 := by omega
      have q4 : bt s k % 16 < 16 := by omega
      by_cases hk0 : k = 0
      · have ht : decide (0 < k) = false := by simp; omega
        have ht' : k < 1 := by omega
        have hlt' : (k : Int) < (s.size : Int) := by omega
        have hk0' : (0 : Int) ≤ (k : Int) := by omega
        have HK0 : Hid (k = 0) := hk0
        clear hk0
        go_wp2
        go_region_held3 (fun _ => True) (trivial) ((refine step_append_lies _ (by rfl) _ _ _ (by rfl) w.heap.size 5 i0 _ 1 1 Tryd.underlying22 hi hz0 hz1 hz2 rfl (by omega) u4 (macl (bt s) k).length ((macl (bt s) k).map (.int .u8)) (by rfl) ((World.ownsRow.alloc hO.out _).drew) ⟨wr.heap.size, 0, none⟩ 2 2 [.int .u8 (hx (bt s k / 16)), .int .u8 (hx (bt s k % 16))] (by rfl) (by rfl) (World.news_of_block (cs := #[.int .u8 (hx (bt s k / 16)), .int .u8 (hx (bt s k % 16))]) (t := 5) (fr := (0, 0)) (heap_alloc_new wr _)) (by simp [Value.oneCell']) (by omega) (by unfold maxLen; omega) (by omega) (by have := hB.out.size; simp; omega) (wr.heap.size + 1) (by simp) ?_; intro g cap w1 hown1 hgrow hat hltt))
        all_goals
          have HO : Hid (OwnL 5 w1 w.heap.size (.slice (some ⟨g, 0, none⟩) ((macl (bt s) k).length + 2) cap) (macl (bt s) (k + 1))) := by
            show OwnL _ _ _ _ _
            rw [HK0.out, macl_first]
            rw [HK0.out] at hown1
            exact hown1
          have HB2 : Hid (Below w.heap.size w w1) := ((hB.out.alloc hB.out.size _).drew).grown hgrow (by have := hB.out.size; simp; omega) (fun q hq => (World.ownsRow.lt hO.out q hq).1)
          clear hown1 hgrow hat hltt
          go_wp2
          go_roundw
          case rel => exact ⟨k + 1, by omega, by go_num, HO.out, HB2.out⟩
          case measure => simp [intOf]; omega
      · have ht : decide (0 < k) = true := by simp; omega
        have ht' : 0 < k := by omega
        have hlt' : (k : Int) < (s.size : Int) := by omega
        have hk0' : (0 : Int) ≤ (k : Int) := by omega
        clear hk0
        go_wp2_with (at_builtin; refine wpList_append_lies _ rfl _ _ 22 rfl w.heap.size 5 i0 (.int .u8 0) 1 1 Tryd.underlying22 hi hz0 hz1 hz2 rfl (by decide) u4 (macl (bt s) k).length ((macl (bt s) k).map (.int .u8)) rfl (World.ownsRow.alloc hO.out _) ⟨wr.heap.size, 0, none⟩ 1 1 [.int .u8 58] rfl rfl (cell_one_new _ _ _) (by simp [Value.oneCell']) (by omega) (by unfold maxLen; omega) (by omega) (by have := hB.out.size; simp; omega) (wr.heap.size + 1) (by simp) ?_; intro g1 cap1 w1 hown1 hgrow1 hat1 hlt1)
        have O1 : Hid (w1.ownsRow w.heap.size 5 1 (.slice (some ⟨g1, 0, none⟩) ((macl (bt s) k).length + 1) cap1) ((macl (bt s) k).length + 1) ((macl (bt s) k).map (.int .u8) ++ [.int .u8 58])) := hown1
        have B1 : Hid (Below w.heap.size w w1) := (hB.out.alloc hB.out.size _).grown hgrow1 (by have := hB.out.size; simp; omega) (fun q hq => (World.ownsRow.lt hO.out q hq).1)
        clear hown1 hgrow1 hat1 hlt1
        go_region_held3 (fun _ => True) (trivial) ((refine step_append_lies _ (by rfl) _ _ _ (by rfl) w.heap.size 5 i0 _ 1 1 Tryd.underlying22 hi hz0 hz1 hz2 rfl (by omega) (.slice (some ⟨g1, 0, none⟩) ((macl (bt s) k).length + 1) cap1) ((macl (bt s) k).length + 1) ((macl (bt s) k).map (.int .u8) ++ [.int .u8 58]) (by rfl) ((World.ownsRow.alloc O1.out _).drew) ⟨w1.heap.size, 0, none⟩ 2 2 [.int .u8 (hx (bt s k / 16)), .int .u8 (hx (bt s k % 16))] (by rfl) (by rfl) (World.news_of_block (cs := #[.int .u8 (hx (bt s k / 16)), .int .u8 (hx (bt s k % 16))]) (t := 5) (fr := (0, 0)) (heap_alloc_new w1 _)) (by simp [Value.oneCell']) (by omega) (by unfold maxLen; omega) (by omega) (by have := B1.out.size; simp; omega) (w1.heap.size + 1) (by simp) ?_; intro g cap w2 hown2 hgrow2 hat2 hlt2))
        all_goals
          have HO : Hid (OwnL 5 w2 w.heap.size (.slice (some ⟨g, 0, none⟩) ((macl (bt s) k).length + 1 + 2) cap) (macl (bt s) (k + 1))) := by
            show OwnL _ _ _ _ _
            rw [macl_next _ _ ht']
            unfold OwnL
            simpa using hown2
          have HB2 : Hid (Below w.heap.size w w2) := ((B1.out.alloc B1.out.size _).drew).grown hgrow2 (by have := B1.out.size; simp; omega) (fun q hq => (World.ownsRow.lt O1.out q hq).1)
          clear hown2 hgrow2 hat2 hlt2
          go_wp2
          go_roundw
          case rel => exact ⟨k + 1, by omega, by go_num, HO.out, HB2.out⟩
          case measure => simp [intOf]; omega
    · have hlen6 : Hid (macl (bt s) k = macl (bt s) 6) := by
        show _ = _
        rw [show k = 6 by omega]
      obtain ⟨a, cap, hv, hby, -⟩ := OwnL.slice hO.out (macl_bd (bt s) k)
      have hc := conv_own (P := Tryd.prog) wr 22 9 5 Tryd.underlying22 Tryd.underlying5 Tryd.underlying9 a cap _ hby
      subst hv
      clear hby
      go_wp2
      go_ret2
      exact ⟨by rw [← hlen6.out]; rfl, hB.out⟩

theorem l01Mac_any (s : ByteArray) (w : World) : Calls Tryd.prog 35 #[.string s] w fun e w' => e = .returned (.bool ((s.size : Int) == 6)) ∧ w' = w := by
  go_enter Tryd.func35, Tryd.ntmps35
  go_wp2
  go_ret
  exact ⟨rfl, rfl⟩

theorem specMacText_yes (s : ByteArray) (w : World) (hs : s.size = 6) :
    Calls Tryd.prog 11 #[.string s] w fun e w' => e = .returned (.tuple #[.string (strOfNums (macl (bt s) 6)), .int .i64 0]) ∧ Below w.heap.size w w' := by
  have h1 : s.size ≤ 6 := by omega
  have hq : ((s.size : Int) == 6) = true := by simp; omega
  have HS : Hid (s.size = 6) := hs
  clear hs
  go_enter Tryd.func11, Tryd.ntmps11
  go_wp2_with fail
  refine (l01Mac_any _ _).mono ?_
  rintro e w' ⟨rfl, hw⟩
  subst hw
  go_wp2_with fail
  refine (l01MacText_any _ _ HS.out).mono ?_
  rintro e w1 ⟨rfl, hb⟩
  go_wp2
  go_ret2
  exact ⟨rfl, hb⟩

theorem specMacText_no (s : ByteArray) (w : World) (hs : s.size ≠ 6) (hl : s.size ≤ 65536) :
    Calls Tryd.prog 11 #[.string s] w fun e w' => e = .returned (.tuple #[.string ⟨#[]⟩, .int .i64 4]) ∧ w' = w := by
  have hq : ((s.size : Int) == 6) = false := by simp; omega
  go_enter Tryd.func11, Tryd.ntmps11
  go_wp2_with fail
  refine (l01Mac_any _ _).mono ?_
  rintro e w' ⟨rfl, hw⟩
  subst hw
  go_wp2
  go_ret2
  exact ⟨rfl, rfl⟩
theorem specMacText_long (s : ByteArray) (w : World) (hl : 65536 < s.size) :
    Calls Tryd.prog 11 #[.string s] w fun e w' => e = .returned (.tuple #[.string ⟨#[]⟩, .int .i64 2]) ∧ w' = w := by
  go_enter Tryd.func11, Tryd.ntmps11
  go_wp2
  go_ret2
  exact ⟨rfl, rfl⟩
theorem macText_no (s : ByteArray) (w : World) (hs : s.size ≠ 6) (hl : s.size ≤ 65536) :
    Calls Tryd.prog 10 #[.string s] w fun e w' => e = .returned (.tuple #[.string ⟨#[]⟩, .int .i64 4]) ∧ w' = w := by
  have hq : ((s.size : Int) != 6) = true := by simp; omega
  have HM : Hid (∀ w, Calls Tryd.prog 34 #[.string s] w fun e w' => e = .returned (.bool false) ∧ w' = w) := fun w => isMac_a s false (by simp; omega) w
  go_enter Tryd.func10, Tryd.ntmps10
  go_wp2_with fail
  refine (HM.out _).mono ?_
  rintro e w1m ⟨rfl, hw1m⟩
  rw [hw1m]
  clear hw1m w1m
  go_wp2
  go_ret2
  exact ⟨rfl, rfl⟩
theorem macText_long (s : ByteArray) (w : World) (hl : 65536 < s.size) :
    Calls Tryd.prog 10 #[.string s] w fun e w' => e = .returned (.tuple #[.string ⟨#[]⟩, .int .i64 2]) ∧ w' = w := by
  go_enter Tryd.func10, Tryd.ntmps10
  go_wp2
  go_ret2
  exact ⟨rfl, rfl⟩

theorem macText_both (s : ByteArray) : ∃ (t : ByteArray) (c : Int), (∀ w, Calls Tryd.prog 11 #[.string s] w fun e w' => e = .returned (.tuple #[.string t, .int .i64 c]) ∧ Below w.heap.size w w') ∧
    ∀ w, Calls Tryd.prog 10 #[.string s] w fun e w' => e = .returned (.tuple #[.string t, .int .i64 c]) ∧ Below w.heap.size w w' := by
  by_cases hl : 65536 < s.size
  · exact ⟨⟨#[]⟩, 2, fun w => (specMacText_long s w hl).mono fun e w' h => ⟨h.1, h.2 ▸ Below.refl _ _⟩, fun w => (macText_long s w hl).mono fun e w' h => ⟨h.1, h.2 ▸ Below.refl _ _⟩⟩
  by_cases h6 : s.size = 6
  · exact ⟨_, 0, fun w => specMacText_yes s w h6, fun w => macText_yes s w h6⟩
  · exact ⟨⟨#[]⟩, 4, fun w => (specMacText_no s w h6 (by omega)).mono fun e w' h => ⟨h.1, h.2 ▸ Below.refl _ _⟩, fun w => (macText_no s w h6 (by omega)).mono fun e w' h => ⟨h.1, h.2 ▸ Below.refl _ _⟩⟩

end Go.Proofs.YtcgdpijmfgkalaaDoor
