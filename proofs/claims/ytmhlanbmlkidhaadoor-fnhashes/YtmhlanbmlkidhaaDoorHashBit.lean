/- HashBits, the program's and the model's: eight signs a byte; the walk of its law. -/
import Derived.Test.YtmhlanbmlkidhaaDoorProg
import Derived.Test.YtmhlanbmlkidhaaDoorMac
import Derived.Test.YtmhlanbmlkidhaaDoorApp
namespace Go.Proofs.YtmhlanbmlkidhaaDoor
open Go.RowKit Go.PlainAid
set_option linter.unusedVariables false
set_option maxRecDepth 20000

/-- The sign of the bit that stands j places from the highest one of byte x. -/
def sgn (x : Int) (j : Nat) : Int := 48 + x / 2 ^ (7 - j) % 2
theorem sgn_bd (x : Int) (j : Nat) : 0 ≤ sgn x j ∧ sgn x j ≤ 255 := by unfold sgn; omega
/-- The signs of the first k bytes, and j of the next. -/
def btl (f : Nat → Int) : Nat → List Int
  | 0 => []
  | n + 1 => btl f n ++ [sgn (f (n / 8)) (n % 8)]
theorem btl_len (f : Nat → Int) : ∀ k : Nat, (btl f k).length = k
  | 0 => rfl
  | k + 1 => by rw [btl, List.length_append, btl_len f k]; rfl
theorem btl_bd (f : Nat → Int) : ∀ k : Nat, ∀ x ∈ btl f k, 0 ≤ x ∧ x ≤ 255
  | 0 => fun x hx => by cases hx
  | k + 1 => by
    intro x hx'
    rw [btl, List.mem_append] at hx'
    rcases hx' with h | h
    · exact btl_bd f k x h
    · rw [List.mem_singleton] at h; subst h; exact sgn_bd _ _
theorem btl_step (f : Nat → Int) (k j : Nat) (hj : j < 8) : btl f (8 * k + j + 1) = btl f (8 * k + j) ++ [sgn (f k) j] := by
  rw [btl, show (8 * k + j) / 8 = k by omega, show (8 * k + j) % 8 = j by omega]
theorem u8_and1 (n : Int) (h0 : 0 ≤ n) (h1 : n ≤ 255) : bits BinOp.and IntKind.u8 n 1 = n % 2 := by
  rw [u8_and n 1 h0 (by omega) (by omega) (by omega)]
  show ((n.toNat &&& 1 : Nat) : Int) = _
  rw [Nat.and_one_is_mod]
  omega
theorem shr_bd (x : Int) (j : Nat) (h0 : 0 ≤ x) (h1 : x ≤ 255) : 0 ≤ x / 2 ^ j ∧ x / 2 ^ j ≤ 255 := by
  have hp : (0 : Int) < 2 ^ j := Int.pow_pos (by omega)
  exact ⟨Int.ediv_nonneg h0 (by omega), Int.le_trans (Int.ediv_le_self _ h0) h1⟩

set_option maxHeartbeats 1000000 in
set_option maxRecDepth 100000 in
theorem l04Bits_any (s : ByteArray) (w : World) (hs : s.size = 32) :
    Calls Tryd.prog 60 #[.string s] w fun e w' => e = .returned (.string (strOfNums (btl (bt s) 256))) ∧ Below w.heap.size w w' := by
  obtain ⟨i0, hi, hz0, hz1, hz2⟩ := info_parts Tryd.infoByte
  have hb := get_bt s
  have hs1 : s.size ≤ 32 := by omega
  have hs2 : 32 ≤ s.size := by omega
  have hne : ((s.size : Int) != 32) = false := by simp; omega
  clear hs
  go_enter Tryd.func60, Tryd.ntmps60
  go_wp2
  go_loopw [3, 4] (fun v i wr => ∃ k : Nat, k ≤ 32 ∧ i = .int .i64 k ∧ OwnL 5 wr w.heap.size v (btl (bt s) (8 * k)) ∧ Below w.heap.size w wr) (fun _ i _ => 32 - (intOf i).toNat)
  case atStart => exact ⟨0, Nat.zero_le _, rfl, World.ownsRow_made w #[] 0 (Nat.le_refl _) (Nat.zero_le _) rfl, (Below.refl _ _).alloc (Nat.le_refl _) _⟩
  case round =>
    obtain ⟨k, hk, rfl, hown, hnx⟩ := hrel
    have hB : Hid (Below w.heap.size w wr) := hnx
    have hO : Hid (OwnL 5 wr w.heap.size u3 (btl (bt s) (8 * k))) := hown
    clear hnx hown
    have h0 := bt_nonneg s k
    have h1 := bt_le s k
    by_cases hlt : k < 32
    · have hlt' : k < s.size := by omega
      go_wp2
      go_loopw [3, 5] (fun v j wr => ∃ m : Nat, m ≤ 8 ∧ j = .int .i64 (7 - (m : Int)) ∧ OwnL 5 wr w.heap.size v (btl (bt s) (8 * k + m)) ∧ Below w.heap.size w wr) (fun _ j _ => (intOf j + 1).toNat)
      case atStart => exact ⟨0, Nat.zero_le _, rfl, hO.out, hB.out⟩
      case round =>
        clear hB hO
        obtain ⟨m, hm, rfl, hown, hnx⟩ := hrel
        have hB : Hid (Below w.heap.size w wr) := hnx
        have hO : Hid (OwnL 5 wr w.heap.size u3 (btl (bt s) (8 * k + m))) := hown
        have hlen : (btl (bt s) (8 * k + m)).length ≤ 8 * k + m := Nat.le_of_eq (btl_len _ _)
        clear hnx hown
        by_cases hmt : m < 8
        · obtain ⟨j, hj⟩ : ∃ j : Nat, m = 7 - j ∧ j ≤ 7 := ⟨7 - m, by omega, by omega⟩
          obtain ⟨hj, hj7⟩ := hj
          have ej : (7 - (m : Int)) = (j : Int) := by omega
          have HJ : Hid (7 - m = j) := by show 7 - m = j; omega
          have HT : Hid (m + 1 ≤ 8 ∧ ((7 - ((m + 1 : Nat) : Int)) = (j : Int) - 1)) := ⟨by omega, by omega⟩
          rw [ej]
          clear hj ej
          have sb := shr_bd (bt s k) j h0 h1
          have sa := u8_and1 (bt s k / 2 ^ j) sb.1 sb.2
          have sm : min j 8 = j := by omega
          have sw : IntKind.u8.wrap (48 + bt s k / 2 ^ j % 2) = 48 + bt s k / 2 ^ j % 2 := by rw [IntKind.wrap_u8]; omega
          have jw : IntKind.u64.wrap (j : Int) = j := by rw [IntKind.wrap_u64]; omega
          go_wp2_with (at_builtin; refine wpList_append_lies _ rfl _ _ 22 rfl w.heap.size 5 i0 (.int .u8 0) 1 1 Tryd.underlying22 hi hz0 hz1 hz2 rfl (by decide) u3 (btl (bt s) (8 * k + m)).length ((btl (bt s) (8 * k + m)).map (.int .u8)) rfl (World.ownsRow.alloc hO.out _) ⟨_, 0, none⟩ 1 1 [.int .u8 (48 + bt s k / 2 ^ j % 2)] rfl rfl (cell_one_new _ _ _) (by simp [Value.oneCell']) (by omega) (by unfold maxLen; omega) (by omega) (by have := hB.out.size; simp; omega) _ rfl ?_; intro g1 cap1 w1 hown1 hgrow1 hat1 hlt1)
          have HO : Hid (OwnL 5 w1 w.heap.size (.slice (some ⟨g1, 0, none⟩) ((btl (bt s) (8 * k + m)).length + 1) cap1) (btl (bt s) (8 * k + (m + 1)))) := by
            show OwnL _ _ _ _ _
            rw [← Nat.add_assoc, btl_step _ _ _ hmt, sgn, HJ.out]
            exact OwnL.snoc hown1
          have HB2 : Hid (Below w.heap.size w w1) := (hB.out.alloc hB.out.size _).grown hgrow1 (by have := hB.out.size; simp; omega) (fun q hq => (World.ownsRow.lt hO.out q hq).1)
          clear hown1 hgrow1 hat1 hlt1
          go_wp2
          go_roundw
          case rel => exact ⟨m + 1, HT.out.1, by rw [HT.out.2], HO.out, HB2.out⟩
          case measure => (simp [intOf]; try omega)
        · have em : m = 8 := by omega
          subst em
          go_wp2
          go_roundw
          case rel => exact ⟨k + 1, by omega, by go_num, hO.out, hB.out⟩
          case measure => simp [intOf]; omega
    · have e9 : ¬ k < s.size := by omega
      have ek : k = 32 := by omega
      subst ek
      obtain ⟨a, cap, hv, hby, -⟩ := OwnL.slice hO.out (btl_bd (bt s) 256)
      have hc := conv_own (P := Tryd.prog) wr 22 9 5 Tryd.underlying22 Tryd.underlying5 Tryd.underlying9 a cap _ hby
      subst hv
      clear hby
      go_wp2
      go_ret
      exact ⟨rfl, hB.out⟩

set_option maxHeartbeats 1000000 in
set_option maxRecDepth 100000 in
theorem hashBits_yes (s : ByteArray) (w : World) (hs : s.size = 32) :
    Calls Tryd.prog 20 #[.string s] w fun e w' => e = .returned (.tuple #[.string (strOfNums (btl (bt s) 256)), .int .i64 0]) ∧ Below w.heap.size w w' := by
  obtain ⟨i0, hi, hz0, hz1, hz2⟩ := info_parts Tryd.infoByte
  have hb := get_bt s
  have hs1 : s.size ≤ 32 := by omega
  have hs2 : 32 ≤ s.size := by omega
  have hne : ((s.size : Int) != 32) = false := by simp; omega
  clear hs
  obtain ⟨MC, hM⟩ := make_room 256 (by omega)
  have hmk : ∀ w : World, (Instr.makeSlice 22 (.int .i64 0) (.int .i64 256)).run Tryd.prog w = .ok (.slice (some ⟨w.heap.size, 0, none⟩) 0 256) (w.alloc (.cells MC 5)) := fun w => (hM w).1
  have HM : Hid (∀ w : World, OwnL 5 (w.alloc (.cells MC 5)) w.heap.size (.slice (some ⟨w.heap.size, 0, none⟩) 0 256) []) := fun w => (hM w).2
  clear hM
  go_enter Tryd.func20, Tryd.ntmps20
  go_wp2
  go_loopw [4, 16] (fun v i wr => ∃ k : Nat, k ≤ 32 ∧ i = .int .i64 k ∧ OwnL 5 wr w.heap.size v (btl (bt s) (8 * k)) ∧ Below w.heap.size w wr) (fun _ i _ => 32 - (intOf i).toNat)
  case atStart => exact ⟨0, Nat.zero_le _, rfl, HM.out w, (Below.refl _ _).alloc (Nat.le_refl _) _⟩
  case round =>
    obtain ⟨k, hk, rfl, hown, hnx⟩ := hrel
    clear hmk HM
    have hB : Hid (Below w.heap.size w wr) := hnx
    have hO : Hid (OwnL 5 wr w.heap.size u4 (btl (bt s) (8 * k))) := hown
    clear hnx hown
    have h0 := bt_nonneg s k
    have h1 := bt_le s k
    by_cases hlt : k < 32
    · have hlt' : k < s.size := by omega
      go_wp2
      go_loopw [4, 6] (fun v j wr => ∃ m : Nat, m ≤ 8 ∧ j = .int .i64 (7 - (m : Int)) ∧ OwnL 5 wr w.heap.size v (btl (bt s) (8 * k + m)) ∧ Below w.heap.size w wr) (fun _ j _ => (intOf j + 1).toNat)
      case atStart => exact ⟨0, Nat.zero_le _, rfl, hO.out, hB.out⟩
      case round =>
        clear hB hO
        obtain ⟨m, hm, rfl, hown, hnx⟩ := hrel
        have hB : Hid (Below w.heap.size w wr) := hnx
        have hO : Hid (OwnL 5 wr w.heap.size u4 (btl (bt s) (8 * k + m))) := hown
        have hlen : (btl (bt s) (8 * k + m)).length ≤ 8 * k + m := Nat.le_of_eq (btl_len _ _)
        clear hnx hown
        by_cases hmt : m < 8
        · obtain ⟨j, hj⟩ : ∃ j : Nat, m = 7 - j ∧ j ≤ 7 := ⟨7 - m, by omega, by omega⟩
          obtain ⟨hj, hj7⟩ := hj
          have ej : (7 - (m : Int)) = (j : Int) := by omega
          have HJ : Hid (7 - m = j) := by show 7 - m = j; omega
          have HT : Hid (m + 1 ≤ 8 ∧ ((7 - ((m + 1 : Nat) : Int)) = (j : Int) - 1)) := ⟨by omega, by omega⟩
          rw [ej]
          clear hj ej
          have sb := shr_bd (bt s k) j h0 h1
          have sa := u8_and1 (bt s k / 2 ^ j) sb.1 sb.2
          have sm : min j 8 = j := by omega
          have sw : IntKind.u8.wrap (48 + bt s k / 2 ^ j % 2) = 48 + bt s k / 2 ^ j % 2 := by rw [IntKind.wrap_u8]; omega
          have jw : IntKind.u64.wrap (j : Int) = j := by rw [IntKind.wrap_u64]; omega
          go_wp2_with (at_builtin; refine wpList_append_lies _ rfl _ _ 22 rfl w.heap.size 5 i0 (.int .u8 0) 1 1 Tryd.underlying22 hi hz0 hz1 hz2 rfl (by decide) u4 (btl (bt s) (8 * k + m)).length ((btl (bt s) (8 * k + m)).map (.int .u8)) rfl (World.ownsRow.alloc hO.out _) ⟨_, 0, none⟩ 1 1 [.int .u8 (48 + bt s k / 2 ^ j % 2)] rfl rfl (cell_one_new _ _ _) (by simp [Value.oneCell']) (by omega) (by unfold maxLen; omega) (by omega) (by have := hB.out.size; simp; omega) _ rfl ?_; intro g1 cap1 w1 hown1 hgrow1 hat1 hlt1)
          have HO : Hid (OwnL 5 w1 w.heap.size (.slice (some ⟨g1, 0, none⟩) ((btl (bt s) (8 * k + m)).length + 1) cap1) (btl (bt s) (8 * k + (m + 1)))) := by
            show OwnL _ _ _ _ _
            rw [← Nat.add_assoc, btl_step _ _ _ hmt, sgn, HJ.out]
            exact OwnL.snoc hown1
          have HB2 : Hid (Below w.heap.size w w1) := (hB.out.alloc hB.out.size _).grown hgrow1 (by have := hB.out.size; simp; omega) (fun q hq => (World.ownsRow.lt hO.out q hq).1)
          clear hown1 hgrow1 hat1 hlt1
          go_wp2
          go_roundw
          case rel => exact ⟨m + 1, HT.out.1, by rw [HT.out.2], HO.out, HB2.out⟩
          case measure => (simp [intOf]; try omega)
        · have em : m = 8 := by omega
          subst em
          go_wp2
          go_roundw
          case rel => exact ⟨k + 1, by omega, by go_num, hO.out, hB.out⟩
          case measure => simp [intOf]; omega
    · have e9 : ¬ k < s.size := by omega
      have ek : k = 32 := by omega
      subst ek
      obtain ⟨a, cap, hv, hby, -⟩ := OwnL.slice hO.out (btl_bd (bt s) 256)
      have hc := conv_own (P := Tryd.prog) wr 22 9 5 Tryd.underlying22 Tryd.underlying5 Tryd.underlying9 a cap _ hby
      subst hv
      clear hby
      go_wp2
      go_ret2
      exact ⟨rfl, hB.out⟩

theorem specHashBits_yes (s : ByteArray) (w : World) (hs : s.size = 32) :
    Calls Tryd.prog 21 #[.string s] w fun e w' => e = .returned (.tuple #[.string (strOfNums (btl (bt s) 256)), .int .i64 0]) ∧ Below w.heap.size w w' := by
  have h1 : s.size ≤ 32 := by omega
  have hne : ((s.size : Int) != 32) = false := by simp; omega
  have HS : Hid (s.size = 32) := hs
  clear hs
  go_enter Tryd.func21, Tryd.ntmps21
  go_wp2_with fail
  refine (l04Bits_any _ _ HS.out).mono ?_
  rintro e w1 ⟨rfl, hb⟩
  go_wp2
  go_ret2
  exact ⟨rfl, hb⟩
theorem specHashBits_no (s : ByteArray) (w : World) (hs : s.size ≠ 32) (hl : s.size ≤ 65536) :
    Calls Tryd.prog 21 #[.string s] w fun e w' => e = .returned (.tuple #[.string ⟨#[]⟩, .int .i64 1]) ∧ w' = w := by
  have hq : ((s.size : Int) != 32) = true := by simp; omega
  go_enter Tryd.func21, Tryd.ntmps21
  go_wp2
  go_ret2
  exact ⟨rfl, rfl⟩
theorem specHashBits_long (s : ByteArray) (w : World) (hl : 65536 < s.size) :
    Calls Tryd.prog 21 #[.string s] w fun e w' => e = .returned (.tuple #[.string ⟨#[]⟩, .int .i64 2]) ∧ w' = w := by
  go_enter Tryd.func21, Tryd.ntmps21
  go_wp2
  go_ret2
  exact ⟨rfl, rfl⟩
theorem hashBits_no (s : ByteArray) (w : World) (hs : s.size ≠ 32) (hl : s.size ≤ 65536) :
    Calls Tryd.prog 20 #[.string s] w fun e w' => e = .returned (.tuple #[.string ⟨#[]⟩, .int .i64 1]) ∧ w' = w := by
  have hq : ((s.size : Int) != 32) = true := by simp; omega
  go_enter Tryd.func20, Tryd.ntmps20
  go_wp2
  go_ret2
  exact ⟨rfl, rfl⟩
theorem hashBits_long (s : ByteArray) (w : World) (hl : 65536 < s.size) :
    Calls Tryd.prog 20 #[.string s] w fun e w' => e = .returned (.tuple #[.string ⟨#[]⟩, .int .i64 2]) ∧ w' = w := by
  go_enter Tryd.func20, Tryd.ntmps20
  go_wp2
  go_ret2
  exact ⟨rfl, rfl⟩

theorem hashBits_both (s : ByteArray) : ∃ (t : ByteArray) (c : Int), (∀ w, Calls Tryd.prog 21 #[.string s] w fun e w' => e = .returned (.tuple #[.string t, .int .i64 c]) ∧ Below w.heap.size w w') ∧
    ∀ w, Calls Tryd.prog 20 #[.string s] w fun e w' => e = .returned (.tuple #[.string t, .int .i64 c]) ∧ Below w.heap.size w w' := by
  by_cases hl : 65536 < s.size
  · exact ⟨⟨#[]⟩, 2, fun w => (specHashBits_long s w hl).mono fun e w' h => ⟨h.1, h.2 ▸ Below.refl _ _⟩, fun w => (hashBits_long s w hl).mono fun e w' h => ⟨h.1, h.2 ▸ Below.refl _ _⟩⟩
  by_cases h6 : s.size = 32
  · exact ⟨_, 0, fun w => specHashBits_yes s w h6, fun w => hashBits_yes s w h6⟩
  · exact ⟨⟨#[]⟩, 1, fun w => (specHashBits_no s w h6 (by omega)).mono fun e w' h => ⟨h.1, h.2 ▸ Below.refl _ _⟩, fun w => (hashBits_no s w h6 (by omega)).mono fun e w' h => ⟨h.1, h.2 ▸ Below.refl _ _⟩⟩

end Go.Proofs.YtmhlanbmlkidhaaDoor
