/- HashText, the program's and the model's: two hexadecimal digits a byte; the walk of its law. -/
import Derived.Test.YtmhlanbmlkidhaaDoorProg
import Derived.Test.YtmhlanbmlkidhaaDoorMac
import Derived.Test.YtmhlanbmlkidhaaDoorApp
namespace Go.Proofs.YtmhlanbmlkidhaaDoor
open Go.RowKit Go.PlainAid
set_option linter.unusedVariables false
set_option maxRecDepth 20000

/-- The digits of the first k bytes. -/
def hxl (f : Nat → Int) : Nat → List Int
  | 0 => []
  | k + 1 => hxl f k ++ [hx (f k / 16), hx (f k % 16)]
theorem hxl_len (f : Nat → Int) : ∀ k : Nat, (hxl f k).length = 2 * k
  | 0 => by simp [hxl]
  | k + 1 => by have := hxl_len f k; simp [hxl]; omega
theorem hxl_bd (f : Nat → Int) : ∀ k : Nat, ∀ x ∈ hxl f k, 0 ≤ x ∧ x ≤ 255
  | 0 => by simp [hxl]
  | k + 1 => by
    have := hxl_bd f k
    intro x hx'
    simp only [hxl, List.mem_append, List.mem_cons, List.not_mem_nil, or_false] at hx'
    rcases hx' with h | h | h
    · exact this x h
    · subst h; exact hx_bd _
    · subst h; exact hx_bd _

set_option maxHeartbeats 1000000 in
set_option maxRecDepth 100000 in
theorem hashText_yes (s : ByteArray) (w : World) (hs : s.size = 32) :
    Calls Tryd.prog 18 #[.string s] w fun e w' => e = .returned (.tuple #[.string (strOfNums (hxl (bt s) 32)), .int .i64 0]) ∧ Below w.heap.size w w' := by
  obtain ⟨i0, hi, hz0, hz1, hz2⟩ := info_parts Tryd.infoByte
  have hb := get_bt s
  have hbx : ∀ (n : Nat) (h : n < (⟨#[48, 49, 50, 51, 52, 53, 54, 55, 56, 57, 97, 98, 99, 100, 101, 102]⟩ : ByteArray).size), (((⟨#[48, 49, 50, 51, 52, 53, 54, 55, 56, 57, 97, 98, 99, 100, 101, 102]⟩ : ByteArray)[n]'h).toNat : Int) = bt hexs n := get_bt hexs
  have hs1 : s.size ≤ 32 := by omega
  have hs2 : 32 ≤ s.size := by omega
  have hne : ((s.size : Int) != 32) = false := by simp; omega
  clear hs
  obtain ⟨MC, hM⟩ := make_room 64 (by omega)
  have hmk : ∀ w : World, (Instr.makeSlice 22 (.int .i64 0) (.int .i64 64)).run Tryd.prog w = .ok (.slice (some ⟨w.heap.size, 0, none⟩) 0 64) (w.alloc (.cells MC 5)) := fun w => (hM w).1
  have HM : Hid (∀ w : World, OwnL 5 (w.alloc (.cells MC 5)) w.heap.size (.slice (some ⟨w.heap.size, 0, none⟩) 0 64) []) := fun w => (hM w).2
  clear hM
  go_enter Tryd.func18, Tryd.ntmps18
  go_wp2
  go_loopw [4, 15] (fun v i wr => ∃ k : Nat, k ≤ 32 ∧ i = .int .i64 k ∧ OwnL 5 wr w.heap.size v (hxl (bt s) k) ∧ Below w.heap.size w wr) (fun _ i _ => 32 - (intOf i).toNat)
  case atStart => exact ⟨0, Nat.zero_le _, rfl, HM.out w, (Below.refl _ _).alloc (Nat.le_refl _) _⟩
  case round =>
    obtain ⟨k, hk, rfl, hown, hnx⟩ := hrel
    clear hmk HM
    have hB : Hid (Below w.heap.size w wr) := hnx
    have hO : Hid (OwnL 5 wr w.heap.size u4 (hxl (bt s) k)) := hown
    have hlen : (hxl (bt s) k).length ≤ 2 * k := Nat.le_of_eq (hxl_len _ _)
    clear hnx hown
    have h0 := bt_nonneg s k
    have h1 := bt_le s k
    by_cases hlt : k < 32
    · have hand := u8_and15 (bt s k) h0 h1
      have q1 : 0 ≤ bt s k / 16 := by omega
      have q2 : bt s k / 16 < 16 := by omega
      have q3 : 0 ≤ bt s k % 16 := by omega
      have q4 : bt s k % 16 < 16 := by omega
      have hlt' : (k : Int) < (s.size : Int) := by omega
      have hk0' : (0 : Int) ≤ (k : Int) := by omega
      go_wp2
      go_region_held3 (fun _ => True) (trivial) ((refine step_append_lies _ (by rfl) _ _ _ (by rfl) w.heap.size 5 i0 _ 1 1 Tryd.underlying22 hi hz0 hz1 hz2 rfl (by omega) u4 (hxl (bt s) k).length ((hxl (bt s) k).map (.int .u8)) (by rfl) ((World.ownsRow.alloc hO.out _).drew) ⟨wr.heap.size, 0, none⟩ 2 2 [.int .u8 (hx (bt s k / 16)), .int .u8 (hx (bt s k % 16))] (by rfl) (by rfl) (World.news_of_block (cs := #[.int .u8 (hx (bt s k / 16)), .int .u8 (hx (bt s k % 16))]) (t := 5) (fr := (0, 0)) (heap_alloc_new wr _)) (by simp [Value.oneCell']) (by omega) (by unfold maxLen; omega) (by omega) (by have := hB.out.size; simp; omega) (wr.heap.size + 1) (by simp) ?_; intro g cap w1 hown1 hgrow hat hltt))
      all_goals
        have HO : Hid (OwnL 5 w1 w.heap.size (.slice (some ⟨g, 0, none⟩) ((hxl (bt s) k).length + 2) cap) (hxl (bt s) (k + 1))) := by
          show OwnL _ _ _ _ _
          unfold OwnL
          simpa [hxl] using hown1
        have HB2 : Hid (Below w.heap.size w w1) := ((hB.out.alloc hB.out.size _).drew).grown hgrow (by have := hB.out.size; simp; omega) (fun q hq => (World.ownsRow.lt hO.out q hq).1)
        clear hown1 hgrow hat hltt
        go_wp2
        go_roundw
        case rel => exact ⟨k + 1, by omega, by go_num, HO.out, HB2.out⟩
        case measure => simp [intOf]; omega
    · have e9 : ¬ k < s.size := by omega
      have hlen6 : Hid (hxl (bt s) k = hxl (bt s) 32) := by
        show _ = _
        rw [show k = 32 by omega]
      obtain ⟨a, cap, hv, hby, -⟩ := OwnL.slice hO.out (hxl_bd (bt s) k)
      have hc := conv_own (P := Tryd.prog) wr 22 9 5 Tryd.underlying22 Tryd.underlying5 Tryd.underlying9 a cap _ hby
      subst hv
      clear hby
      go_wp2
      go_ret2
      exact ⟨by rw [← hlen6.out]; rfl, hB.out⟩

theorem hashText_no (s : ByteArray) (w : World) (hs : s.size ≠ 32) (hl : s.size ≤ 65536) :
    Calls Tryd.prog 18 #[.string s] w fun e w' => e = .returned (.tuple #[.string ⟨#[]⟩, .int .i64 1]) ∧ w' = w := by
  have hq : ((s.size : Int) != 32) = true := by simp; omega
  go_enter Tryd.func18, Tryd.ntmps18
  go_wp2
  go_ret2
  exact ⟨rfl, rfl⟩
theorem hashText_long (s : ByteArray) (w : World) (hl : 65536 < s.size) :
    Calls Tryd.prog 18 #[.string s] w fun e w' => e = .returned (.tuple #[.string ⟨#[]⟩, .int .i64 2]) ∧ w' = w := by
  go_enter Tryd.func18, Tryd.ntmps18
  go_wp2
  go_ret2
  exact ⟨rfl, rfl⟩

end Go.Proofs.YtmhlanbmlkidhaaDoor
