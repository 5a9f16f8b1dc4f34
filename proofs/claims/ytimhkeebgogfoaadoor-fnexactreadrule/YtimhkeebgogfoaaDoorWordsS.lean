/- The model's l00Words: the words of a text. -/
import Derived.Test.YtimhkeebgogfoaaDoorBlk
import Derived.Test.YtimhkeebgogfoaaDoorCut
namespace Go.Proofs.YtimhkeebgogfoaaDoor.Bl
open Go.RowKit Go.PlainAid Go.Proofs.YtimhkeebgogfoaaDoor
set_option linter.unusedVariables false
set_option maxRecDepth 20000
set_option maxHeartbeats 2000000 in
theorem l00Words_any (s : ByteArray) (w : World) (hs : s.size ≤ 1048576) :
    Calls Tryd.prog 70 #[.string s] w fun e w' => ∃ (g c : Nat) (ps : List ByteArray), e = .returned (.slice (some ⟨g, 0, none⟩) ps.length c) ∧ OwnS w' w.heap.size (.slice (some ⟨g, 0, none⟩) ps.length c) ps ∧ ps.map (·.data.toList) = wb s.data.toList ∧ Below w.heap.size w w' := by
  obtain ⟨i0, hi, hz0, hz1, hz2⟩ := info_parts Tryd.infoS
  have hb := get_bt s
  go_enter Tryd.func70, Tryd.ntmps70
  go_wp2
  go_loopw [3, 4, 5] (fun v fr i wr => ∃ (g c : Nat) (ps : List ByteArray) (f k : Nat), v = .slice (some ⟨g, 0, none⟩) ps.length c ∧ fr = .int .i64 f ∧ i = .int .i64 k ∧ f ≤ k ∧ k ≤ s.size + 1 ∧ ps.length ≤ f ∧ OwnS wr w.heap.size (.slice (some ⟨g, 0, none⟩) ps.length c) ps ∧ (k ≤ s.size → ps.map (·.data.toList) ++ wb (s.data.toList.drop f) = wb s.data.toList) ∧ (s.size < k → ps.map (·.data.toList) = wb s.data.toList) ∧ (∀ j, f ≤ j → j < k → k ≤ s.size → bt s j ≠ 32) ∧ Below w.heap.size w wr) (fun _ _ i _ => s.size + 1 - (intOf i).toNat)
  case atStart => exact ⟨w.heap.size, 0, [], 0, 0, rfl, rfl, rfl, Nat.le_refl _, Nat.zero_le _, Nat.le_refl _, World.ownsRow_made w #[] 0 (Nat.le_refl _) (Nat.zero_le _) rfl, fun _ => by simp, fun h => absurd h (by omega), fun j _ h => absurd h (by omega), (Below.refl _ _).alloc (Nat.le_refl _) _⟩
  case round =>
    obtain ⟨g, c, ps, f, k, rfl, rfl, rfl, hfk, hkn, hpl, hown, hpq, hpe, hno, hnx⟩ := hrel
    have X : Hid (OwnS wr w.heap.size (.slice (some ⟨g, 0, none⟩) ps.length c) ps ∧ (k ≤ s.size → ps.map (·.data.toList) ++ wb (s.data.toList.drop f) = wb s.data.toList) ∧ (s.size < k → ps.map (·.data.toList) = wb s.data.toList) ∧ (∀ j, f ≤ j → j < k → k ≤ s.size → bt s j ≠ 32) ∧ Below w.heap.size w wr) := ⟨hown, hpq, hpe, hno, hnx⟩
    clear hown hpq hpe hno hnx
    have hzz := X.out.2.2.2.2.size
    by_cases hlt : k < s.size
    · have hkl : ((k : Int) == (s.size : Int)) = false := by simp; omega
      have hle : (k : Int) ≤ (s.size : Int) := by omega
      by_cases h32 : bt s k = 32
      · have t32 : (bt s k == 32) = true := by simp [h32]
        have H32 : Hid (bt s k = 32) := h32
        clear h32
        by_cases hfl : f < k
        · have hflz : (f : Int) < (k : Int) := by omega
          go_wp2_with (at_builtin; refine wpList_append_lies _ rfl _ _ 53 rfl w.heap.size 9 i0 (.string ⟨#[]⟩) 1 16 Tryd.underlying53 hi hz0 hz1 hz2 rfl (by decide) (.slice (some ⟨g, 0, none⟩) ps.length c) ps.length (ps.map Value.string) rfl (World.ownsRow.alloc X.out.1 _) ⟨_, 0, none⟩ 1 1 [.string (s.extract f k)] rfl rfl (cell_one_new _ _ _) (by simp [Value.oneCell']) (by omega) (by unfold maxLen; omega) (by omega) (by simp; omega) _ rfl ?_; intro g1 c1 w1 hown1 hgrow1 hat1 hlt1)
          have Y : Hid (OwnS w1 w.heap.size (.slice (some ⟨g1, 0, none⟩) (ps ++ [s.extract f k]).length c1) (ps ++ [s.extract f k]) ∧ (ps ++ [s.extract f k]).map (·.data.toList) ++ wb (s.data.toList.drop (k + 1)) = wb s.data.toList ∧ Below w.heap.size w w1) := by
            refine ⟨by unfold OwnS; simpa using hown1, ?_, (X.out.2.2.2.2.alloc hzz _).grown hgrow1 (by simp; omega) (fun q hq => (World.ownsRow.lt X.out.1 q hq).1)⟩
            rw [← X.out.2.1 (by omega), wb_hit s f k (by omega) (by omega) H32.out (fun j h1 h2 => X.out.2.2.2.1 j h1 h2 (by omega)), if_pos (by omega)]
            simp
          clear hown1 hgrow1 hat1 hlt1
          go_wp2
          go_roundw
          case rel => exact ⟨g1, c1, ps ++ [s.extract f k], k + 1, k + 1, by simp, by go_num, by go_num, Nat.le_refl _, by omega, by simp; omega, Y.out.1, fun _ => Y.out.2.1, fun h => absurd h (by omega), fun j h1 h2 => absurd h2 (by omega), Y.out.2.2⟩
          case measure => simp [intOf]; omega
        · have hflz : ¬ (f : Int) < (k : Int) := by omega
          have Y : Hid (ps.map (·.data.toList) ++ wb (s.data.toList.drop (k + 1)) = wb s.data.toList) := by
            show _ = _
            rw [← X.out.2.1 (by omega), wb_hit s f k (by omega) (by omega) H32.out (fun j h1 h2 => X.out.2.2.2.1 j h1 h2 (by omega)), if_neg (by omega), List.nil_append]
          go_wp2
          go_roundw
          case rel => exact ⟨g, c, ps, k + 1, k + 1, rfl, by go_num, by go_num, Nat.le_refl _, by omega, by omega, X.out.1, fun _ => Y.out, fun h => absurd h (by omega), fun j h1 h2 => absurd h2 (by omega), X.out.2.2.2.2⟩
          case measure => simp [intOf]; omega
      · have t32 : (bt s k == 32) = false := beq_eq_false_iff_ne.2 h32
        have H32 : Hid (bt s k ≠ 32) := h32
        clear h32
        go_wp2
        go_roundw
        case rel => exact ⟨g, c, ps, f, k + 1, rfl, rfl, by go_num, by omega, by omega, hpl, X.out.1, fun _ => X.out.2.1 (by omega), fun h => absurd h (by omega), fun j h1 h2 _ => (by
          by_cases e : j = k
          · subst e; exact H32.out
          · exact X.out.2.2.2.1 j h1 (by omega) (by omega)), X.out.2.2.2.2⟩
        case measure => simp [intOf]; omega
    · by_cases hke : k = s.size
      · have hkl : ((k : Int) == (s.size : Int)) = true := by simp; omega
        have hle : (k : Int) ≤ (s.size : Int) := by omega
        have hle2 : k ≤ s.size := by omega
        have hge2 : s.size ≤ k := by omega
        clear hke
        by_cases hfl : f < k
        · have hflz : (f : Int) < (k : Int) := by omega
          go_wp2_with (at_builtin; refine wpList_append_lies _ rfl _ _ 53 rfl w.heap.size 9 i0 (.string ⟨#[]⟩) 1 16 Tryd.underlying53 hi hz0 hz1 hz2 rfl (by decide) (.slice (some ⟨g, 0, none⟩) ps.length c) ps.length (ps.map Value.string) rfl (World.ownsRow.alloc X.out.1 _) ⟨_, 0, none⟩ 1 1 [.string (s.extract f k)] rfl rfl (cell_one_new _ _ _) (by simp [Value.oneCell']) (by omega) (by unfold maxLen; omega) (by omega) (by simp; omega) _ rfl ?_; intro g1 c1 w1 hown1 hgrow1 hat1 hlt1)
          have Y : Hid (OwnS w1 w.heap.size (.slice (some ⟨g1, 0, none⟩) (ps ++ [s.extract f k]).length c1) (ps ++ [s.extract f k]) ∧ (ps ++ [s.extract f k]).map (·.data.toList) = wb s.data.toList ∧ Below w.heap.size w w1) := by
            refine ⟨by unfold OwnS; simpa using hown1, ?_, (X.out.2.2.2.2.alloc hzz _).grown hgrow1 (by simp; omega) (fun q hq => (World.ownsRow.lt X.out.1 q hq).1)⟩
            rw [← X.out.2.1 (by omega), wb_miss s f (by omega) (fun j h1 h2 => X.out.2.2.2.1 j h1 (by omega) (by omega)), if_pos (by omega)]
            rw [show s.size = k by omega]
            simp
          clear hown1 hgrow1 hat1 hlt1
          go_wp2
          go_roundw
          case rel => exact ⟨g1, c1, ps ++ [s.extract f k], k + 1, k + 1, by simp, by go_num, by go_num, Nat.le_refl _, by omega, by simp; omega, Y.out.1, fun h => absurd h (by omega), fun _ => Y.out.2.1, fun j h1 h2 => absurd h2 (by omega), Y.out.2.2⟩
          case measure => simp [intOf]; omega
        · have hflz : ¬ (f : Int) < (k : Int) := by omega
          have Y : Hid (ps.map (·.data.toList) = wb s.data.toList) := by
            show _ = _
            rw [← X.out.2.1 (by omega), wb_miss s f (by omega) (fun j h1 h2 => X.out.2.2.2.1 j h1 (by omega) (by omega)), if_neg (by omega), List.append_nil]
          go_wp2
          go_roundw
          case rel => exact ⟨g, c, ps, k + 1, k + 1, rfl, by go_num, by go_num, Nat.le_refl _, by omega, by omega, X.out.1, fun h => absurd h (by omega), fun _ => Y.out, fun j h1 h2 => absurd h2 (by omega), X.out.2.2.2.2⟩
          case measure => simp [intOf]; omega
      · have hle : ¬ (k : Int) ≤ (s.size : Int) := by omega
        have Y := X.out.2.2.1 (by omega)
        go_wp2
        go_ret
        exact ⟨g, c, ps, rfl, X.out.1, Y, X.out.2.2.2.2⟩
end Go.Proofs.YtimhkeebgogfoaaDoor.Bl
