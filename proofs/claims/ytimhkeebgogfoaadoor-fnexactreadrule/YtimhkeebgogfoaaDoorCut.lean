/- The model's l00Cut: a text cut at its points. -/
import Derived.Test.YtimhkeebgogfoaaDoorProg
import Derived.Test.YtimhkeebgogfoaaDoorPieces
import Derived.Test.YtimhkeebgogfoaaDoorOwn
import Derived.Deep.AppendLies
import Derived.WalkSpells
namespace Go.Proofs.YtimhkeebgogfoaaDoor
open Go.RowKit Go.PlainAid
set_option linter.unusedVariables false
set_option maxRecDepth 20000
theorem Tryd.infoS : (Tryd.prog.info? 9).map (fun i => (i.zero, i.size, i.bytes)) = some (some (.string ⟨#[]⟩), 1, 16) := by kernel_rfl

/-- The slice value owns the strings ps. -/
def OwnS (w : World) (B : Nat) (v : Value) (ps : List ByteArray) : Prop := w.ownsRow B 9 1 v ps.length (ps.map Value.string)

set_option maxHeartbeats 1000000 in
theorem l00Cut_any (s : ByteArray) (w : World) (hs : s.size ≤ 1048576) :
    Calls Tryd.prog 57 #[.string s, .int .u8 46] w fun e w' => ∃ (g c : Nat) (ps : List ByteArray), e = .returned (.slice (some ⟨g, 0, none⟩) ps.length c) ∧ OwnS w' w.heap.size (.slice (some ⟨g, 0, none⟩) ps.length c) ps ∧ ps.map (·.data.toList) = pc s.data.toList ∧ Below w.heap.size w w' := by
  obtain ⟨i0, hi, hz0, hz1, hz2⟩ := info_parts Tryd.infoS
  have hb := get_bt s
  go_enter Tryd.func57, Tryd.ntmps57
  go_wp2
  go_loopw [5, 6, 7] (fun v fr i wr => ∃ (g c : Nat) (ps : List ByteArray) (f k : Nat), v = .slice (some ⟨g, 0, none⟩) ps.length c ∧ fr = .int .i64 f ∧ i = .int .i64 k ∧ f ≤ k ∧ k ≤ s.size ∧ ps.length ≤ f ∧ OwnS wr w.heap.size (.slice (some ⟨g, 0, none⟩) ps.length c) ps ∧ ps.map (·.data.toList) ++ pc (s.data.toList.drop f) = pc s.data.toList ∧ (∀ j, f ≤ j → j < k → bt s j ≠ 46) ∧ Below w.heap.size w wr) (fun _ _ i _ => s.size - (intOf i).toNat)
  case atStart => exact ⟨w.heap.size, 0, [], 0, 0, rfl, rfl, rfl, Nat.le_refl _, Nat.zero_le _, Nat.le_refl _, World.ownsRow_made w #[] 0 (Nat.le_refl _) (Nat.zero_le _) rfl, by simp, fun j _ h => absurd h (by omega), (Below.refl _ _).alloc (Nat.le_refl _) _⟩
  case round =>
    obtain ⟨g, c, ps, f, k, rfl, rfl, rfl, hfk, hkn, hpl, hown, hpc, hno, hnx⟩ := hrel
    have X : Hid (OwnS wr w.heap.size (.slice (some ⟨g, 0, none⟩) ps.length c) ps ∧ ps.map (·.data.toList) ++ pc (s.data.toList.drop f) = pc s.data.toList ∧ (∀ j, f ≤ j → j < k → bt s j ≠ 46) ∧ Below w.heap.size w wr) := ⟨hown, hpc, hno, hnx⟩
    clear hown hpc hno hnx
    have hzz := X.out.2.2.2.size
    by_cases hlt : k < s.size
    · by_cases h46 : bt s k = 46
      · have t46 : (bt s k == 46) = true := by simp [h46]
        have H46 : Hid (bt s k = 46) := h46
        clear h46
        go_wp2_with (at_builtin; refine wpList_append_lies _ rfl _ _ 53 rfl w.heap.size 9 i0 (.string ⟨#[]⟩) 1 16 Tryd.underlying53 hi hz0 hz1 hz2 rfl (by decide) (.slice (some ⟨g, 0, none⟩) ps.length c) ps.length (ps.map Value.string) rfl (World.ownsRow.alloc X.out.1 _) ⟨_, 0, none⟩ 1 1 [.string (s.extract f k)] rfl rfl (cell_one_new _ _ _) (by simp [Value.oneCell']) (by omega) (by unfold maxLen; omega) (by omega) (by simp; omega) _ rfl ?_; intro g1 c1 w1 hown1 hgrow1 hat1 hlt1)
        have Y : Hid (OwnS w1 w.heap.size (.slice (some ⟨g1, 0, none⟩) (ps ++ [s.extract f k]).length c1) (ps ++ [s.extract f k]) ∧ (ps ++ [s.extract f k]).map (·.data.toList) ++ pc (s.data.toList.drop (k + 1)) = pc s.data.toList ∧ Below w.heap.size w w1) := by
          refine ⟨by unfold OwnS; simpa using hown1, ?_, (X.out.2.2.2.alloc hzz _).grown hgrow1 (by simp; omega) (fun q hq => (World.ownsRow.lt X.out.1 q hq).1)⟩
          rw [← X.out.2.1, cut_hit s f k hfk hlt H46.out X.out.2.2.1]
          simp
        clear hown1 hgrow1 hat1 hlt1
        go_wp2
        go_roundw
        case rel => exact ⟨g1, c1, ps ++ [s.extract f k], k + 1, k + 1, by simp, by go_num, by go_num, Nat.le_refl _, by omega, by simp; omega, Y.out.1, Y.out.2.1, fun j h1 h2 => absurd h2 (by omega), Y.out.2.2⟩
        case measure => simp [intOf]; omega
      · have t46 : (bt s k == 46) = false := beq_eq_false_iff_ne.2 h46
        have H46 : Hid (bt s k ≠ 46) := h46
        clear h46
        go_wp2
        go_roundw
        case rel => exact ⟨g, c, ps, f, k + 1, rfl, rfl, by go_num, by omega, by omega, hpl, X.out.1, X.out.2.1, no_step X.out.2.2.1 H46.out, X.out.2.2.2⟩
        case measure => simp [intOf]; omega
    · go_wp2_with (at_builtin; refine wpList_append_lies _ rfl _ _ 53 rfl w.heap.size 9 i0 (.string ⟨#[]⟩) 1 16 Tryd.underlying53 hi hz0 hz1 hz2 rfl (by decide) (.slice (some ⟨g, 0, none⟩) ps.length c) ps.length (ps.map Value.string) rfl (World.ownsRow.alloc X.out.1 _) ⟨_, 0, none⟩ 1 1 [.string (s.extract f s.size)] rfl rfl (cell_one_new _ _ _) (by simp [Value.oneCell']) (by omega) (by unfold maxLen; omega) (by omega) (by simp; omega) _ rfl ?_; intro g1 c1 w1 hown1 hgrow1 hat1 hlt1)
      have Y : Hid (OwnS w1 w.heap.size (.slice (some ⟨g1, 0, none⟩) (ps ++ [s.extract f s.size]).length c1) (ps ++ [s.extract f s.size]) ∧ (ps ++ [s.extract f s.size]).map (·.data.toList) = pc s.data.toList ∧ Below w.heap.size w w1) := by
        refine ⟨by unfold OwnS; simpa using hown1, ?_, (X.out.2.2.2.alloc hzz _).grown hgrow1 (by simp; omega) (fun q hq => (World.ownsRow.lt X.out.1 q hq).1)⟩
        rw [← X.out.2.1, cut_miss s f (fun j h1 h2 => X.out.2.2.1 j h1 (by omega))]
        simp
      clear hown1 hgrow1 hat1 hlt1
      go_wp2
      go_ret
      exact ⟨g1, c1, _, by simp, Y.out⟩
end Go.Proofs.YtimhkeebgogfoaaDoor
