/- What is drawn of a code: a segment. -/
import Derived.Test.YtfcdobicilediaaDrawG
import Derived.Test.YtfcdobicilediaaAt
namespace Go.Proofs.Ytfcdobicilediaa
open Go.RowKit Go.PlainAid
set_option linter.unusedVariables false
set_option maxRecDepth 20000

set_option maxHeartbeats 400000 in
theorem SegmentOf_any (w : World) (a : Option Addr) (len cap : Nat) (f : Nat → Int) (h : Bytes w a len f) (hl : len ≤ 1048576) (hlt : ∀ b off, 0 < len → a = some ⟨b, off, none⟩ → b < w.heap.size) :
    Calls Try.prog 7 #[.slice a len cap] w fun e w' => ∃ (v1 k v9 v11 v13 : Int) (b : ByteArray), e = .returned (.agg #[.int .i64 (1000 + v1), .int .i64 k, .int .i64 v9, .int .i64 v11, .int .i64 v13, .int .i64 1000, .string b]) ∧ Hid ((0 ≤ v1 ∧ v1 < 3) ∧ (0 ≤ k ∧ k ≤ 65535) ∧ (0 ≤ v9 ∧ v9 < 300) ∧ (0 ≤ v11 ∧ v11 < 300) ∧ (0 ≤ v13 ∧ v13 < 32) ∧ b.size ≤ 4) ∧ Hid (Below w.heap.size w w') := by
  obtain ⟨W, hW⟩ : ∃ W, W = w.alloc (.cells #[.int .i64 0, .int .i64 0, .int .i64 0, .int .i64 0, .int .i64 0, .int .i64 0, .string ⟨#[]⟩] 24) := ⟨_, rfl⟩
  have bW : Below w.heap.size w W := by rw [hW]; exact (Below.refl _ _).alloc (Nat.le_refl _) _
  have zW : Hid (W.heap.size = w.heap.size + 1) := by rw [hW]; show _ = _; simp
  have KS : Hid (Slots W w.heap.size [.int .i64 0, .int .i64 0, .int .i64 0, .int .i64 0, .int .i64 0, .int .i64 0, .string ⟨#[]⟩]) := by rw [hW]; exact Slots.new w _ _
  have HS : Hid (Calls Try.prog 35 #[.slice a len cap] W fun e w' => e = .returned (.pointer (some ⟨W.heap.size, 0, none⟩)) ∧ Src w' W.heap.size a len cap f 0 ∧ W.grownBy w' none ∧ w'.heap.size = W.heap.size + 1) := l00Source_any W a len cap f (h.below bW hlt) hl (fun b off h0 e => Nat.lt_of_lt_of_le (hlt b off h0 e) bW.size)
  have BW : Hid (Below w.heap.size w W) := bW
  clear h hlt bW
  go_enter Try.func7, Try.ntmps7
  go_wp2_with fail
  rw [← hW]
  refine HS.out.mono ?_
  rintro e w1 ⟨rfl, s1, g1, z1⟩
  have X : Hid (Src w1 W.heap.size a len cap f 0 ∧ W.grownBy w1 none ∧ w1.heap.size = W.heap.size + 1) := ⟨s1, g1, z1⟩
  clear s1 g1 z1 HS hW
  go_wp2_with fail
  refine (DrawG.drawn w1 W.heap.size a len cap f X.out.1).mono ?_
  rintro e w2 ⟨v1, k, v9, v11, v13, b, rfl, h1, hk, h9, h11, h13, hb, g2⟩
  have HF : Hid ((0 ≤ v1 ∧ v1 < 3) ∧ (0 ≤ k ∧ k ≤ 65535) ∧ (0 ≤ v9 ∧ v9 < 300) ∧ (0 ≤ v11 ∧ v11 < 300) ∧ (0 ≤ v13 ∧ v13 < 32) ∧ b.size ≤ 4) := ⟨h1, hk, h9, h11, h13, hb⟩
  have B2 : Hid (Below W.heap.size W w2) := ((Below.refl W.heap.size W).grown X.out.2.1 (Nat.le_refl _) (by simp)).grown g2 (by have := X.out.2.2; omega) (by intro k hk; cases hk; exact Nat.le_refl _)
  have K2 : Hid (Slots w2 w.heap.size [.int .i64 0, .int .i64 0, .int .i64 0, .int .i64 0, .int .i64 0, .int .i64 0, .string ⟨#[]⟩]) := KS.out.below B2.out (by have := zW.out; omega)
  have B3 : Hid (Below w.heap.size w w2) := BW.out.trans (B2.out.mono (by have := zW.out; omega))
  clear h1 hk h9 h11 h13 hb g2 X B2 KS
  have k0 := K2.out.1.at 0 _ rfl
  have y0 := K2.out.2 0
  have k1 := K2.out.1.at 1 _ rfl
  have y1 := K2.out.2 1
  have k2 := K2.out.1.at 2 _ rfl
  have y2 := K2.out.2 2
  have k3 := K2.out.1.at 3 _ rfl
  have y3 := K2.out.2 3
  have k4 := K2.out.1.at 4 _ rfl
  have y4 := K2.out.2 4
  have k5 := K2.out.1.at 5 _ rfl
  have y5 := K2.out.2 5
  have k6 := K2.out.1.at 6 _ rfl
  have y6 := K2.out.2 6
  go_wp2
  (try simp only [Exit.inBlock, Exit.then])
  refine bodyPost_ret (v := .agg #[.int .i64 (1000 + v1), .int .i64 k, .int .i64 v9, .int .i64 v11, .int .i64 v13, .int .i64 1000, .string b]) (by simp [results, Try.results7, go_sem, *]; try rfl) rfl ?_
  exact ⟨v1, k, v9, v11, v13, b, rfl, HF, (((((((B3.out.setCell (by simp) _).setCell (by simp) _).setCell (by simp) _).setCell (by simp) _).setCell (by simp) _).setCell (by simp) _).setCell (by simp) _)⟩
end Go.Proofs.Ytfcdobicilediaa
