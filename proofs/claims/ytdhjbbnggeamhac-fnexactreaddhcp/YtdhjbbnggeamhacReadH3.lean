/- ReadDhcp: both sides in one form. -/
import Derived.Test.YtdhjbbnggeamhacReadH2
namespace Go.Proofs.Ytdhjbbnggeamhac
open Go.RowKit Go.PlainAid
set_option linter.unusedVariables false
set_option maxRecDepth 20000

theorem specReadDh_long (a : Option Addr) (len cap : Nat) (w : World) (hl : 65536 < len) :
    Calls Try.prog 4 #[.slice a len cap] w fun e w' => e = .returned (.tuple #[.agg #[.int .i64 0, .int .i64 0, .int .i64 0, .bool false, .string ⟨#[]⟩], .int .i64 2]) ∧ Below w.heap.size w w' := by
  go_enter Try.func4, Try.ntmps4
  go_wp2
  go_returns
  exact ⟨rfl, (Below.refl _ _).alloc (Nat.le_refl _) _⟩

set_option maxHeartbeats 1000000 in
theorem specReadDh_of (v0 v1 v2 : Int) (v3 : Bool) (v4 : ByteArray) (c : Int) (f : Nat → Int) (len : Nat) (hl : len ≤ 65536)
    (h : ∀ wx : World, Calls Try.prog 9 #[.string (strOf f len)] wx fun e w' => e = .returned (.tuple #[.agg #[.int .i64 v0, .int .i64 v1, .int .i64 v2, .bool v3, .string v4], .int .i64 c]) ∧ Below wx.heap.size wx w')
    (w : World) (a : Option Addr) (cap : Nat) (hb : Bytes w a len f) :
    Calls Try.prog 4 #[.slice a len cap] w fun e w' => e = .returned (.tuple #[.agg #[.int .i64 v0, .int .i64 v1, .int .i64 v2, .bool v3, .string v4], .int .i64 c]) ∧ Below w.heap.size w w' := by
  have H : Hid (∀ wx : World, Calls Try.prog 9 #[.string (strOf f len)] wx fun e w' => e = .returned (.tuple #[.agg #[.int .i64 v0, .int .i64 v1, .int .i64 v2, .bool v3, .string v4], .int .i64 c]) ∧ Below wx.heap.size wx w') := h
  have X : Hid (RdS w [.int .i64 0, .int .i64 0, .int .i64 0, .bool false, .string ⟨#[]⟩] a len f (w.alloc (.cells #[.int .i64 0, .int .i64 0, .int .i64 0, .bool false, .string ⟨#[]⟩] 24))) := RdS.new hb _
  have hcv := conv_row (P := Try.prog) _ 22 9 5 Try.underlying22 Try.underlying5 Try.underlying9 a len cap f X.out.1
  clear h hb
  go_enter Try.func4, Try.ntmps4
  go_wp2_with fail
  refine (H.out _).mono ?_
  rintro e w2 ⟨rfl, b2⟩
  have X2 : Hid (RdS w [.int .i64 0, .int .i64 0, .int .i64 0, .bool false, .string ⟨#[]⟩] a len f w2) := RdS.next X.out b2
  clear b2 hcv
  have k0 := X2.out.2.2.2.1.at 0 _ rfl
  have y0 := X2.out.2.2.2.2 0
  have k1 := X2.out.2.2.2.1.at 1 _ rfl
  have y1 := X2.out.2.2.2.2 1
  have k2 := X2.out.2.2.2.1.at 2 _ rfl
  have y2 := X2.out.2.2.2.2 2
  have k3 := X2.out.2.2.2.1.at 3 _ rfl
  have y3 := X2.out.2.2.2.2 3
  have k4 := X2.out.2.2.2.1.at 4 _ rfl
  have y4 := X2.out.2.2.2.2 4
  go_wp2
  (try simp only [Exit.inBlock, Exit.then])
  refine bodyPost_ret (v := .tuple #[.agg #[.int .i64 v0, .int .i64 v1, .int .i64 v2, .bool v3, .string v4], .int .i64 c]) (by simp [results, Try.results4, go_sem, *]; try rfl) rfl ?_
  exact ⟨rfl, ((((X2.out.2.1.setCell (by simp) _).setCell (by simp) _).setCell (by simp) _).setCell (by simp) _).setCell (by simp) _⟩

theorem readDh_both (len : Nat) (f : Nat → Int) (hf : ∀ k, 0 ≤ f k ∧ f k ≤ 255) :
    ∃ (v0 v1 v2 : Int) (v3 : Bool) (v4 : ByteArray) (c : Int), RdReadDhcp 4 len f v0 v1 v2 v3 v4 c ∧ RdReadDhcp 6 len f v0 v1 v2 v3 v4 c := by
  by_cases hl : len ≤ 65536
  · by_cases h : len < 240
    · exact ⟨_, _, _, _, _, _, fun w a cap hb hc hx => specReadDh_of _ _ _ _ _ _ f len hl (fun wx => l03ReadDh_form _ wx (by rw [strOf_size]; exact hl) (by rw [strOf_size]; exact h)) w a cap hb, fun w a cap hb hc hx => readDh_form a len cap w hl h⟩
    · have h240 : 240 ≤ len := by omega
      cases hh : headB f
      · exact ⟨_, _, _, _, _, _, fun w a cap hb hc hx => specReadDh_of _ _ _ _ _ _ f len hl (fun wx => l03ReadDh_head f hf len wx h240 hl hh) w a cap hb, fun w a cap hb hc hx => readDh_head a len cap f w hb hc hx h240 hl hh⟩
      · cases hd : dk (len - 239) (len - 240) (fun j => f (240 + j)) 0 with
        | none =>
          have hn : ∀ k, dk (len - 239) (len - 240) (fun j => f (240 + j)) 0 = some k → ¬ (1 ≤ k ∧ k ≤ 8) := fun k h' => by rw [hd] at h'; cases h'
          exact ⟨_, _, _, _, _, _, fun w a cap hb hc hx => specReadDh_of _ _ _ _ _ _ f len hl (fun wx => (l03ReadDh_read f hf len wx h240 hl hh).mono fun e w' h' => ⟨h'.1.2 hn, h'.2⟩) w a cap hb, fun w a cap hb hc hx => readDh_no a len cap f w hb hc hx h240 hl hh hn⟩
        | some kd =>
          by_cases hk : 1 ≤ kd ∧ kd ≤ 8
          · exact ⟨_, _, _, _, _, _, fun w a cap hb hc hx => specReadDh_of _ _ _ _ _ _ f len hl (fun wx => (l03ReadDh_read f hf len wx h240 hl hh).mono fun e w' h' => ⟨h'.1.1 kd hd hk.1 hk.2, h'.2⟩) w a cap hb, fun w a cap hb hc hx => readDh_yes a len cap f w hb hc hx h240 hl hh kd hd hk.1 hk.2⟩
          · have hn : ∀ k, dk (len - 239) (len - 240) (fun j => f (240 + j)) 0 = some k → ¬ (1 ≤ k ∧ k ≤ 8) := fun k h' => by rw [hd] at h'; cases h'; exact hk
            exact ⟨_, _, _, _, _, _, fun w a cap hb hc hx => specReadDh_of _ _ _ _ _ _ f len hl (fun wx => (l03ReadDh_read f hf len wx h240 hl hh).mono fun e w' h' => ⟨h'.1.2 hn, h'.2⟩) w a cap hb, fun w a cap hb hc hx => readDh_no a len cap f w hb hc hx h240 hl hh hn⟩
  · exact ⟨_, _, _, _, _, _, fun w a cap hb hc hx => specReadDh_long a len cap w (by omega), fun w a cap hb hc hx => readDh_long a len cap w (by omega)⟩
end Go.Proofs.Ytdhjbbnggeamhac
