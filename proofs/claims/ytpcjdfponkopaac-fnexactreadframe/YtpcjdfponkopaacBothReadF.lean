/- ReadFrame, both sides in one form. -/
import Derived.Test.YtpcjdfponkopaacReadF2
import Derived.Test.YtpcjdfponkopaacLawReadFrame
namespace Go.Proofs.Ytpcjdfponkopaac
open Go.RowKit Go.PlainAid
set_option linter.unusedVariables false
set_option maxRecDepth 20000

theorem specReadFrame_long (a : Option Addr) (len cap : Nat) (w : World) (hl : 65536 < len) :
    Calls Try.prog 23 #[.slice a len cap] w fun e w' => e = .returned (.tuple #[.agg #[.string ⟨#[]⟩, .string ⟨#[]⟩, .int .i64 0, .string ⟨#[]⟩], .int .i64 2]) ∧ Below w.heap.size w w' := by
  go_enter Try.func23, Try.ntmps23
  go_wp2
  go_returns
  exact ⟨rfl, (Below.refl _ _).alloc (Nat.le_refl _) _⟩

set_option maxHeartbeats 1000000 in
theorem specReadFrame_of (v0 v1 : ByteArray) (v2 : Int) (v3 : ByteArray) (c : Int) (f : Nat → Int) (len : Nat) (hl : len ≤ 65536)
    (h : ∀ wx : World, Calls Try.prog 41 #[.string (strOf f len)] wx fun e w' => e = .returned (.tuple #[.agg #[.string v0, .string v1, .int .i64 v2, .string v3], .int .i64 c]) ∧ Below wx.heap.size wx w')
    (w : World) (a : Option Addr) (cap : Nat) (hb : Bytes w a len f) :
    Calls Try.prog 23 #[.slice a len cap] w fun e w' => e = .returned (.tuple #[.agg #[.string v0, .string v1, .int .i64 v2, .string v3], .int .i64 c]) ∧ Below w.heap.size w w' := by
  have H : Hid (∀ wx : World, Calls Try.prog 41 #[.string (strOf f len)] wx fun e w' => e = .returned (.tuple #[.agg #[.string v0, .string v1, .int .i64 v2, .string v3], .int .i64 c]) ∧ Below wx.heap.size wx w') := h
  have X : Hid (RdS w [.string ⟨#[]⟩, .string ⟨#[]⟩, .int .i64 0, .string ⟨#[]⟩] a len f (w.alloc (.cells #[.string ⟨#[]⟩, .string ⟨#[]⟩, .int .i64 0, .string ⟨#[]⟩] 39))) := RdS.new hb _
  have hcv := conv_row (P := Try.prog) _ 25 9 5 Try.underlying25 Try.underlying5 Try.underlying9 a len cap f X.out.1
  clear h hb
  go_enter Try.func23, Try.ntmps23
  go_wp2_with fail
  refine (H.out _).mono ?_
  rintro e w2 ⟨rfl, b2⟩
  have X2 : Hid (RdS w [.string ⟨#[]⟩, .string ⟨#[]⟩, .int .i64 0, .string ⟨#[]⟩] a len f w2) := RdS.next X.out b2
  clear b2 hcv
  have k0 := X2.out.2.2.2.1.at 0 _ rfl
  have k1 := X2.out.2.2.2.1.at 1 _ rfl
  have k2 := X2.out.2.2.2.1.at 2 _ rfl
  have k3 := X2.out.2.2.2.1.at 3 _ rfl
  have y0 := X2.out.2.2.2.2 0
  have y1 := X2.out.2.2.2.2 1
  have y2 := X2.out.2.2.2.2 2
  have y3 := X2.out.2.2.2.2 3
  go_wp2
  (try simp only [Exit.inBlock, Exit.then])
  refine bodyPost_ret (v := .tuple #[.agg #[.string v0, .string v1, .int .i64 v2, .string v3], .int .i64 c]) (by simp [results, Try.results23, go_sem, *]; try rfl) rfl ?_
  exact ⟨rfl, (((X2.out.2.1.setCell (by simp) _).setCell (by simp) _).setCell (by simp) _).setCell (by simp) _⟩

theorem readFrame_both (len : Nat) (f : Nat → Int) (hf : ∀ k, 0 ≤ f k ∧ f k ≤ 255) :
    ∃ (v0 : ByteArray) (v1 : ByteArray) (v2 : Int) (v3 : ByteArray) (c : Int), RdReadFrame 23 len f v0 v1 v2 v3 c ∧ RdReadFrame 24 len f v0 v1 v2 v3 c := by
  by_cases hl : len ≤ 65536
  · by_cases h : len < 14 ∨ 414 < len
    · exact ⟨_, _, _, _, _, fun w a cap hb hc hx => specReadFrame_of _ _ _ _ _ f len hl (fun wx => l02ReadFrame_form _ wx (by rw [strOf_size]; exact hl) (by rw [strOf_size]; exact h)) w a cap hb, fun w a cap hb hc hx => readFrame_form a len cap w hl h⟩
    · by_cases hk : pn f 12 2 = 2048 ∨ pn f 12 2 = 2054
      · refine ⟨_, _, _, _, _, fun w a cap hb hc hx => specReadFrame_of _ _ _ _ _ f len hl (fun wx => (l02ReadFrame_read f hf len wx (by omega) (by omega)).mono fun e w' hh => ⟨?_, hh.2⟩) w a cap hb, fun w a cap hb hc hx => readFrame_yes a len cap f w hb hc (by omega) (by omega) (by omega) hk⟩
        have := hh.1
        rwa [if_pos hk] at this
      · refine ⟨_, _, _, _, _, fun w a cap hb hc hx => specReadFrame_of _ _ _ _ _ f len hl (fun wx => (l02ReadFrame_read f hf len wx (by omega) (by omega)).mono fun e w' hh => ⟨?_, hh.2⟩) w a cap hb, fun w a cap hb hc hx => readFrame_proto a len cap f w hb hc (by omega) (by omega) (by omega) hk⟩
        have := hh.1
        rwa [if_neg hk] at this
  · exact ⟨_, _, _, _, _, fun w a cap hb hc hx => specReadFrame_long a len cap w (by omega), fun w a cap hb hc hx => readFrame_long a len cap w (by omega)⟩
end Go.Proofs.Ytpcjdfponkopaac
