/- The program's ReadFrame. -/
import Derived.Test.YtcgdpijmfgkalaaCutting
import Derived.Test.YtcgdpijmfgkalaaFrameB
import Derived.Deep.RegionHeld3
namespace Go.Proofs.Ytcgdpijmfgkalaa
open Go.RowKit Go.PlainAid
set_option linter.unusedVariables false
set_option maxRecDepth 20000

theorem Hid_mk {p : Prop} (h : p) : Hid p := h

set_option maxHeartbeats 4000000 in
theorem readFrame_yes (a : Option Addr) (len cap : Nat) (f : Nat → Int) (w : World) (h : Bytes w a len f) (hc : len ≤ cap) (hx : cap ≤ 9223372036854775807) (h14 : 14 ≤ len) (h414 : len ≤ 414) (hk : pn f 12 2 = 2048 ∨ pn f 12 2 = 2054) :
    Calls Try.prog 10 #[.slice a len cap] w fun e w' => e = .returned (.tuple #[.agg #[.string (ps f 0 6), .string (ps f 6 6), .int .i64 (pn f 12 2), .string (ps f 14 (len - 14))], .int .i64 0]) ∧ Below w.heap.size w w' := by
  obtain ⟨b, off, rfl, -⟩ := h.2 (by omega)
  have HK : Hid (decide (pn f 12 2 = 2048 ∨ pn f 12 2 = 2054) = true) := decide_eq_true hk
  have X : Hid (RdS w [.string ⟨#[]⟩, .string ⟨#[]⟩, .int .i64 0, .string ⟨#[]⟩] (some ⟨b, off, none⟩) len f (w.alloc (.cells #[.string ⟨#[]⟩, .string ⟨#[]⟩, .int .i64 0, .string ⟨#[]⟩] 24))) := RdS.new h _
  have X0 : Hid (RdS w [.string ⟨#[]⟩, .string ⟨#[]⟩, .int .i64 0, .string ⟨#[]⟩] (some ⟨b, off, none⟩) len f (w.alloc (.cells #[.string ⟨#[]⟩, .string ⟨#[]⟩, .int .i64 0, .string ⟨#[]⟩] 24)).drew) := X.out.drew
  have M0 : Hid (∀ wx : World, Hid (RdS w [.string ⟨#[]⟩, .string ⟨#[]⟩, .int .i64 0, .string ⟨#[]⟩] (some ⟨b, off, none⟩) len f wx) → Calls Try.prog 33 #[.slice (some ⟨b, off, none⟩) len cap, .int .i64 0] wx fun e w' => e = .returned (.string (ps f 0 6)) ∧ Hid (RdS w [.string ⟨#[]⟩, .string ⟨#[]⟩, .int .i64 0, .string ⟨#[]⟩] (some ⟨b, off, none⟩) len f w')) := rd_mac 0 (by omega) hc hx
  have M6 : Hid (∀ wx : World, Hid (RdS w [.string ⟨#[]⟩, .string ⟨#[]⟩, .int .i64 0, .string ⟨#[]⟩] (some ⟨b, off, none⟩) len f wx) → Calls Try.prog 33 #[.slice (some ⟨b, off, none⟩) len cap, .int .i64 6] wx fun e w' => e = .returned (.string (ps f 6 6)) ∧ Hid (RdS w [.string ⟨#[]⟩, .string ⟨#[]⟩, .int .i64 0, .string ⟨#[]⟩] (some ⟨b, off, none⟩) len f w')) := rd_mac 6 (by omega) hc hx
  obtain ⟨ad, hl, hcp, hcv, hcase⟩ := tail_cut (b := b) (off := off) h.1 14 h14 hc
  have HCV := Hid_mk hcv
  have cv0 := hcv _ X0.out.1
  clear hk h hcv
  rcases hcase with ⟨rfl, rfl, rfl, rfl⟩ | ⟨hz, rfl, rfl, rfl⟩
  all_goals
    go_enter Try.func10, Try.ntmps10
    go_wp2_with fail
    refine (at_pn _ len _ f 12 2 _ X.out.1 (by omega) hc hx (by omega) (by omega)).mono ?_
    rintro e w1 ⟨rfl, hw1⟩
    obtain rfl := hw1.symm
    clear hw1
    go_wp2_with fail
    refine (kindOK_any _ _).mono ?_
    rintro e w1 ⟨he, hw1⟩
    rw [HK.out] at he
    subst he
    obtain rfl := hw1.symm
    clear hw1
    go_wp2
    go_region_with (first
      | (go_at_call 33; (with_reducible refine (M0.out _ X0).mono ?_); rintro e w1 ⟨rfl, X1⟩; have cv1 := HCV.out _ X1.out.1)
      | (go_at_call 33; (with_reducible refine (M6.out _ X1).mono ?_); rintro e w2 ⟨rfl, X2⟩; have cv2 := HCV.out _ X2.out.1; have k0 := X2.out.2.2.2.1.at 0 _ rfl; have k1 := X2.out.2.2.2.1.at 1 _ rfl; have k2 := X2.out.2.2.2.1.at 2 _ rfl; have k3 := X2.out.2.2.2.1.at 3 _ rfl; have y0 := X2.out.2.2.2.2 0; have y1 := X2.out.2.2.2.2 1; have y2 := X2.out.2.2.2.2 2; have y3 := X2.out.2.2.2.2 3))
    all_goals
      go_wp2
      (try simp only [Exit.inBlock, Exit.then])
      refine bodyPost_ret (v := .tuple #[.agg #[.string (ps f 0 6), .string (ps f 6 6), .int .i64 (pn f 12 2), .string (ps f 14 (len - 14))], .int .i64 0]) (by simp [results, Try.results10, go_sem, *]; try rfl) rfl ?_
      exact ⟨rfl, (((X2.out.2.1.setCell (by simp) _).setCell (by simp) _).setCell (by simp) _).setCell (by simp) _⟩
end Go.Proofs.Ytcgdpijmfgkalaa
