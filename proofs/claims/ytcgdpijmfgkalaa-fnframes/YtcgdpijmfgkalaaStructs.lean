/- The tests of structs, of both sides. -/
import Derived.Test.YtcgdpijmfgkalaaTests
import Derived.Test.YtcgdpijmfgkalaaApp
import Derived.Test.YtcgdpijmfgkalaaFrameB
import Derived.Test.YtcgdpijmfgkalaaSpecFrame
namespace Go.Proofs.Ytcgdpijmfgkalaa
open Go.RowKit Go.PlainAid
set_option linter.unusedVariables false
set_option maxRecDepth 20000
set_option maxHeartbeats 2000000 in
theorem l02Arp_any (op : Int) (sm : ByteArray) (dm : ByteArray) (si : Int) (di : Int) (w : World) (xop : op ≤ 9223372036854775807) (xsm : sm.size ≤ 1048576) (xdm : dm.size ≤ 1048576) (xsi : si ≤ 9223372036854775807) (xdi : di ≤ 9223372036854775807) :
    Calls Try.prog 37 #[.agg #[.int .i64 op, .string sm, .string dm, .int .i64 si, .int .i64 di]] w fun e w' => e = .returned (.bool (dec ((1 ≤ op ∧ op ≤ 2) ∧ (sm.size = 6) ∧ (dm.size = 6) ∧ (0 ≤ si ∧ si ≤ 4294967295) ∧ (0 ≤ di ∧ di ≤ 4294967295)))) ∧ Below w.heap.size w w' ∧ w.heap.size < w'.heap.size := by
  have B0 : Hid (Below w.heap.size w (w.alloc (.cells #[.int .i64 op, .string sm, .string dm, .int .i64 si, .int .i64 di] 31))) := (Below.refl _ _).alloc (Nat.le_refl _) _
  go_enter Try.func37, Try.ntmps37
  go_wp2_with fail
  refine (specIn_any _ _ _ _).mono ?_
  rintro e w1 ⟨rfl, hw1⟩
  obtain rfl := hw1.symm
  clear hw1
  by_cases h0 : 1 ≤ op ∧ op ≤ 2
  rotate_left
  · have b0 := dec_n h0
    have H0 : Hid (¬ (1 ≤ op ∧ op ≤ 2)) := h0
    clear h0
    go_wp2
    go_ret
    exact ⟨by rw [dec_n (fun h => H0.out h.1)]; rfl, B0.out, by simp⟩
  have b0 := dec_y h0
  have H0 : Hid (1 ≤ op ∧ op ≤ 2) := h0
  clear h0
  go_wp2_with fail
  refine (l01Mac_any _ _ (by omega)).mono ?_
  rintro e w1 ⟨rfl, hw1⟩
  obtain rfl := hw1.symm
  clear hw1
  by_cases h1 : sm.size = 6
  rotate_left
  · have b1 := dec_n h1
    have H1 : Hid (¬ (sm.size = 6)) := h1
    clear h1
    go_wp2
    go_ret
    exact ⟨by rw [dec_n (fun h => H1.out h.2.1)]; rfl, B0.out, by simp⟩
  have b1 := dec_y h1
  have H1 : Hid (sm.size = 6) := h1
  clear h1
  go_wp2_with fail
  refine (l01Mac_any _ _ (by omega)).mono ?_
  rintro e w1 ⟨rfl, hw1⟩
  obtain rfl := hw1.symm
  clear hw1
  by_cases h2 : dm.size = 6
  rotate_left
  · have b2 := dec_n h2
    have H2 : Hid (¬ (dm.size = 6)) := h2
    clear h2
    go_wp2
    go_ret
    exact ⟨by rw [dec_n (fun h => H2.out h.2.2.1)]; rfl, B0.out, by simp⟩
  have b2 := dec_y h2
  have H2 : Hid (dm.size = 6) := h2
  clear h2
  go_wp2_with fail
  refine (specIp_any _ _).mono ?_
  rintro e w1 ⟨rfl, hw1⟩
  obtain rfl := hw1.symm
  clear hw1
  by_cases h3 : 0 ≤ si ∧ si ≤ 4294967295
  rotate_left
  · have b3 := dec_n h3
    have H3 : Hid (¬ (0 ≤ si ∧ si ≤ 4294967295)) := h3
    clear h3
    go_wp2
    go_ret
    exact ⟨by rw [dec_n (fun h => H3.out h.2.2.2.1)]; rfl, B0.out, by simp⟩
  have b3 := dec_y h3
  have H3 : Hid (0 ≤ si ∧ si ≤ 4294967295) := h3
  clear h3
  go_wp2_with fail
  refine (specIp_any _ _).mono ?_
  rintro e w1 ⟨rfl, hw1⟩
  obtain rfl := hw1.symm
  clear hw1
  by_cases h4 : 0 ≤ di ∧ di ≤ 4294967295
  rotate_left
  · have b4 := dec_n h4
    have H4 : Hid (¬ (0 ≤ di ∧ di ≤ 4294967295)) := h4
    clear h4
    go_wp2
    go_ret
    exact ⟨by rw [dec_n (fun h => H4.out h.2.2.2.2)]; rfl, B0.out, by simp⟩
  have b4 := dec_y h4
  have H4 : Hid (0 ≤ di ∧ di ≤ 4294967295) := h4
  clear h4
  go_wp2
  go_ret
  exact ⟨by rw [dec_y ⟨H0.out, H1.out, H2.out, H3.out, H4.out⟩]; rfl, B0.out, by simp⟩

end Go.Proofs.Ytcgdpijmfgkalaa
