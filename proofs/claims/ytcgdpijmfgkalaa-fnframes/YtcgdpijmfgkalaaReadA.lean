/- ReadArp, the program's and the model's. -/
import Derived.Test.YtcgdpijmfgkalaaCut2
import Derived.Test.YtcgdpijmfgkalaaStructs
import Derived.Test.YtcgdpijmfgkalaaArpB
import Derived.Deep.RegionHeld3
namespace Go.Proofs.Ytcgdpijmfgkalaa
open Go.RowKit Go.PlainAid
set_option linter.unusedVariables false
set_option maxRecDepth 20000

/-- Whether the row begins as a question for a mac does. -/
def arpBegins (f : Nat → Int) : Bool := (ps f 0 6).toList == ([0, 1, 8, 0, 6, 4] : List UInt8)

theorem readArp_long (a : Option Addr) (len cap : Nat) (w : World) (hl : 65536 < len) :
    Calls Try.prog 14 #[.slice a len cap] w fun e w' => e = .returned (.tuple #[.agg #[.int .i64 0, .string ⟨#[]⟩, .string ⟨#[]⟩, .int .i64 0, .int .i64 0], .int .i64 2]) ∧ Below w.heap.size w w' := by
  go_enter Try.func14, Try.ntmps14
  go_wp2
  go_returns
  exact ⟨rfl, (Below.refl _ _).alloc (Nat.le_refl _) _⟩
theorem readArp_form (a : Option Addr) (len cap : Nat) (w : World) (hl : len ≤ 65536) (h : len ≠ 28) :
    Calls Try.prog 14 #[.slice a len cap] w fun e w' => e = .returned (.tuple #[.agg #[.int .i64 0, .string ⟨#[]⟩, .string ⟨#[]⟩, .int .i64 0, .int .i64 0], .int .i64 3]) ∧ Below w.heap.size w w' := by
  have hb : ((len : Int) != 28) = true := by simp; omega
  go_enter Try.func14, Try.ntmps14
  go_wp2
  go_returns
  exact ⟨rfl, (Below.refl _ _).alloc (Nat.le_refl _) _⟩

set_option maxHeartbeats 4000000 in
theorem readArp_yes (a : Option Addr) (cap : Nat) (f : Nat → Int) (w : World) (h : Bytes w a 28 f) (hc : 28 ≤ cap) (hx : cap ≤ 9223372036854775807) (hq : arpBegins f = true) (ho : 1 ≤ pn f 6 2 ∧ pn f 6 2 ≤ 2) :
    Calls Try.prog 14 #[.slice a 28 cap] w fun e w' => e = .returned (.tuple #[.agg #[.int .i64 (pn f 6 2), .string (ps f 8 6), .string (ps f 18 6), .int .i64 (pn f 14 4), .int .i64 (pn f 24 4)], .int .i64 0]) ∧ Below w.heap.size w w' := by
  have HO : Hid (dec (1 ≤ pn f 6 2 ∧ pn f 6 2 ≤ 2) = true) := dec_y ho
  clear ho
  obtain ⟨b, off, rfl, -⟩ := h.2 (by omega)
  have X : Hid (RdS w [.int .i64 0, .string ⟨#[]⟩, .string ⟨#[]⟩, .int .i64 0, .int .i64 0] (some ⟨b, off, none⟩) 28 f (w.alloc (.cells #[.int .i64 0, .string ⟨#[]⟩, .string ⟨#[]⟩, .int .i64 0, .int .i64 0] 31))) := RdS.new h _
  have hcv := conv_ps X.out.1 0 6 6 (by omega)
  simp only [Nat.add_zero] at hcv
  obtain ⟨P0, hP0⟩ : ∃ P0, P0 = ps f 0 6 := ⟨_, rfl⟩
  rw [← hP0] at hcv
  have hq' : (P0.toList == ([0, 1, 8, 0, 6, 4] : List UInt8)) = arpBegins f := by rw [hP0]; rfl
  rw [hq] at hq'
  clear h hP0 hq
  go_enter Try.func14, Try.ntmps14
  go_wp2_with fail
  refine (part_any b off 28 cap 0 6 _ (by omega) hx).mono ?_
  rintro e w1 ⟨a', rfl, ha, hw1⟩
  obtain rfl := hw1.symm
  obtain rfl : a' = some ⟨b, off, none⟩ := by simpa using ha (by omega)
  clear hw1 ha
  go_wp2_with fail
  refine (at_pn _ 28 _ f 6 2 _ X.out.1 (by omega) hc hx (by omega) (by omega)).mono ?_
  rintro e w1 ⟨rfl, hw1⟩
  obtain rfl := hw1.symm
  clear hw1 hcv
  go_wp2_with fail
  refine (rd_mac 8 (by omega) hc hx _ X).mono ?_
  rintro e w2 ⟨rfl, X2⟩
  go_wp2_with fail
  refine (rd_num 14 4 (by omega) hc hx (by omega) (by omega) _ X2).mono ?_
  rintro e w3 ⟨rfl, X3⟩
  go_wp2_with fail
  refine (rd_mac 18 (by omega) hc hx _ X3).mono ?_
  rintro e w4 ⟨rfl, X4⟩
  go_wp2_with fail
  refine (rd_num 24 4 (by omega) hc hx (by omega) (by omega) _ X4).mono ?_
  rintro e w5 ⟨rfl, X5⟩
  have Y5 : Hid (RdS w [.int .i64 0, .string ⟨#[]⟩, .string ⟨#[]⟩, .int .i64 0, .int .i64 0] (some ⟨b, off, none⟩) 28 f (w5.alloc (.cells #[.int .i64 (pn f 6 2), .string (ps f 8 6), .string (ps f 18 6), .int .i64 (pn f 14 4), .int .i64 (pn f 24 4)] 31)) ∧ Boxed (w5.alloc (.cells #[.int .i64 (pn f 6 2), .string (ps f 8 6), .string (ps f 18 6), .int .i64 (pn f 14 4), .int .i64 (pn f 24 4)] 31)) w5.heap.size [.int .i64 (pn f 6 2), .string (ps f 8 6), .string (ps f 18 6), .int .i64 (pn f 14 4), .int .i64 (pn f 24 4)]) :=
    ⟨RdS.next X5.out ((Below.refl _ _).alloc (Nat.le_refl _) _), Boxed.new w5 _ _⟩
  have k0 := Y5.out.1.2.2.2.1.at 0 _ rfl
  have y0 := Y5.out.1.2.2.2.2 0
  have j0 := Y5.out.2.at 0 _ rfl
  have k1 := Y5.out.1.2.2.2.1.at 1 _ rfl
  have y1 := Y5.out.1.2.2.2.2 1
  have j1 := Y5.out.2.at 1 _ rfl
  have k2 := Y5.out.1.2.2.2.1.at 2 _ rfl
  have y2 := Y5.out.1.2.2.2.2 2
  have j2 := Y5.out.2.at 2 _ rfl
  have k3 := Y5.out.1.2.2.2.1.at 3 _ rfl
  have y3 := Y5.out.1.2.2.2.2 3
  have j3 := Y5.out.2.at 3 _ rfl
  have k4 := Y5.out.1.2.2.2.1.at 4 _ rfl
  have y4 := Y5.out.1.2.2.2.2 4
  have j4 := Y5.out.2.at 4 _ rfl
  go_wp2_with fail
  refine (opOK_any _ _).mono ?_
  rintro e w6 ⟨he, hw6⟩
  rw [HO.out] at he
  subst he
  obtain rfl := hw6.symm
  clear hw6
  go_wp2
  (try simp only [Exit.inBlock, Exit.then])
  refine bodyPost_ret (v := .tuple #[.agg #[.int .i64 (pn f 6 2), .string (ps f 8 6), .string (ps f 18 6), .int .i64 (pn f 14 4), .int .i64 (pn f 24 4)], .int .i64 0]) (by simp [results, Try.results14, go_sem, *]; try rfl) rfl ?_
  exact ⟨rfl, ((((Y5.out.1.2.1.setCell (by simp) _).setCell (by simp) _).setCell (by simp) _).setCell (by simp) _).setCell (by simp) _⟩

set_option maxHeartbeats 4000000 in
theorem readArp_op (a : Option Addr) (cap : Nat) (f : Nat → Int) (w : World) (h : Bytes w a 28 f) (hc : 28 ≤ cap) (hx : cap ≤ 9223372036854775807) (hq : arpBegins f = true) (ho : ¬ (1 ≤ pn f 6 2 ∧ pn f 6 2 ≤ 2)) :
    Calls Try.prog 14 #[.slice a 28 cap] w fun e w' => e = .returned (.tuple #[.agg #[.int .i64 0, .string ⟨#[]⟩, .string ⟨#[]⟩, .int .i64 0, .int .i64 0], .int .i64 3]) ∧ Below w.heap.size w w' := by
  have HO : Hid (dec (1 ≤ pn f 6 2 ∧ pn f 6 2 ≤ 2) = false) := dec_n ho
  clear ho
  obtain ⟨b, off, rfl, -⟩ := h.2 (by omega)
  have X : Hid (RdS w [.int .i64 0, .string ⟨#[]⟩, .string ⟨#[]⟩, .int .i64 0, .int .i64 0] (some ⟨b, off, none⟩) 28 f (w.alloc (.cells #[.int .i64 0, .string ⟨#[]⟩, .string ⟨#[]⟩, .int .i64 0, .int .i64 0] 31))) := RdS.new h _
  have hcv := conv_ps X.out.1 0 6 6 (by omega)
  simp only [Nat.add_zero] at hcv
  obtain ⟨P0, hP0⟩ : ∃ P0, P0 = ps f 0 6 := ⟨_, rfl⟩
  rw [← hP0] at hcv
  have hq' : (P0.toList == ([0, 1, 8, 0, 6, 4] : List UInt8)) = arpBegins f := by rw [hP0]; rfl
  rw [hq] at hq'
  clear h hP0 hq
  go_enter Try.func14, Try.ntmps14
  go_wp2_with fail
  refine (part_any b off 28 cap 0 6 _ (by omega) hx).mono ?_
  rintro e w1 ⟨a', rfl, ha, hw1⟩
  obtain rfl := hw1.symm
  obtain rfl : a' = some ⟨b, off, none⟩ := by simpa using ha (by omega)
  clear hw1 ha
  go_wp2_with fail
  refine (at_pn _ 28 _ f 6 2 _ X.out.1 (by omega) hc hx (by omega) (by omega)).mono ?_
  rintro e w1 ⟨rfl, hw1⟩
  obtain rfl := hw1.symm
  clear hw1 hcv
  go_wp2_with fail
  refine (rd_mac 8 (by omega) hc hx _ X).mono ?_
  rintro e w2 ⟨rfl, X2⟩
  go_wp2_with fail
  refine (rd_num 14 4 (by omega) hc hx (by omega) (by omega) _ X2).mono ?_
  rintro e w3 ⟨rfl, X3⟩
  go_wp2_with fail
  refine (rd_mac 18 (by omega) hc hx _ X3).mono ?_
  rintro e w4 ⟨rfl, X4⟩
  go_wp2_with fail
  refine (rd_num 24 4 (by omega) hc hx (by omega) (by omega) _ X4).mono ?_
  rintro e w5 ⟨rfl, X5⟩
  have Y5 : Hid (RdS w [.int .i64 0, .string ⟨#[]⟩, .string ⟨#[]⟩, .int .i64 0, .int .i64 0] (some ⟨b, off, none⟩) 28 f (w5.alloc (.cells #[.int .i64 (pn f 6 2), .string (ps f 8 6), .string (ps f 18 6), .int .i64 (pn f 14 4), .int .i64 (pn f 24 4)] 31)) ∧ Boxed (w5.alloc (.cells #[.int .i64 (pn f 6 2), .string (ps f 8 6), .string (ps f 18 6), .int .i64 (pn f 14 4), .int .i64 (pn f 24 4)] 31)) w5.heap.size [.int .i64 (pn f 6 2), .string (ps f 8 6), .string (ps f 18 6), .int .i64 (pn f 14 4), .int .i64 (pn f 24 4)]) :=
    ⟨RdS.next X5.out ((Below.refl _ _).alloc (Nat.le_refl _) _), Boxed.new w5 _ _⟩
  have k0 := Y5.out.1.2.2.2.1.at 0 _ rfl
  have y0 := Y5.out.1.2.2.2.2 0
  have j0 := Y5.out.2.at 0 _ rfl
  have k1 := Y5.out.1.2.2.2.1.at 1 _ rfl
  have y1 := Y5.out.1.2.2.2.2 1
  have j1 := Y5.out.2.at 1 _ rfl
  have k2 := Y5.out.1.2.2.2.1.at 2 _ rfl
  have y2 := Y5.out.1.2.2.2.2 2
  have j2 := Y5.out.2.at 2 _ rfl
  have k3 := Y5.out.1.2.2.2.1.at 3 _ rfl
  have y3 := Y5.out.1.2.2.2.2 3
  have j3 := Y5.out.2.at 3 _ rfl
  have k4 := Y5.out.1.2.2.2.1.at 4 _ rfl
  have y4 := Y5.out.1.2.2.2.2 4
  have j4 := Y5.out.2.at 4 _ rfl
  go_wp2_with fail
  refine (opOK_any _ _).mono ?_
  rintro e w6 ⟨he, hw6⟩
  rw [HO.out] at he
  subst he
  obtain rfl := hw6.symm
  clear hw6
  go_wp2
  (try simp only [Exit.inBlock, Exit.then])
  refine bodyPost_ret (v := .tuple #[.agg #[.int .i64 0, .string ⟨#[]⟩, .string ⟨#[]⟩, .int .i64 0, .int .i64 0], .int .i64 3]) (by simp [results, Try.results14, go_sem, *]; try rfl) rfl ?_
  exact ⟨rfl, ((((Y5.out.1.2.1.setCell (by simp) _).setCell (by simp) _).setCell (by simp) _).setCell (by simp) _).setCell (by simp) _⟩

set_option maxHeartbeats 4000000 in
theorem readArp_head (a : Option Addr) (cap : Nat) (f : Nat → Int) (w : World) (h : Bytes w a 28 f) (hc : 28 ≤ cap) (hx : cap ≤ 9223372036854775807) (hq : arpBegins f = false) :
    Calls Try.prog 14 #[.slice a 28 cap] w fun e w' => e = .returned (.tuple #[.agg #[.int .i64 0, .string ⟨#[]⟩, .string ⟨#[]⟩, .int .i64 0, .int .i64 0], .int .i64 3]) ∧ Below w.heap.size w w' := by
  obtain ⟨b, off, rfl, -⟩ := h.2 (by omega)
  have X : Hid (RdS w [.int .i64 0, .string ⟨#[]⟩, .string ⟨#[]⟩, .int .i64 0, .int .i64 0] (some ⟨b, off, none⟩) 28 f (w.alloc (.cells #[.int .i64 0, .string ⟨#[]⟩, .string ⟨#[]⟩, .int .i64 0, .int .i64 0] 31))) := RdS.new h _
  have hcv := conv_ps X.out.1 0 6 6 (by omega)
  simp only [Nat.add_zero] at hcv
  obtain ⟨P0, hP0⟩ : ∃ P0, P0 = ps f 0 6 := ⟨_, rfl⟩
  rw [← hP0] at hcv
  have hq' : (P0.toList == ([0, 1, 8, 0, 6, 4] : List UInt8)) = arpBegins f := by rw [hP0]; rfl
  rw [hq] at hq'
  clear h hP0 hq
  go_enter Try.func14, Try.ntmps14
  go_wp2_with fail
  refine (part_any b off 28 cap 0 6 _ (by omega) hx).mono ?_
  rintro e w1 ⟨a', rfl, ha, hw1⟩
  obtain rfl := hw1.symm
  obtain rfl : a' = some ⟨b, off, none⟩ := by simpa using ha (by omega)
  clear hw1 ha
  go_wp2
  go_returns
  exact ⟨rfl, (Below.refl _ _).alloc (Nat.le_refl _) _⟩
end Go.Proofs.Ytcgdpijmfgkalaa
