/- ReadDatagram, the program. -/
import Derived.Test.YtfcdobicilediaaCut2
import Derived.Test.YtfcdobicilediaaEndsB
import Derived.Deep.RegionHeld3
namespace Go.Proofs.Ytfcdobicilediaa
open Go.RowKit Go.PlainAid
set_option linter.unusedVariables false
set_option maxRecDepth 20000

theorem readDg_long (src dst : Int) (a : Option Addr) (len cap : Nat) (w : World) (hl : 65536 < len) :
    Calls Try.prog 15 #[.int .i64 src, .int .i64 dst, .slice a len cap] w fun e w' => e = .returned (.tuple #[.agg #[.int .i64 0, .int .i64 0, .string ⟨#[]⟩], .int .i64 2]) ∧ Below w.heap.size w w' := by
  go_enter Try.func15, Try.ntmps15
  go_wp2
  go_returns
  exact ⟨rfl, (Below.refl _ _).alloc (Nat.le_refl _) _⟩
theorem readDg_range (src dst : Int) (a : Option Addr) (len cap : Nat) (w : World) (hl : len ≤ 65536) (h : ¬ ((0 ≤ src ∧ src ≤ 4294967295) ∧ (0 ≤ dst ∧ dst ≤ 4294967295))) :
    Calls Try.prog 15 #[.int .i64 src, .int .i64 dst, .slice a len cap] w fun e w' => e = .returned (.tuple #[.agg #[.int .i64 0, .int .i64 0, .string ⟨#[]⟩], .int .i64 4]) ∧ Below w.heap.size w w' := by
  by_cases h1 : 0 ≤ src ∧ src ≤ 4294967295
  · have b1 := dec_y h1
    have b2 := dec_n (fun h2 : 0 ≤ dst ∧ dst ≤ 4294967295 => h ⟨h1, h2⟩)
    clear h h1
    go_enter Try.func15, Try.ntmps15
    go_wp2_with fail
    refine (addressOK_any _ _).mono ?_
    rintro e w1 ⟨rfl, hw1⟩
    obtain rfl := hw1.symm
    clear hw1
    go_wp2_with fail
    refine (addressOK_any _ _).mono ?_
    rintro e w1 ⟨rfl, hw1⟩
    obtain rfl := hw1.symm
    clear hw1
    go_wp2
    go_returns
    exact ⟨rfl, (Below.refl _ _).alloc (Nat.le_refl _) _⟩
  · have b1 := dec_n h1
    clear h h1
    go_enter Try.func15, Try.ntmps15
    go_wp2_with fail
    refine (addressOK_any _ _).mono ?_
    rintro e w1 ⟨rfl, hw1⟩
    obtain rfl := hw1.symm
    clear hw1
    go_wp2
    go_returns
    exact ⟨rfl, (Below.refl _ _).alloc (Nat.le_refl _) _⟩
theorem readDg_form (src dst : Int) (a : Option Addr) (len cap : Nat) (w : World) (hl : len ≤ 65536) (h1 : 0 ≤ src ∧ src ≤ 4294967295) (h2 : 0 ≤ dst ∧ dst ≤ 4294967295) (h : len < 8 ∨ 380 < len) :
    Calls Try.prog 15 #[.int .i64 src, .int .i64 dst, .slice a len cap] w fun e w' => e = .returned (.tuple #[.agg #[.int .i64 0, .int .i64 0, .string ⟨#[]⟩], .int .i64 3]) ∧ Below w.heap.size w w' := by
  have b1 := dec_y h1
  have b2 := dec_y h2
  clear h1 h2
  rcases h with h | h
  all_goals
    go_enter Try.func15, Try.ntmps15
    go_wp2_with fail
    refine (addressOK_any _ _).mono ?_
    rintro e w1 ⟨rfl, hw1⟩
    obtain rfl := hw1.symm
    clear hw1
    go_wp2_with fail
    refine (addressOK_any _ _).mono ?_
    rintro e w1 ⟨rfl, hw1⟩
    obtain rfl := hw1.symm
    clear hw1
    go_wp2
    go_returns
    exact ⟨rfl, (Below.refl _ _).alloc (Nat.le_refl _) _⟩

set_option maxHeartbeats 2000000 in
theorem readDg_other (src dst : Int) (a : Option Addr) (len cap : Nat) (f : Nat → Int) (w : World) (h : Bytes w a len f) (hc : len ≤ cap) (hx : cap ≤ 9223372036854775807) (s0 : 0 ≤ src) (s1 : src ≤ 4294967295) (d0 : 0 ≤ dst) (d1 : dst ≤ 4294967295) (h8 : 8 ≤ len) (h380 : len ≤ 380) (hn : (len : Int) ≠ pn f 4 2) :
    Calls Try.prog 15 #[.int .i64 src, .int .i64 dst, .slice a len cap] w fun e w' => e = .returned (.tuple #[.agg #[.int .i64 0, .int .i64 0, .string ⟨#[]⟩], .int .i64 3]) ∧ Below w.heap.size w w' := by
  have b1 := dec_y (show 0 ≤ src ∧ src ≤ 4294967295 from ⟨s0, s1⟩)
  have b2 := dec_y (show 0 ≤ dst ∧ dst ≤ 4294967295 from ⟨d0, d1⟩)
  have X : Hid (RdS w [.int .i64 0, .int .i64 0, .string ⟨#[]⟩] a len f (w.alloc (.cells #[.int .i64 0, .int .i64 0, .string ⟨#[]⟩] 33))) := RdS.new h _
  have bn : ((len : Int) != pn f 4 2) = true := by simpa using hn
  clear h hn
  go_enter Try.func15, Try.ntmps15
  go_wp2_with fail
  refine (addressOK_any _ _).mono ?_
  rintro e w1 ⟨rfl, hw1⟩
  obtain rfl := hw1.symm
  clear hw1
  go_wp2_with fail
  refine (addressOK_any _ _).mono ?_
  rintro e w1 ⟨rfl, hw1⟩
  obtain rfl := hw1.symm
  clear hw1
  go_wp2_with fail
  refine (at_pn _ len _ f 4 2 _ X.out.1 (by omega) hc (by omega) (by omega) (by omega)).mono ?_
  rintro e w1 ⟨rfl, hw1⟩
  obtain rfl := hw1.symm
  clear hw1
  go_wp2
  go_returns
  exact ⟨rfl, (Below.refl _ _).alloc (Nat.le_refl _) _⟩

set_option maxHeartbeats 2000000 in
theorem readDg_sum (src dst : Int) (a : Option Addr) (len cap : Nat) (f : Nat → Int) (w : World) (h : Bytes w a len f) (hc : len ≤ cap) (hx : cap ≤ 9223372036854775807) (s0 : 0 ≤ src) (s1 : src ≤ 4294967295) (d0 : 0 ≤ dst) (d1 : dst ≤ 4294967295) (h8 : 8 ≤ len) (h380 : len ≤ 380) (hn : (len : Int) = pn f 4 2) (hz : pn f 6 2 ≠ 0) (hs : endsL src dst 17 ((List.range len).map f) ≠ 0) :
    Calls Try.prog 15 #[.int .i64 src, .int .i64 dst, .slice a len cap] w fun e w' => e = .returned (.tuple #[.agg #[.int .i64 0, .int .i64 0, .string ⟨#[]⟩], .int .i64 8]) ∧ Below w.heap.size w w' := by
  have b1 := dec_y (show 0 ≤ src ∧ src ≤ 4294967295 from ⟨s0, s1⟩)
  have b2 := dec_y (show 0 ≤ dst ∧ dst ≤ 4294967295 from ⟨d0, d1⟩)
  have X : Hid (RdS w [.int .i64 0, .int .i64 0, .string ⟨#[]⟩] a len f (w.alloc (.cells #[.int .i64 0, .int .i64 0, .string ⟨#[]⟩] 33))) := RdS.new h _
  have bn : ((len : Int) != pn f 4 2) = false := by simpa using hn
  have bz : (pn f 6 2 != 0) = true := by simpa using hz
  obtain ⟨E, hE⟩ : ∃ E, E = endsL src dst 17 ((List.range len).map f) := ⟨_, rfl⟩
  have bE : (E != 0) = true := by rw [hE]; simpa using hs
  have HE : Hid (E = endsL src dst 17 ((List.range len).map f)) := hE
  clear h hn hz hs hE
  go_enter Try.func15, Try.ntmps15
  go_wp2_with fail
  refine (addressOK_any _ _).mono ?_
  rintro e w1 ⟨rfl, hw1⟩
  obtain rfl := hw1.symm
  clear hw1
  go_wp2_with fail
  refine (addressOK_any _ _).mono ?_
  rintro e w1 ⟨rfl, hw1⟩
  obtain rfl := hw1.symm
  clear hw1
  go_wp2_with fail
  refine (at_pn _ len _ f 4 2 _ X.out.1 (by omega) hc (by omega) (by omega) (by omega)).mono ?_
  rintro e w1 ⟨rfl, hw1⟩
  obtain rfl := hw1.symm
  clear hw1
  go_wp2_with fail
  refine (at_pn _ len _ f 6 2 _ X.out.1 (by omega) hc (by omega) (by omega) (by omega)).mono ?_
  rintro e w1 ⟨rfl, hw1⟩
  obtain rfl := hw1.symm
  clear hw1
  go_wp2_with fail
  refine (endsSum_any src dst 17 _ len _ f _ X.out.1 (by omega) (by omega) s0 s1 d0 d1 (by omega) (by omega)).mono ?_
  rintro e w2 ⟨rfl, b3⟩
  have X2 : Hid (RdS w [.int .i64 0, .int .i64 0, .string ⟨#[]⟩] a len f w2) := RdS.next X.out b3
  clear b3
  rw [← HE.out]
  have k0 := X2.out.2.2.2.1.at 0 _ rfl
  have y0 := X2.out.2.2.2.2 0
  have k1 := X2.out.2.2.2.1.at 1 _ rfl
  have y1 := X2.out.2.2.2.2 1
  have k2 := X2.out.2.2.2.1.at 2 _ rfl
  have y2 := X2.out.2.2.2.2 2
  go_wp2
  (try simp only [Exit.inBlock, Exit.then])
  refine bodyPost_ret (v := .tuple #[.agg #[.int .i64 0, .int .i64 0, .string ⟨#[]⟩], .int .i64 8]) (by simp [results, Try.results15, go_sem, *]; try rfl) rfl ?_
  exact ⟨rfl, ((X2.out.2.1.setCell (by simp) _).setCell (by simp) _).setCell (by simp) _⟩

set_option maxHeartbeats 4000000 in
theorem readDg_nosum (src dst : Int) (a : Option Addr) (len cap : Nat) (f : Nat → Int) (w : World) (h : Bytes w a len f) (hc : len ≤ cap) (hx : cap ≤ 9223372036854775807) (s0 : 0 ≤ src) (s1 : src ≤ 4294967295) (d0 : 0 ≤ dst) (d1 : dst ≤ 4294967295) (h8 : 8 ≤ len) (h380 : len ≤ 380) (hn : (len : Int) = pn f 4 2) (hz : pn f 6 2 = 0) :
    Calls Try.prog 15 #[.int .i64 src, .int .i64 dst, .slice a len cap] w fun e w' => e = .returned (.tuple #[.agg #[.int .i64 (pn f 0 2), .int .i64 (pn f 2 2), .string (ps f 8 (len - 8))], .int .i64 0]) ∧ Below w.heap.size w w' := by
  have b1 := dec_y (show 0 ≤ src ∧ src ≤ 4294967295 from ⟨s0, s1⟩)
  have b2 := dec_y (show 0 ≤ dst ∧ dst ≤ 4294967295 from ⟨d0, d1⟩)
  have X : Hid (RdS w [.int .i64 0, .int .i64 0, .string ⟨#[]⟩] a len f (w.alloc (.cells #[.int .i64 0, .int .i64 0, .string ⟨#[]⟩] 33))) := RdS.new h _
  have bn : ((len : Int) != pn f 4 2) = false := by simpa using hn
  have bz : (pn f 6 2 != 0) = false := by simpa using hz
  clear hz
  obtain ⟨b, off, rfl, -⟩ := h.2 (by omega)
  have M0 : Hid (∀ wx : World, Hid (RdS w [.int .i64 0, .int .i64 0, .string ⟨#[]⟩] (some ⟨b, off, none⟩) len f wx) → Calls Try.prog 45 #[.slice (some ⟨b, off, none⟩) len cap, .int .i64 0, .int .i64 2] wx fun e w' => e = .returned (.int .i64 (pn f 0 2)) ∧ w' = wx) := fun wx hX => at_pn _ len cap f 0 2 wx hX.out.1 (by omega) hc (by omega) (by omega) (by omega)
  have M2 : Hid (∀ wx : World, Hid (RdS w [.int .i64 0, .int .i64 0, .string ⟨#[]⟩] (some ⟨b, off, none⟩) len f wx) → Calls Try.prog 45 #[.slice (some ⟨b, off, none⟩) len cap, .int .i64 2, .int .i64 2] wx fun e w' => e = .returned (.int .i64 (pn f 2 2)) ∧ w' = wx) := fun wx hX => at_pn _ len cap f 2 2 wx hX.out.1 (by omega) hc (by omega) (by omega) (by omega)
  obtain ⟨ad, hl, hcp, hcv, hcase⟩ := tail_cut (b := b) (off := off) h.1 8 h8 hc
  have HCV : Hid (∀ wx : World, Bytes wx (some ⟨b, off, none⟩) len f → (convert 22 9 (.slice (some ad) hl hcp)).run Try.prog wx = .ok (.string (ps f 8 (len - 8))) wx) := hcv
  clear h hn hcv
  rcases hcase with ⟨rfl, rfl, rfl, rfl⟩ | ⟨hz, rfl, rfl, rfl⟩
  all_goals
    go_enter Try.func15, Try.ntmps15
    go_wp2_with fail
    refine (addressOK_any _ _).mono ?_
    rintro e w1 ⟨rfl, hw1⟩
    obtain rfl := hw1.symm
    clear hw1
    go_wp2_with fail
    refine (addressOK_any _ _).mono ?_
    rintro e w1 ⟨rfl, hw1⟩
    obtain rfl := hw1.symm
    clear hw1
    go_wp2_with fail
    refine (at_pn _ len _ f 4 2 _ X.out.1 (by omega) hc (by omega) (by omega) (by omega)).mono ?_
    rintro e w1 ⟨rfl, hw1⟩
    obtain rfl := hw1.symm
    clear hw1
    go_wp2_with fail
    refine (at_pn _ len _ f 6 2 _ X.out.1 (by omega) hc (by omega) (by omega) (by omega)).mono ?_
    rintro e w1 ⟨rfl, hw1⟩
    obtain rfl := hw1.symm
    clear hw1
    have X0 : Hid (RdS w [.int .i64 0, .int .i64 0, .string ⟨#[]⟩] (some ⟨b, off, none⟩) len f (w.alloc (.cells #[.int .i64 0, .int .i64 0, .string ⟨#[]⟩] 33)).drew) := X.out.drew
    have cv0 := HCV.out _ X0.out.1
    have cvp := HCV.out _ X.out.1
    have kp0 := X.out.2.2.2.1.at 0 _ rfl
    have yp0 := X.out.2.2.2.2 0
    have kp1 := X.out.2.2.2.1.at 1 _ rfl
    have yp1 := X.out.2.2.2.2 1
    have kp2 := X.out.2.2.2.1.at 2 _ rfl
    have yp2 := X.out.2.2.2.2 2
    have k0 := X0.out.2.2.2.1.at 0 _ rfl
    have y0 := X0.out.2.2.2.2 0
    have k1 := X0.out.2.2.2.1.at 1 _ rfl
    have y1 := X0.out.2.2.2.2 1
    have k2 := X0.out.2.2.2.1.at 2 _ rfl
    have y2 := X0.out.2.2.2.2 2
    go_wp2
    go_region_with (first
      | (go_at_call 45; (with_reducible refine (M0.out _ X0).mono ?_); rintro e w9 ⟨rfl, rfl⟩)
      | (go_at_call 45; (with_reducible refine (M2.out _ X0).mono ?_); rintro e w9 ⟨rfl, rfl⟩))
    all_goals
      go_wp2
      (try simp only [Exit.inBlock, Exit.then])
      refine bodyPost_ret (v := .tuple #[.agg #[.int .i64 (pn f 0 2), .int .i64 (pn f 2 2), .string (ps f 8 (len - 8))], .int .i64 0]) (by simp [results, Try.results15, go_sem, *]; try rfl) rfl ?_
      first | exact ⟨rfl, ((Below.refl _ _).alloc (Nat.le_refl _) _).drew⟩ | exact ⟨rfl, ((X0.out.2.1.setCell (by simp) _).setCell (by simp) _).setCell (by simp) _⟩

set_option maxHeartbeats 4000000 in
theorem readDg_yes (src dst : Int) (a : Option Addr) (len cap : Nat) (f : Nat → Int) (w : World) (h : Bytes w a len f) (hc : len ≤ cap) (hx : cap ≤ 9223372036854775807) (s0 : 0 ≤ src) (s1 : src ≤ 4294967295) (d0 : 0 ≤ dst) (d1 : dst ≤ 4294967295) (h8 : 8 ≤ len) (h380 : len ≤ 380) (hn : (len : Int) = pn f 4 2) (hz : pn f 6 2 ≠ 0) (hs : endsL src dst 17 ((List.range len).map f) = 0) :
    Calls Try.prog 15 #[.int .i64 src, .int .i64 dst, .slice a len cap] w fun e w' => e = .returned (.tuple #[.agg #[.int .i64 (pn f 0 2), .int .i64 (pn f 2 2), .string (ps f 8 (len - 8))], .int .i64 0]) ∧ Below w.heap.size w w' := by
  have b1 := dec_y (show 0 ≤ src ∧ src ≤ 4294967295 from ⟨s0, s1⟩)
  have b2 := dec_y (show 0 ≤ dst ∧ dst ≤ 4294967295 from ⟨d0, d1⟩)
  have X : Hid (RdS w [.int .i64 0, .int .i64 0, .string ⟨#[]⟩] a len f (w.alloc (.cells #[.int .i64 0, .int .i64 0, .string ⟨#[]⟩] 33))) := RdS.new h _
  have bn : ((len : Int) != pn f 4 2) = false := by simpa using hn
  have bz : (pn f 6 2 != 0) = true := by simpa using hz
  have HE : Hid (endsL src dst 17 ((List.range len).map f) = 0) := hs
  clear hz hs
  obtain ⟨b, off, rfl, -⟩ := h.2 (by omega)
  have M0 : Hid (∀ wx : World, Hid (RdS w [.int .i64 0, .int .i64 0, .string ⟨#[]⟩] (some ⟨b, off, none⟩) len f wx) → Calls Try.prog 45 #[.slice (some ⟨b, off, none⟩) len cap, .int .i64 0, .int .i64 2] wx fun e w' => e = .returned (.int .i64 (pn f 0 2)) ∧ w' = wx) := fun wx hX => at_pn _ len cap f 0 2 wx hX.out.1 (by omega) hc (by omega) (by omega) (by omega)
  have M2 : Hid (∀ wx : World, Hid (RdS w [.int .i64 0, .int .i64 0, .string ⟨#[]⟩] (some ⟨b, off, none⟩) len f wx) → Calls Try.prog 45 #[.slice (some ⟨b, off, none⟩) len cap, .int .i64 2, .int .i64 2] wx fun e w' => e = .returned (.int .i64 (pn f 2 2)) ∧ w' = wx) := fun wx hX => at_pn _ len cap f 2 2 wx hX.out.1 (by omega) hc (by omega) (by omega) (by omega)
  obtain ⟨ad, hl, hcp, hcv, hcase⟩ := tail_cut (b := b) (off := off) h.1 8 h8 hc
  have HCV : Hid (∀ wx : World, Bytes wx (some ⟨b, off, none⟩) len f → (convert 22 9 (.slice (some ad) hl hcp)).run Try.prog wx = .ok (.string (ps f 8 (len - 8))) wx) := hcv
  clear h hn hcv
  rcases hcase with ⟨rfl, rfl, rfl, rfl⟩ | ⟨hz, rfl, rfl, rfl⟩
  all_goals
    go_enter Try.func15, Try.ntmps15
    go_wp2_with fail
    refine (addressOK_any _ _).mono ?_
    rintro e w1 ⟨rfl, hw1⟩
    obtain rfl := hw1.symm
    clear hw1
    go_wp2_with fail
    refine (addressOK_any _ _).mono ?_
    rintro e w1 ⟨rfl, hw1⟩
    obtain rfl := hw1.symm
    clear hw1
    go_wp2_with fail
    refine (at_pn _ len _ f 4 2 _ X.out.1 (by omega) hc (by omega) (by omega) (by omega)).mono ?_
    rintro e w1 ⟨rfl, hw1⟩
    obtain rfl := hw1.symm
    clear hw1
    go_wp2_with fail
    refine (at_pn _ len _ f 6 2 _ X.out.1 (by omega) hc (by omega) (by omega) (by omega)).mono ?_
    rintro e w1 ⟨rfl, hw1⟩
    obtain rfl := hw1.symm
    clear hw1
    go_wp2_with fail
    refine (endsSum_any src dst 17 _ len _ f _ X.out.1 (by omega) (by omega) s0 s1 d0 d1 (by omega) (by omega)).mono ?_
    rintro e w2 ⟨rfl, b3⟩
    have X2 : Hid (RdS w [.int .i64 0, .int .i64 0, .string ⟨#[]⟩] (some ⟨b, off, none⟩) len f w2) := RdS.next X.out b3
    clear b3
    rw [HE.out]
    have X0 : Hid (RdS w [.int .i64 0, .int .i64 0, .string ⟨#[]⟩] (some ⟨b, off, none⟩) len f w2.drew) := X2.out.drew
    have cv0 := HCV.out _ X0.out.1
    have cvp := HCV.out _ X2.out.1
    have kp0 := X2.out.2.2.2.1.at 0 _ rfl
    have yp0 := X2.out.2.2.2.2 0
    have kp1 := X2.out.2.2.2.1.at 1 _ rfl
    have yp1 := X2.out.2.2.2.2 1
    have kp2 := X2.out.2.2.2.1.at 2 _ rfl
    have yp2 := X2.out.2.2.2.2 2
    have k0 := X0.out.2.2.2.1.at 0 _ rfl
    have y0 := X0.out.2.2.2.2 0
    have k1 := X0.out.2.2.2.1.at 1 _ rfl
    have y1 := X0.out.2.2.2.2 1
    have k2 := X0.out.2.2.2.1.at 2 _ rfl
    have y2 := X0.out.2.2.2.2 2
    go_wp2
    go_region_with (first
      | (go_at_call 45; (with_reducible refine (M0.out _ X0).mono ?_); rintro e w9 ⟨rfl, rfl⟩)
      | (go_at_call 45; (with_reducible refine (M2.out _ X0).mono ?_); rintro e w9 ⟨rfl, rfl⟩))
    all_goals
      go_wp2
      (try simp only [Exit.inBlock, Exit.then])
      refine bodyPost_ret (v := .tuple #[.agg #[.int .i64 (pn f 0 2), .int .i64 (pn f 2 2), .string (ps f 8 (len - 8))], .int .i64 0]) (by simp [results, Try.results15, go_sem, *]; try rfl) rfl ?_
      first | exact ⟨rfl, ((Below.refl _ _).alloc (Nat.le_refl _) _).drew⟩ | exact ⟨rfl, ((X0.out.2.1.setCell (by simp) _).setCell (by simp) _).setCell (by simp) _⟩
end Go.Proofs.Ytfcdobicilediaa
