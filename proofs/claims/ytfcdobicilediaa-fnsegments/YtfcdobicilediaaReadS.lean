/- ReadSegment, the program. -/
import Derived.Test.YtfcdobicilediaaCut2
import Derived.Test.YtfcdobicilediaaEndsB
import Derived.Test.YtfcdobicilediaaReadP
import Derived.Deep.RegionHeld3
namespace Go.Proofs.Ytfcdobicilediaa
open Go.RowKit Go.PlainAid
set_option linter.unusedVariables false
set_option maxRecDepth 20000

/-- What holds, as one limb that no tactic opens. -/
structure Kept (p : Prop) : Prop where
  out : p
theorem Bytes.far {w : World} {b off len g k : Nat} {f : Nat → Int} {v : Value} (h : Bytes w (some ⟨b, off, none⟩) len f) (hn : g ≠ b) : Bytes (w.setCell ⟨g, k, none⟩ v) (some ⟨b, off, none⟩) len f := by
  refine ⟨h.1, fun h0 => ⟨b, off, rfl, fun i hi => ?_⟩⟩
  rw [World.cell?_setCell_other _ _ _ _ (fun hh => hn (Addr.mk.inj hh).1)]
  exact h.cellAt i hi

theorem Kept.drew {w : World} {a : Option Addr} {len : Nat} {f : Nat → Int} (h : Kept (Bytes w a len f)) : Kept (Bytes w.drew a len f) := h
theorem Kept.set {w : World} {b off len g k : Nat} {f : Nat → Int} {v : Value} (hn : g ≠ b) (h : Kept (Bytes w (some ⟨b, off, none⟩) len f)) : Kept (Bytes (w.setCell ⟨g, k, none⟩ v) (some ⟨b, off, none⟩) len f) := ⟨h.out.far hn⟩

theorem readSg_long (src dst : Int) (a : Option Addr) (len cap : Nat) (w : World) (hl : 65536 < len) :
    Calls Try.prog 10 #[.int .i64 src, .int .i64 dst, .slice a len cap] w fun e w' => e = .returned (.tuple #[.agg #[.int .i64 0, .int .i64 0, .int .i64 0, .int .i64 0, .int .i64 0, .int .i64 0, .string ⟨#[]⟩], .int .i64 2]) ∧ Below w.heap.size w w' := by
  go_enter Try.func10, Try.ntmps10
  go_wp2
  go_returns
  exact ⟨rfl, (Below.refl _ _).alloc (Nat.le_refl _) _⟩
theorem readSg_range (src dst : Int) (a : Option Addr) (len cap : Nat) (w : World) (hl : len ≤ 65536) (h : ¬ ((0 ≤ src ∧ src ≤ 4294967295) ∧ (0 ≤ dst ∧ dst ≤ 4294967295))) :
    Calls Try.prog 10 #[.int .i64 src, .int .i64 dst, .slice a len cap] w fun e w' => e = .returned (.tuple #[.agg #[.int .i64 0, .int .i64 0, .int .i64 0, .int .i64 0, .int .i64 0, .int .i64 0, .string ⟨#[]⟩], .int .i64 4]) ∧ Below w.heap.size w w' := by
  by_cases h1 : 0 ≤ src ∧ src ≤ 4294967295
  · have b1 := dec_y h1
    have b2 := dec_n (fun h2 : 0 ≤ dst ∧ dst ≤ 4294967295 => h ⟨h1, h2⟩)
    clear h h1
    go_enter Try.func10, Try.ntmps10
    go_wp2_with fail
    refine (addressOK_any _ _).mono ?_
    rintro e w1 ⟨rfl, hw1⟩
    obtain rfl := hw1.symm
    clear hw1
    go_wp2_with fail
    refine (addressOK_any _ _).mono ?_
    rintro e w1 ⟨rfl, hw1⟩
    obtain rfl := hw1.symm
    clear hw1
    go_wp2
    go_returns
    exact ⟨rfl, (Below.refl _ _).alloc (Nat.le_refl _) _⟩
  · have b1 := dec_n h1
    clear h h1
    go_enter Try.func10, Try.ntmps10
    go_wp2_with fail
    refine (addressOK_any _ _).mono ?_
    rintro e w1 ⟨rfl, hw1⟩
    obtain rfl := hw1.symm
    clear hw1
    go_wp2
    go_returns
    exact ⟨rfl, (Below.refl _ _).alloc (Nat.le_refl _) _⟩
theorem readSg_form (src dst : Int) (a : Option Addr) (len cap : Nat) (w : World) (hl : len ≤ 65536) (h1 : 0 ≤ src ∧ src ≤ 4294967295) (h2 : 0 ≤ dst ∧ dst ≤ 4294967295) (h : len < 20 ∨ 380 < len) :
    Calls Try.prog 10 #[.int .i64 src, .int .i64 dst, .slice a len cap] w fun e w' => e = .returned (.tuple #[.agg #[.int .i64 0, .int .i64 0, .int .i64 0, .int .i64 0, .int .i64 0, .int .i64 0, .string ⟨#[]⟩], .int .i64 3]) ∧ Below w.heap.size w w' := by
  have b1 := dec_y h1
  have b2 := dec_y h2
  clear h1 h2
  rcases h with h | h
  all_goals
    go_enter Try.func10, Try.ntmps10
    go_wp2_with fail
    refine (addressOK_any _ _).mono ?_
    rintro e w1 ⟨rfl, hw1⟩
    obtain rfl := hw1.symm
    clear hw1
    go_wp2_with fail
    refine (addressOK_any _ _).mono ?_
    rintro e w1 ⟨rfl, hw1⟩
    obtain rfl := hw1.symm
    clear hw1
    go_wp2
    go_returns
    exact ⟨rfl, (Below.refl _ _).alloc (Nat.le_refl _) _⟩

theorem readSg_head (src dst : Int) (a : Option Addr) (len cap : Nat) (f : Nat → Int) (w : World) (h : Bytes w a len f) (hc : len ≤ cap) (hx : cap ≤ 9223372036854775807) (s0 : 0 ≤ src) (s1 : src ≤ 4294967295) (d0 : 0 ≤ dst) (d1 : dst ≤ 4294967295) (h20 : 20 ≤ len) (h380 : len ≤ 380) (hn : 4 * (f 12 / 16) < 20 ∨ (len : Int) < 4 * (f 12 / 16)) :
    Calls Try.prog 10 #[.int .i64 src, .int .i64 dst, .slice a len cap] w fun e w' => e = .returned (.tuple #[.agg #[.int .i64 0, .int .i64 0, .int .i64 0, .int .i64 0, .int .i64 0, .int .i64 0, .string ⟨#[]⟩], .int .i64 3]) ∧ Below w.heap.size w w' := by
  have b1 := dec_y (show 0 ≤ src ∧ src ≤ 4294967295 from ⟨s0, s1⟩)
  have b2 := dec_y (show 0 ≤ dst ∧ dst ≤ 4294967295 from ⟨d0, d1⟩)
  obtain ⟨b, off, rfl, -⟩ := h.2 (by omega)
  have X : Hid (RdS w [.int .i64 0, .int .i64 0, .int .i64 0, .int .i64 0, .int .i64 0, .int .i64 0, .string ⟨#[]⟩] (some ⟨b, off, none⟩) len f (w.alloc (.cells #[.int .i64 0, .int .i64 0, .int .i64 0, .int .i64 0, .int .i64 0, .int .i64 0, .string ⟨#[]⟩] 24))) := RdS.new h _
  have c12 := X.out.1.cellAt 12 (by omega)
  obtain ⟨z12, z12'⟩ := h.1 12
  clear h
  rcases hn with hn | hn
  all_goals
    go_enter Try.func10, Try.ntmps10
    go_wp2_with fail
    refine (addressOK_any _ _).mono ?_
    rintro e w1 ⟨rfl, hw1⟩
    obtain rfl := hw1.symm
    clear hw1
    go_wp2_with fail
    refine (addressOK_any _ _).mono ?_
    rintro e w1 ⟨rfl, hw1⟩
    obtain rfl := hw1.symm
    clear hw1
    go_wp2
    go_returns
    exact ⟨rfl, (Below.refl _ _).alloc (Nat.le_refl _) _⟩

set_option maxHeartbeats 2000000 in
theorem readSg_sum (src dst : Int) (a : Option Addr) (len cap : Nat) (f : Nat → Int) (w : World) (h : Bytes w a len f) (hc : len ≤ cap) (hx : cap ≤ 9223372036854775807) (s0 : 0 ≤ src) (s1 : src ≤ 4294967295) (d0 : 0 ≤ dst) (d1 : dst ≤ 4294967295) (h20 : 20 ≤ len) (h380 : len ≤ 380) (H : Nat) (hH : (H : Int) = 4 * (f 12 / 16)) (hH0 : 20 ≤ H) (hH1 : H ≤ len) (hs : endsL src dst 6 ((List.range len).map f) ≠ 0) :
    Calls Try.prog 10 #[.int .i64 src, .int .i64 dst, .slice a len cap] w fun e w' => e = .returned (.tuple #[.agg #[.int .i64 0, .int .i64 0, .int .i64 0, .int .i64 0, .int .i64 0, .int .i64 0, .string ⟨#[]⟩], .int .i64 8]) ∧ Below w.heap.size w w' := by
  have b1 := dec_y (show 0 ≤ src ∧ src ≤ 4294967295 from ⟨s0, s1⟩)
  have b2 := dec_y (show 0 ≤ dst ∧ dst ≤ 4294967295 from ⟨d0, d1⟩)
  obtain ⟨b, off, rfl, -⟩ := h.2 (by omega)
  have X : Hid (RdS w [.int .i64 0, .int .i64 0, .int .i64 0, .int .i64 0, .int .i64 0, .int .i64 0, .string ⟨#[]⟩] (some ⟨b, off, none⟩) len f (w.alloc (.cells #[.int .i64 0, .int .i64 0, .int .i64 0, .int .i64 0, .int .i64 0, .int .i64 0, .string ⟨#[]⟩] 24))) := RdS.new h _
  have c12 := X.out.1.cellAt 12 (by omega)
  obtain ⟨z12, z12'⟩ := h.1 12
  have hq : f 12 / 16 * 4 = (H : Int) := by omega
  obtain ⟨E, hE⟩ : ∃ E, E = endsL src dst 6 ((List.range len).map f) := ⟨_, rfl⟩
  have bE : (E != 0) = true := by rw [hE]; simpa using hs
  have HE : Hid (E = endsL src dst 6 ((List.range len).map f)) := hE
  clear h hs hE hH
  go_enter Try.func10, Try.ntmps10
  go_wp2_with fail
  refine (addressOK_any _ _).mono ?_
  rintro e w1 ⟨rfl, hw1⟩
  obtain rfl := hw1.symm
  clear hw1
  go_wp2_with fail
  refine (addressOK_any _ _).mono ?_
  rintro e w1 ⟨rfl, hw1⟩
  obtain rfl := hw1.symm
  clear hw1
  go_wp2_with fail
  refine (endsSum_any src dst 6 _ len _ f _ X.out.1 (by omega) (by omega) s0 s1 d0 d1 (by omega) (by omega)).mono ?_
  rintro e w2 ⟨rfl, b3⟩
  have X2 : Hid (RdS w [.int .i64 0, .int .i64 0, .int .i64 0, .int .i64 0, .int .i64 0, .int .i64 0, .string ⟨#[]⟩] (some ⟨b, off, none⟩) len f w2) := RdS.next X.out b3
  clear b3
  rw [← HE.out]
  have k0 := X2.out.2.2.2.1.at 0 _ rfl
  have y0 := X2.out.2.2.2.2 0
  have k1 := X2.out.2.2.2.1.at 1 _ rfl
  have y1 := X2.out.2.2.2.2 1
  have k2 := X2.out.2.2.2.1.at 2 _ rfl
  have y2 := X2.out.2.2.2.2 2
  have k3 := X2.out.2.2.2.1.at 3 _ rfl
  have y3 := X2.out.2.2.2.2 3
  have k4 := X2.out.2.2.2.1.at 4 _ rfl
  have y4 := X2.out.2.2.2.2 4
  have k5 := X2.out.2.2.2.1.at 5 _ rfl
  have y5 := X2.out.2.2.2.2 5
  have k6 := X2.out.2.2.2.1.at 6 _ rfl
  have y6 := X2.out.2.2.2.2 6
  go_wp2
  (try simp only [Exit.inBlock, Exit.then])
  refine bodyPost_ret (v := .tuple #[.agg #[.int .i64 0, .int .i64 0, .int .i64 0, .int .i64 0, .int .i64 0, .int .i64 0, .string ⟨#[]⟩], .int .i64 8]) (by simp [results, Try.results10, go_sem, *]; try rfl) rfl ?_
  exact ⟨rfl, ((((((X2.out.2.1.setCell (by simp) _).setCell (by simp) _).setCell (by simp) _).setCell (by simp) _).setCell (by simp) _).setCell (by simp) _).setCell (by simp) _⟩

set_option maxHeartbeats 8000000 in
theorem readSg_yes (src dst : Int) (a : Option Addr) (len cap : Nat) (f : Nat → Int) (w : World) (h : Bytes w a len f) (hc : len ≤ cap) (hx : cap ≤ 9223372036854775807) (s0 : 0 ≤ src) (s1 : src ≤ 4294967295) (d0 : 0 ≤ dst) (d1 : dst ≤ 4294967295) (h20 : 20 ≤ len) (h380 : len ≤ 380) (H : Nat) (hH : (H : Int) = 4 * (f 12 / 16)) (hH0 : 20 ≤ H) (hH1 : H ≤ len) (hs : endsL src dst 6 ((List.range len).map f) = 0) :
    Calls Try.prog 10 #[.int .i64 src, .int .i64 dst, .slice a len cap] w fun e w' => e = .returned (.tuple #[.agg #[.int .i64 (pn f 0 2), .int .i64 (pn f 2 2), .int .i64 (pn f 4 4), .int .i64 (pn f 8 4), .int .i64 (f 13 % 32), .int .i64 (pn f 14 2), .string (ps f H (len - H))], .int .i64 0]) ∧ Below w.heap.size w w' := by
  have b1 := dec_y (show 0 ≤ src ∧ src ≤ 4294967295 from ⟨s0, s1⟩)
  have b2 := dec_y (show 0 ≤ dst ∧ dst ≤ 4294967295 from ⟨d0, d1⟩)
  obtain ⟨b, off, rfl, -⟩ := h.2 (by omega)
  have X : Hid (RdS w [.int .i64 0, .int .i64 0, .int .i64 0, .int .i64 0, .int .i64 0, .int .i64 0, .string ⟨#[]⟩] (some ⟨b, off, none⟩) len f (w.alloc (.cells #[.int .i64 0, .int .i64 0, .int .i64 0, .int .i64 0, .int .i64 0, .int .i64 0, .string ⟨#[]⟩] 24))) := RdS.new h _
  have c12 := X.out.1.cellAt 12 (by omega)
  obtain ⟨z12, z12'⟩ := h.1 12
  have hq : f 12 / 16 * 4 = (H : Int) := by omega
  have HE : Hid (endsL src dst 6 ((List.range len).map f) = 0) := hs
  have M0 : Hid (∀ wx : World, Hid (RdS w [.int .i64 0, .int .i64 0, .int .i64 0, .int .i64 0, .int .i64 0, .int .i64 0, .string ⟨#[]⟩] (some ⟨b, off, none⟩) len f wx) → Calls Try.prog 45 #[.slice (some ⟨b, off, none⟩) len cap, .int .i64 0, .int .i64 2] wx fun e w' => e = .returned (.int .i64 (pn f 0 2)) ∧ w' = wx) := fun wx hX => at_pn _ len cap f 0 2 wx hX.out.1 (by omega) hc (by omega) (by omega) (by omega)
  have M2 : Hid (∀ wx : World, Hid (RdS w [.int .i64 0, .int .i64 0, .int .i64 0, .int .i64 0, .int .i64 0, .int .i64 0, .string ⟨#[]⟩] (some ⟨b, off, none⟩) len f wx) → Calls Try.prog 45 #[.slice (some ⟨b, off, none⟩) len cap, .int .i64 2, .int .i64 2] wx fun e w' => e = .returned (.int .i64 (pn f 2 2)) ∧ w' = wx) := fun wx hX => at_pn _ len cap f 2 2 wx hX.out.1 (by omega) hc (by omega) (by omega) (by omega)
  have M4 : Hid (∀ wx : World, Hid (RdS w [.int .i64 0, .int .i64 0, .int .i64 0, .int .i64 0, .int .i64 0, .int .i64 0, .string ⟨#[]⟩] (some ⟨b, off, none⟩) len f wx) → Calls Try.prog 45 #[.slice (some ⟨b, off, none⟩) len cap, .int .i64 4, .int .i64 4] wx fun e w' => e = .returned (.int .i64 (pn f 4 4)) ∧ w' = wx) := fun wx hX => at_pn _ len cap f 4 4 wx hX.out.1 (by omega) hc (by omega) (by omega) (by omega)
  have M8 : Hid (∀ wx : World, Hid (RdS w [.int .i64 0, .int .i64 0, .int .i64 0, .int .i64 0, .int .i64 0, .int .i64 0, .string ⟨#[]⟩] (some ⟨b, off, none⟩) len f wx) → Calls Try.prog 45 #[.slice (some ⟨b, off, none⟩) len cap, .int .i64 8, .int .i64 4] wx fun e w' => e = .returned (.int .i64 (pn f 8 4)) ∧ w' = wx) := fun wx hX => at_pn _ len cap f 8 4 wx hX.out.1 (by omega) hc (by omega) (by omega) (by omega)
  have M14 : Hid (∀ wx : World, Hid (RdS w [.int .i64 0, .int .i64 0, .int .i64 0, .int .i64 0, .int .i64 0, .int .i64 0, .string ⟨#[]⟩] (some ⟨b, off, none⟩) len f wx) → Calls Try.prog 45 #[.slice (some ⟨b, off, none⟩) len cap, .int .i64 14, .int .i64 2] wx fun e w' => e = .returned (.int .i64 (pn f 14 2)) ∧ w' = wx) := fun wx hX => at_pn _ len cap f 14 2 wx hX.out.1 (by omega) hc (by omega) (by omega) (by omega)
  obtain ⟨ad, hl, hcp, hcv, hcase⟩ := tail_cut (b := b) (off := off) h.1 H hH1 hc
  have hm : bits BinOp.and IntKind.i64 (f 13) 31 = f 13 % 32 := by have := h.1 13; exact Bt.mask 5 (by omega) _ (by omega) (by omega)
  have hw13 : IntKind.i64.wrap (f 13) = f 13 := by have := h.1 13; rw [IntKind.wrap_i64]; omega
  have iH : (0 : Int) ≤ (H : Int) := by omega
  have iL : (H : Int) ≤ (len : Int) := by omega
  have i13 : (13 : Int) < (len : Int) := by omega
  have cw := h.cellAt 13 (by omega)
  have n13 : w.heap.size ≠ b := World.new_ne w _ cw
  have hcvR : ∀ wx : World, Kept (Bytes wx (some ⟨b, off, none⟩) len f) → (convert 22 9 (.slice (some ad) hl hcp)).run Try.prog wx = .ok (.string (ps f H (len - H))) wx := fun wx hh => hcv wx hh.out
  clear h hs hcv hH
  rcases hcase with ⟨hz, rfl, rfl, rfl⟩ | ⟨hz, rfl, rfl, rfl⟩
  · have hz' := hz.symm
    clear hz
    subst hz'
    all_goals
      go_enter Try.func10, Try.ntmps10
      go_wp2_with fail
      refine (addressOK_any _ _).mono ?_
      rintro e w1 ⟨rfl, hw1⟩
      obtain rfl := hw1.symm
      clear hw1
      go_wp2_with fail
      refine (addressOK_any _ _).mono ?_
      rintro e w1 ⟨rfl, hw1⟩
      obtain rfl := hw1.symm
      clear hw1
      go_wp2_with fail
      refine (endsSum_any src dst 6 _ len _ f _ X.out.1 (by omega) (by omega) s0 s1 d0 d1 (by omega) (by omega)).mono ?_
      rintro e w2 ⟨rfl, b3⟩
      have X2 : Hid (RdS w [.int .i64 0, .int .i64 0, .int .i64 0, .int .i64 0, .int .i64 0, .int .i64 0, .string ⟨#[]⟩] (some ⟨b, off, none⟩) len f w2) := RdS.next X.out b3
      clear b3
      rw [HE.out]
      have X0 : Hid (RdS w [.int .i64 0, .int .i64 0, .int .i64 0, .int .i64 0, .int .i64 0, .int .i64 0, .string ⟨#[]⟩] (some ⟨b, off, none⟩) len f w2.drew) := X2.out.drew
      have c13 := X2.out.1.cellAt 13 (by omega)
      have HB : Kept (Bytes w2 (some ⟨b, off, none⟩) len f) := ⟨X2.out.1⟩
      have kp0 := X2.out.2.2.2.1.at 0 _ rfl
      have yp0 := X2.out.2.2.2.2 0
      have kp1 := X2.out.2.2.2.1.at 1 _ rfl
      have yp1 := X2.out.2.2.2.2 1
      have kp2 := X2.out.2.2.2.1.at 2 _ rfl
      have yp2 := X2.out.2.2.2.2 2
      have kp3 := X2.out.2.2.2.1.at 3 _ rfl
      have yp3 := X2.out.2.2.2.2 3
      have kp4 := X2.out.2.2.2.1.at 4 _ rfl
      have yp4 := X2.out.2.2.2.2 4
      have kp5 := X2.out.2.2.2.1.at 5 _ rfl
      have yp5 := X2.out.2.2.2.2 5
      have kp6 := X2.out.2.2.2.1.at 6 _ rfl
      have yp6 := X2.out.2.2.2.2 6
      have k0 := X0.out.2.2.2.1.at 0 _ rfl
      have y0 := X0.out.2.2.2.2 0
      have k1 := X0.out.2.2.2.1.at 1 _ rfl
      have y1 := X0.out.2.2.2.2 1
      have k2 := X0.out.2.2.2.1.at 2 _ rfl
      have y2 := X0.out.2.2.2.2 2
      have k3 := X0.out.2.2.2.1.at 3 _ rfl
      have y3 := X0.out.2.2.2.2 3
      have k4 := X0.out.2.2.2.1.at 4 _ rfl
      have y4 := X0.out.2.2.2.2 4
      have k5 := X0.out.2.2.2.1.at 5 _ rfl
      have y5 := X0.out.2.2.2.2 5
      have k6 := X0.out.2.2.2.1.at 6 _ rfl
      have y6 := X0.out.2.2.2.2 6
      go_wp2
      go_region_held3 (fun w' => w'.cell? ⟨b, off + 13, none⟩ = some (.int .u8 (f 13)) ∧ Kept (Bytes w' (some ⟨b, off, none⟩) len f)) ((refine ⟨by simp [*, World.cell?_setCell_far], ?_⟩; repeat (first | with_reducible assumption | with_reducible refine Kept.drew ?_ | with_reducible refine Kept.set n13 ?_)))
        (first
          | (go_at_call 45; (with_reducible refine (M0.out _ X0).mono ?_); rintro e w9 ⟨rfl, rfl⟩)
          | (go_at_call 45; (with_reducible refine (M2.out _ X0).mono ?_); rintro e w9 ⟨rfl, rfl⟩)
          | (go_at_call 45; (with_reducible refine (M4.out _ X0).mono ?_); rintro e w9 ⟨rfl, rfl⟩)
          | (go_at_call 45; (with_reducible refine (M8.out _ X0).mono ?_); rintro e w9 ⟨rfl, rfl⟩)
          | (go_at_call 45; (with_reducible refine (M14.out _ X0).mono ?_); rintro e w9 ⟨rfl, rfl⟩))
      all_goals
        rename_i hHeld
        clear hHeld M0 M2 M4 M8 M14 HE hcvR X c12 c13 cw HB k0 k1 k2 k3 k4 k5 k6 y0 y1 y2 y3 y4 y5 y6 yp0 yp1 yp2 yp3 yp4 yp5 yp6 hm hw13 b1 b2 hq iH iL i13 n13
        go_wp2
        (try simp only [Exit.inBlock, Exit.then])
        refine bodyPost_ret (v := .tuple #[.agg #[.int .i64 (pn f 0 2), .int .i64 (pn f 2 2), .int .i64 (pn f 4 4), .int .i64 (pn f 8 4), .int .i64 (f 13 % 32), .int .i64 (pn f 14 2), .string (ps f H (len - H))], .int .i64 0]) (by simp [results, Try.results10, go_sem, *]; try rfl) rfl ?_
        exact ⟨rfl, (((((((X2.out.2.1.setCell (by simp) _).setCell (by simp) _).setCell (by simp) _).setCell (by simp) _).setCell (by simp) _).setCell (by simp) _).setCell (by simp) _).drew⟩
  all_goals
    go_enter Try.func10, Try.ntmps10
    go_wp2_with fail
    refine (addressOK_any _ _).mono ?_
    rintro e w1 ⟨rfl, hw1⟩
    obtain rfl := hw1.symm
    clear hw1
    go_wp2_with fail
    refine (addressOK_any _ _).mono ?_
    rintro e w1 ⟨rfl, hw1⟩
    obtain rfl := hw1.symm
    clear hw1
    go_wp2_with fail
    refine (endsSum_any src dst 6 _ len _ f _ X.out.1 (by omega) (by omega) s0 s1 d0 d1 (by omega) (by omega)).mono ?_
    rintro e w2 ⟨rfl, b3⟩
    have X2 : Hid (RdS w [.int .i64 0, .int .i64 0, .int .i64 0, .int .i64 0, .int .i64 0, .int .i64 0, .string ⟨#[]⟩] (some ⟨b, off, none⟩) len f w2) := RdS.next X.out b3
    clear b3
    rw [HE.out]
    have X0 : Hid (RdS w [.int .i64 0, .int .i64 0, .int .i64 0, .int .i64 0, .int .i64 0, .int .i64 0, .string ⟨#[]⟩] (some ⟨b, off, none⟩) len f w2.drew) := X2.out.drew
    have c13 := X2.out.1.cellAt 13 (by omega)
    have HB : Kept (Bytes w2 (some ⟨b, off, none⟩) len f) := ⟨X2.out.1⟩
    have kp0 := X2.out.2.2.2.1.at 0 _ rfl
    have yp0 := X2.out.2.2.2.2 0
    have kp1 := X2.out.2.2.2.1.at 1 _ rfl
    have yp1 := X2.out.2.2.2.2 1
    have kp2 := X2.out.2.2.2.1.at 2 _ rfl
    have yp2 := X2.out.2.2.2.2 2
    have kp3 := X2.out.2.2.2.1.at 3 _ rfl
    have yp3 := X2.out.2.2.2.2 3
    have kp4 := X2.out.2.2.2.1.at 4 _ rfl
    have yp4 := X2.out.2.2.2.2 4
    have kp5 := X2.out.2.2.2.1.at 5 _ rfl
    have yp5 := X2.out.2.2.2.2 5
    have kp6 := X2.out.2.2.2.1.at 6 _ rfl
    have yp6 := X2.out.2.2.2.2 6
    have k0 := X0.out.2.2.2.1.at 0 _ rfl
    have y0 := X0.out.2.2.2.2 0
    have k1 := X0.out.2.2.2.1.at 1 _ rfl
    have y1 := X0.out.2.2.2.2 1
    have k2 := X0.out.2.2.2.1.at 2 _ rfl
    have y2 := X0.out.2.2.2.2 2
    have k3 := X0.out.2.2.2.1.at 3 _ rfl
    have y3 := X0.out.2.2.2.2 3
    have k4 := X0.out.2.2.2.1.at 4 _ rfl
    have y4 := X0.out.2.2.2.2 4
    have k5 := X0.out.2.2.2.1.at 5 _ rfl
    have y5 := X0.out.2.2.2.2 5
    have k6 := X0.out.2.2.2.1.at 6 _ rfl
    have y6 := X0.out.2.2.2.2 6
    go_wp2
    go_region_held3 (fun w' => w'.cell? ⟨b, off + 13, none⟩ = some (.int .u8 (f 13)) ∧ Kept (Bytes w' (some ⟨b, off, none⟩) len f)) ((refine ⟨by simp [*, World.cell?_setCell_far], ?_⟩; repeat (first | with_reducible assumption | with_reducible refine Kept.drew ?_ | with_reducible refine Kept.set n13 ?_)))
      (first
        | (go_at_call 45; (with_reducible refine (M0.out _ X0).mono ?_); rintro e w9 ⟨rfl, rfl⟩)
        | (go_at_call 45; (with_reducible refine (M2.out _ X0).mono ?_); rintro e w9 ⟨rfl, rfl⟩)
        | (go_at_call 45; (with_reducible refine (M4.out _ X0).mono ?_); rintro e w9 ⟨rfl, rfl⟩)
        | (go_at_call 45; (with_reducible refine (M8.out _ X0).mono ?_); rintro e w9 ⟨rfl, rfl⟩)
        | (go_at_call 45; (with_reducible refine (M14.out _ X0).mono ?_); rintro e w9 ⟨rfl, rfl⟩))
    all_goals
      rename_i hHeld
      clear hHeld M0 M2 M4 M8 M14 HE hcvR X c12 c13 cw HB k0 k1 k2 k3 k4 k5 k6 y0 y1 y2 y3 y4 y5 y6 yp0 yp1 yp2 yp3 yp4 yp5 yp6 hm hw13 b1 b2 hq iH iL i13 n13
      go_wp2
      (try simp only [Exit.inBlock, Exit.then])
      refine bodyPost_ret (v := .tuple #[.agg #[.int .i64 (pn f 0 2), .int .i64 (pn f 2 2), .int .i64 (pn f 4 4), .int .i64 (pn f 8 4), .int .i64 (f 13 % 32), .int .i64 (pn f 14 2), .string (ps f H (len - H))], .int .i64 0]) (by simp [results, Try.results10, go_sem, *]; try rfl) rfl ?_
      exact ⟨rfl, (((((((X2.out.2.1.setCell (by simp) _).setCell (by simp) _).setCell (by simp) _).setCell (by simp) _).setCell (by simp) _).setCell (by simp) _).setCell (by simp) _).drew⟩
end Go.Proofs.Ytfcdobicilediaa
