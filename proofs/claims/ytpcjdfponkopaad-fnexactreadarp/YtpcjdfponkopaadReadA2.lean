/- The model: ReadArp. -/
import Derived.Test.YtpcjdfponkopaadReadA
import Derived.Test.YtpcjdfponkopaadLawReadArp
namespace Go.Proofs.Ytpcjdfponkopaad
open Go.RowKit Go.PlainAid
set_option linter.unusedVariables false
set_option maxRecDepth 20000

theorem l02ReadArp_form (s : ByteArray) (w : World) (hs : s.size ≤ 65536) (h : s.size ≠ 28) :
    Calls Try.prog 34 #[.string s] w fun e w' => e = .returned (.tuple #[.agg #[.int .i64 0, .string ⟨#[]⟩, .string ⟨#[]⟩, .int .i64 0, .int .i64 0], .int .i64 3]) ∧ Below w.heap.size w w' := by
  have hb : ((s.size : Int) != 28) = true := by simp; omega
  go_enter Try.func34, Try.ntmps34
  go_wp2
  go_returns
  exact ⟨rfl, (Below.refl _ _).alloc (Nat.le_refl _) _⟩
theorem l02ReadArp_head (f : Nat → Int) (hf : ∀ k, 0 ≤ f k ∧ f k ≤ 255) (w : World) (hq : arpBegins f = false) :
    Calls Try.prog 34 #[.string (strOf f 28)] w fun e w' => e = .returned (.tuple #[.agg #[.int .i64 0, .string ⟨#[]⟩, .string ⟨#[]⟩, .int .i64 0, .int .i64 0], .int .i64 3]) ∧ Below w.heap.size w w' := by
  obtain ⟨s, hs⟩ : ∃ s, s = strOf f 28 := ⟨_, rfl⟩
  have hz : s.size = 28 := by rw [hs]; exact strOf_size _ _
  obtain ⟨P0, hP0⟩ : ∃ P0, P0 = ps f 0 6 := ⟨_, rfl⟩
  have e0 : s.extract 0 6 = P0 := by rw [hs, hP0]; exact strOf_extract f hf 28 0 6 (by omega) (by omega)
  have hq' : (P0.toList == ([0, 1, 8, 0, 6, 4] : List UInt8)) = arpBegins f := by rw [hP0]; rfl
  rw [hq] at hq'
  rw [← hs]
  clear hq hP0 hs
  go_enter Try.func34, Try.ntmps34
  go_wp2
  go_returns
  exact ⟨rfl, (Below.refl _ _).alloc (Nat.le_refl _) _⟩

set_option maxHeartbeats 4000000 in
theorem l02ReadArp_read (f : Nat → Int) (hf : ∀ k, 0 ≤ f k ∧ f k ≤ 255) (w : World) (hq : arpBegins f = true) :
    Calls Try.prog 34 #[.string (strOf f 28)] w fun e w' => (1 ≤ pn f 6 2 ∧ pn f 6 2 ≤ 2 → e = .returned (.tuple #[.agg #[.int .i64 (pn f 6 2), .string (ps f 8 6), .string (ps f 18 6), .int .i64 (pn f 14 4), .int .i64 (pn f 24 4)], .int .i64 0])) ∧ (¬ (1 ≤ pn f 6 2 ∧ pn f 6 2 ≤ 2) → e = .returned (.tuple #[.agg #[.int .i64 0, .string ⟨#[]⟩, .string ⟨#[]⟩, .int .i64 0, .int .i64 0], .int .i64 3])) ∧ Below w.heap.size w w' := by
  obtain ⟨s, hs⟩ : ∃ s, s = strOf f 28 := ⟨_, rfl⟩
  have hz : s.size = 28 := by rw [hs]; exact strOf_size _ _
  obtain ⟨P0, hP0⟩ : ∃ P0, P0 = ps f 0 6 := ⟨_, rfl⟩
  obtain ⟨P1, h1⟩ : ∃ P1, P1 = ps f 8 6 := ⟨_, rfl⟩
  obtain ⟨P2, h2⟩ : ∃ P2, P2 = ps f 18 6 := ⟨_, rfl⟩
  obtain ⟨N1, g1⟩ : ∃ N1, N1 = ps f 6 2 := ⟨_, rfl⟩
  obtain ⟨N2, g2⟩ : ∃ N2, N2 = ps f 14 4 := ⟨_, rfl⟩
  obtain ⟨N3, g3⟩ : ∃ N3, N3 = ps f 24 4 := ⟨_, rfl⟩
  obtain ⟨op, o1⟩ : ∃ op, op = pn f 6 2 := ⟨_, rfl⟩
  obtain ⟨si, o2⟩ : ∃ si, si = pn f 14 4 := ⟨_, rfl⟩
  obtain ⟨di, o3⟩ : ∃ di, di = pn f 24 4 := ⟨_, rfl⟩
  have e0 : s.extract 0 6 = P0 := by rw [hs, hP0]; exact strOf_extract f hf 28 0 6 (by omega) (by omega)
  have e1 : s.extract 6 8 = N1 := by rw [hs, g1]; exact strOf_extract f hf 28 6 8 (by omega) (by omega)
  have e2 : s.extract 8 14 = P1 := by rw [hs, h1]; exact strOf_extract f hf 28 8 14 (by omega) (by omega)
  have e3 : s.extract 14 18 = N2 := by rw [hs, g2]; exact strOf_extract f hf 28 14 18 (by omega) (by omega)
  have e4 : s.extract 18 24 = P2 := by rw [hs, h2]; exact strOf_extract f hf 28 18 24 (by omega) (by omega)
  have e5 : s.extract 24 28 = N3 := by rw [hs, g3]; exact strOf_extract f hf 28 24 28 (by omega) (by omega)
  have z1 : P1.size = 6 := by rw [h1]; exact ps_size _ _ _
  have z2 : P2.size = 6 := by rw [h2]; exact ps_size _ _ _
  have HO1 : Hid (∀ wx : World, Calls Try.prog 56 #[.string N1] wx fun e w' => e = .returned (.int .i64 op) ∧ w' = wx) := fun wx => by rw [g1, o1]; exact of_ps f hf 6 2 (by omega) wx
  have HO2 : Hid (∀ wx : World, Calls Try.prog 56 #[.string N2] wx fun e w' => e = .returned (.int .i64 si) ∧ w' = wx) := fun wx => by rw [g2, o2]; exact of_ps f hf 14 4 (by omega) wx
  have HO3 : Hid (∀ wx : World, Calls Try.prog 56 #[.string N3] wx fun e w' => e = .returned (.int .i64 di) ∧ w' = wx) := fun wx => by rw [g3, o3]; exact of_ps f hf 24 4 (by omega) wx
  have b1 := pn2 f hf 6
  have b2 := pn4 f hf 14
  have b3 := pn4 f hf 24
  rw [← o1] at b1
  rw [← o2] at b2
  rw [← o3] at b3
  have HT : Hid (∀ wx : World, Calls Try.prog 57 #[.agg #[.int .i64 op, .string P1, .string P2, .int .i64 si, .int .i64 di]] wx fun e w' => e = .returned (.bool (dec (1 ≤ op ∧ op ≤ 2))) ∧ Below wx.heap.size wx w') := fun wx => by
    refine (l02Arp_any op P1 P2 si di wx (by omega) (by omega) (by omega) (by omega) (by omega)).mono fun e w' hh => ⟨?_, hh.2.1⟩
    rw [hh.1]
    congr 2
    unfold dec
    rw [decide_eq_decide]
    constructor
    · exact fun h => h.1
    · exact fun h => ⟨h, z1, z2, b2, b3⟩
  have hq' : (P0.toList == ([0, 1, 8, 0, 6, 4] : List UInt8)) = arpBegins f := by rw [hP0]; rfl
  rw [hq] at hq'
  rw [← hs, ← h1, ← h2, ← o1, ← o2, ← o3]
  clear hq hP0 hs h1 h2 g1 g2 g3 o1 o2 o3 b1 b2 b3
  have G1 : Hid (RdT w [.int .i64 0, .string ⟨#[]⟩, .string ⟨#[]⟩, .int .i64 0, .int .i64 0] [.int .i64 op, .string P1, .string P2, .int .i64 si, .int .i64 di] ((w.alloc (.cells #[.int .i64 0, .string ⟨#[]⟩, .string ⟨#[]⟩, .int .i64 0, .int .i64 0] 24)).alloc (.cells #[.int .i64 op, .string P1, .string P2, .int .i64 si, .int .i64 di] 24)).drew) := RdT.a w _ _ _ _
  have G2 : Hid (RdT w [.int .i64 0, .string ⟨#[]⟩, .string ⟨#[]⟩, .int .i64 0, .int .i64 0] [.int .i64 op, .string P1, .string P2, .int .i64 si, .int .i64 di] ((w.alloc (.cells #[.int .i64 0, .string ⟨#[]⟩, .string ⟨#[]⟩, .int .i64 0, .int .i64 0] 24)).drew.alloc (.cells #[.int .i64 op, .string P1, .string P2, .int .i64 si, .int .i64 di] 24))) := RdT.b w _ _ _ _
  go_enter Try.func34, Try.ntmps34
  go_wp2
  go_region_held3 (fun _ => True) (trivial)
    (first | (go_at_call 56; (with_reducible refine (HO1.out _).mono ?_); rintro e w1 ⟨rfl, rfl⟩) | (go_at_call 56; (with_reducible refine (HO2.out _).mono ?_); rintro e w1 ⟨rfl, rfl⟩) | (go_at_call 56; (with_reducible refine (HO3.out _).mono ?_); rintro e w1 ⟨rfl, rfl⟩))
  all_goals
    go_wp2_with fail
    refine (HT.out _).mono ?_
    rintro e w2 ⟨he, b2⟩
    have X2 : Hid (RdT w [.int .i64 0, .string ⟨#[]⟩, .string ⟨#[]⟩, .int .i64 0, .int .i64 0] [.int .i64 op, .string P1, .string P2, .int .i64 si, .int .i64 di] w2) := by first | exact RdT.next G1.out b2 | exact RdT.next G2.out b2
    clear b2
    have k0 := X2.out.1.1.at 0 _ rfl
    have y0 := X2.out.1.2 0
    have j0 := X2.out.2.1.at 0 _ rfl
    have k1 := X2.out.1.1.at 1 _ rfl
    have y1 := X2.out.1.2 1
    have j1 := X2.out.2.1.at 1 _ rfl
    have k2 := X2.out.1.1.at 2 _ rfl
    have y2 := X2.out.1.2 2
    have j2 := X2.out.2.1.at 2 _ rfl
    have k3 := X2.out.1.1.at 3 _ rfl
    have y3 := X2.out.1.2 3
    have j3 := X2.out.2.1.at 3 _ rfl
    have k4 := X2.out.1.1.at 4 _ rfl
    have y4 := X2.out.1.2 4
    have j4 := X2.out.2.1.at 4 _ rfl
    by_cases hk : 1 ≤ op ∧ op ≤ 2
    · rw [dec_y hk] at he
      subst he
      have HK : Hid (1 ≤ op ∧ op ≤ 2) := hk
      clear hk
      go_wp2
      (try simp only [Exit.inBlock, Exit.then])
      refine bodyPost_ret (v := .tuple #[.agg #[.int .i64 op, .string P1, .string P2, .int .i64 si, .int .i64 di], .int .i64 0]) (by simp [results, Try.results34, go_sem, *]; try rfl) rfl ?_
      exact ⟨fun _ => rfl, fun h => absurd HK.out h, ((((X2.out.2.2.1.setCell (by simp) _).setCell (by simp) _).setCell (by simp) _).setCell (by simp) _).setCell (by simp) _⟩
    · rw [dec_n hk] at he
      subst he
      have HK : Hid (¬ (1 ≤ op ∧ op ≤ 2)) := hk
      clear hk
      go_wp2
      (try simp only [Exit.inBlock, Exit.then])
      refine bodyPost_ret (v := .tuple #[.agg #[.int .i64 0, .string ⟨#[]⟩, .string ⟨#[]⟩, .int .i64 0, .int .i64 0], .int .i64 3]) (by simp [results, Try.results34, go_sem, *]; try rfl) rfl ?_
      exact ⟨fun h => absurd h HK.out, fun _ => rfl, ((((X2.out.2.2.1.setCell (by simp) _).setCell (by simp) _).setCell (by simp) _).setCell (by simp) _).setCell (by simp) _⟩

theorem specReadArp_long (a : Option Addr) (len cap : Nat) (w : World) (hl : 65536 < len) :
    Calls Try.prog 9 #[.slice a len cap] w fun e w' => e = .returned (.tuple #[.agg #[.int .i64 0, .string ⟨#[]⟩, .string ⟨#[]⟩, .int .i64 0, .int .i64 0], .int .i64 2]) ∧ Below w.heap.size w w' := by
  go_enter Try.func9, Try.ntmps9
  go_wp2
  go_returns
  exact ⟨rfl, (Below.refl _ _).alloc (Nat.le_refl _) _⟩

set_option maxHeartbeats 1000000 in
theorem specReadArp_of (v0 : Int) (v1 v2 : ByteArray) (v3 v4 : Int) (c : Int) (f : Nat → Int) (len : Nat) (hl : len ≤ 65536)
    (h : ∀ wx : World, Calls Try.prog 34 #[.string (strOf f len)] wx fun e w' => e = .returned (.tuple #[.agg #[.int .i64 v0, .string v1, .string v2, .int .i64 v3, .int .i64 v4], .int .i64 c]) ∧ Below wx.heap.size wx w')
    (w : World) (a : Option Addr) (cap : Nat) (hb : Bytes w a len f) :
    Calls Try.prog 9 #[.slice a len cap] w fun e w' => e = .returned (.tuple #[.agg #[.int .i64 v0, .string v1, .string v2, .int .i64 v3, .int .i64 v4], .int .i64 c]) ∧ Below w.heap.size w w' := by
  have H : Hid (∀ wx : World, Calls Try.prog 34 #[.string (strOf f len)] wx fun e w' => e = .returned (.tuple #[.agg #[.int .i64 v0, .string v1, .string v2, .int .i64 v3, .int .i64 v4], .int .i64 c]) ∧ Below wx.heap.size wx w') := h
  have X : Hid (RdS w [.int .i64 0, .string ⟨#[]⟩, .string ⟨#[]⟩, .int .i64 0, .int .i64 0] a len f (w.alloc (.cells #[.int .i64 0, .string ⟨#[]⟩, .string ⟨#[]⟩, .int .i64 0, .int .i64 0] 24))) := RdS.new hb _
  have hcv := conv_row (P := Try.prog) _ 22 9 5 Try.underlying22 Try.underlying5 Try.underlying9 a len cap f X.out.1
  clear h hb
  go_enter Try.func9, Try.ntmps9
  go_wp2_with fail
  refine (H.out _).mono ?_
  rintro e w2 ⟨rfl, b2⟩
  have X2 : Hid (RdS w [.int .i64 0, .string ⟨#[]⟩, .string ⟨#[]⟩, .int .i64 0, .int .i64 0] a len f w2) := RdS.next X.out b2
  clear b2 hcv
  have k0 := X2.out.2.2.2.1.at 0 _ rfl
  have y0 := X2.out.2.2.2.2 0
  have k1 := X2.out.2.2.2.1.at 1 _ rfl
  have y1 := X2.out.2.2.2.2 1
  have k2 := X2.out.2.2.2.1.at 2 _ rfl
  have y2 := X2.out.2.2.2.2 2
  have k3 := X2.out.2.2.2.1.at 3 _ rfl
  have y3 := X2.out.2.2.2.2 3
  have k4 := X2.out.2.2.2.1.at 4 _ rfl
  have y4 := X2.out.2.2.2.2 4
  go_wp2
  (try simp only [Exit.inBlock, Exit.then])
  refine bodyPost_ret (v := .tuple #[.agg #[.int .i64 v0, .string v1, .string v2, .int .i64 v3, .int .i64 v4], .int .i64 c]) (by simp [results, Try.results9, go_sem, *]; try rfl) rfl ?_
  exact ⟨rfl, ((((X2.out.2.1.setCell (by simp) _).setCell (by simp) _).setCell (by simp) _).setCell (by simp) _).setCell (by simp) _⟩

theorem readArp_both (len : Nat) (f : Nat → Int) (hf : ∀ k, 0 ≤ f k ∧ f k ≤ 255) :
    ∃ (v0 : Int) (v1 : ByteArray) (v2 : ByteArray) (v3 : Int) (v4 : Int) (c : Int), RdReadArp 9 len f v0 v1 v2 v3 v4 c ∧ RdReadArp 11 len f v0 v1 v2 v3 v4 c := by
  by_cases hl : len ≤ 65536
  · by_cases h : len = 28
    · subst h
      by_cases hq : arpBegins f = true
      · by_cases ho : 1 ≤ pn f 6 2 ∧ pn f 6 2 ≤ 2
        · exact ⟨_, _, _, _, _, _, fun w a cap hb hc hx => specReadArp_of _ _ _ _ _ _ f 28 hl (fun wx => (l02ReadArp_read f hf wx hq).mono fun e w' hh => ⟨hh.1 ho, hh.2.2⟩) w a cap hb, fun w a cap hb hc hx => readArp_yes a cap f w hb hc (by omega) hq ho⟩
        · exact ⟨_, _, _, _, _, _, fun w a cap hb hc hx => specReadArp_of _ _ _ _ _ _ f 28 hl (fun wx => (l02ReadArp_read f hf wx hq).mono fun e w' hh => ⟨hh.2.1 ho, hh.2.2⟩) w a cap hb, fun w a cap hb hc hx => readArp_op a cap f w hb hc (by omega) hq ho⟩
      · have hq' : arpBegins f = false := by simpa using hq
        exact ⟨_, _, _, _, _, _, fun w a cap hb hc hx => specReadArp_of _ _ _ _ _ _ f 28 hl (fun wx => l02ReadArp_head f hf wx hq') w a cap hb, fun w a cap hb hc hx => readArp_head a cap f w hb hc (by omega) hq'⟩
    · exact ⟨_, _, _, _, _, _, fun w a cap hb hc hx => specReadArp_of _ _ _ _ _ _ f len hl (fun wx => l02ReadArp_form _ wx (by rw [strOf_size]; exact hl) (by rw [strOf_size]; exact h)) w a cap hb, fun w a cap hb hc hx => readArp_form a len cap w hl h⟩
  · exact ⟨_, _, _, _, _, _, fun w a cap hb hc hx => specReadArp_long a len cap w (by omega), fun w a cap hb hc hx => readArp_long a len cap w (by omega)⟩
end Go.Proofs.Ytpcjdfponkopaad
