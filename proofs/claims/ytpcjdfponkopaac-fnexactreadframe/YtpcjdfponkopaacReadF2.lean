/- ReadFrame, the program's and the model's, further. -/
import Derived.Test.YtpcjdfponkopaacReadF
import Derived.Test.YtpcjdfponkopaacSpecFrame
import Derived.Test.YtpcjdfponkopaacCut2
namespace Go.Proofs.Ytpcjdfponkopaac
open Go.RowKit Go.PlainAid
set_option linter.unusedVariables false
set_option maxRecDepth 20000

/-- The empty answer with a code. -/
theorem readFrame_long (a : Option Addr) (len cap : Nat) (w : World) (hl : 65536 < len) :
    Calls Try.prog 24 #[.slice a len cap] w fun e w' => e = .returned (.tuple #[.agg #[.string ⟨#[]⟩, .string ⟨#[]⟩, .int .i64 0, .string ⟨#[]⟩], .int .i64 2]) ∧ Below w.heap.size w w' := by
  go_enter Try.func24, Try.ntmps24
  go_wp2
  go_returns
  exact ⟨rfl, (Below.refl _ _).alloc (Nat.le_refl _) _⟩
theorem readFrame_form (a : Option Addr) (len cap : Nat) (w : World) (hl : len ≤ 65536) (h : len < 14 ∨ 414 < len) :
    Calls Try.prog 24 #[.slice a len cap] w fun e w' => e = .returned (.tuple #[.agg #[.string ⟨#[]⟩, .string ⟨#[]⟩, .int .i64 0, .string ⟨#[]⟩], .int .i64 3]) ∧ Below w.heap.size w w' := by
  rcases h with h | h
  all_goals
    go_enter Try.func24, Try.ntmps24
    go_wp2
    go_returns
    exact ⟨rfl, (Below.refl _ _).alloc (Nat.le_refl _) _⟩
set_option maxHeartbeats 1000000 in
theorem readFrame_proto (a : Option Addr) (len cap : Nat) (f : Nat → Int) (w : World) (h : Bytes w a len f) (hc : len ≤ cap) (hx : cap ≤ 9223372036854775807) (h14 : 14 ≤ len) (h414 : len ≤ 414) (hk : ¬ (pn f 12 2 = 2048 ∨ pn f 12 2 = 2054)) :
    Calls Try.prog 24 #[.slice a len cap] w fun e w' => e = .returned (.tuple #[.agg #[.string ⟨#[]⟩, .string ⟨#[]⟩, .int .i64 0, .string ⟨#[]⟩], .int .i64 10]) ∧ Below w.heap.size w w' := by
  have HK : Hid (decide (pn f 12 2 = 2048 ∨ pn f 12 2 = 2054) = false) := decide_eq_false hk
  have X : Hid (RdS w [.string ⟨#[]⟩, .string ⟨#[]⟩, .int .i64 0, .string ⟨#[]⟩] a len f (w.alloc (.cells #[.string ⟨#[]⟩, .string ⟨#[]⟩, .int .i64 0, .string ⟨#[]⟩] 39))) := RdS.new h _
  clear hk h
  go_enter Try.func24, Try.ntmps24
  go_wp2_with fail
  refine (at_pn _ len _ f 12 2 _ X.out.1 (by omega) hc hx (by omega) (by omega)).mono ?_
  rintro e w1 ⟨rfl, hw1⟩
  obtain rfl := hw1.symm
  clear hw1
  go_wp2_with fail
  refine (kindOK_any _ _).mono ?_
  rintro e w1 ⟨he, hw1⟩
  rw [HK.out] at he
  subst he
  obtain rfl := hw1.symm
  clear hw1
  go_wp2
  go_returns
  exact ⟨rfl, (Below.refl _ _).alloc (Nat.le_refl _) _⟩

/-- The model, of a string. -/
theorem l02ReadFrame_form (s : ByteArray) (w : World) (hs : s.size ≤ 65536) (h : s.size < 14 ∨ 414 < s.size) :
    Calls Try.prog 41 #[.string s] w fun e w' => e = .returned (.tuple #[.agg #[.string ⟨#[]⟩, .string ⟨#[]⟩, .int .i64 0, .string ⟨#[]⟩], .int .i64 3]) ∧ Below w.heap.size w w' := by
  rcases h with h | h
  all_goals
    go_enter Try.func41, Try.ntmps41
    go_wp2
    go_returns
    exact ⟨rfl, (Below.refl _ _).alloc (Nat.le_refl _) _⟩

set_option maxHeartbeats 2000000 in
theorem l02ReadFrame_read (f : Nat → Int) (hf : ∀ k, 0 ≤ f k ∧ f k ≤ 255) (len : Nat) (w : World) (h14 : 14 ≤ len) (h414 : len ≤ 414) :
    Calls Try.prog 41 #[.string (strOf f len)] w fun e w' => (if pn f 12 2 = 2048 ∨ pn f 12 2 = 2054 then e = .returned (.tuple #[.agg #[.string (ps f 0 6), .string (ps f 6 6), .int .i64 (pn f 12 2), .string (ps f 14 (len - 14))], .int .i64 0]) else e = .returned (.tuple #[.agg #[.string ⟨#[]⟩, .string ⟨#[]⟩, .int .i64 0, .string ⟨#[]⟩], .int .i64 10])) ∧ Below w.heap.size w w' := by
  obtain ⟨s, hs⟩ : ∃ s, s = strOf f len := ⟨_, rfl⟩
  have hz : s.size = len := by rw [hs]; exact strOf_size _ _
  have e1 : s.extract 0 6 = ps f 0 6 := by rw [hs]; exact strOf_extract f hf len 0 6 (by omega) (by omega)
  have e2 : s.extract 6 12 = ps f 6 6 := by rw [hs]; exact strOf_extract f hf len 6 12 (by omega) (by omega)
  have e3 : s.extract 12 14 = ps f 12 2 := by rw [hs]; exact strOf_extract f hf len 12 14 (by omega) (by omega)
  have e4 : s.extract 14 len = ps f 14 (len - 14) := by rw [hs]; exact strOf_extract f hf len 14 len (by omega) (by omega)
  have z1 := ps_size f 0 6
  have z2 := ps_size f 6 6
  have z4 := ps_size f 14 (len - 14)
  rw [← hs]
  obtain ⟨P1, h1⟩ : ∃ P1, P1 = ps f 0 6 := ⟨_, rfl⟩
  obtain ⟨P2, h2⟩ : ∃ P2, P2 = ps f 6 6 := ⟨_, rfl⟩
  obtain ⟨P3, h3⟩ : ∃ P3, P3 = ps f 12 2 := ⟨_, rfl⟩
  obtain ⟨P4, h4⟩ : ∃ P4, P4 = ps f 14 (len - 14) := ⟨_, rfl⟩
  obtain ⟨kd, hkd⟩ : ∃ kd, kd = pn f 12 2 := ⟨_, rfl⟩
  have HO : Hid (∀ wx : World, Calls Try.prog 35 #[.string P3] wx fun e w' => e = .returned (.int .i64 kd) ∧ w' = wx) := fun wx => by rw [h3, hkd]; exact of_ps f hf 12 2 (by omega) wx
  rw [← h1] at e1 z1
  rw [← h2] at e2 z2
  rw [← h3] at e3
  rw [← h4] at e4 z4
  rw [← h1, ← h2, ← h4, ← hkd]
  clear h1 h2 h3 h4 hkd hs
  have HT : Hid (∀ wx : World, Calls Try.prog 36 #[.agg #[.string P1, .string P2, .int .i64 kd, .string P4]] wx fun e w' => e = .returned (.bool (decide (kd = 2048 ∨ kd = 2054))) ∧ Below wx.heap.size wx w' ∧ wx.heap.size < w'.heap.size) := fun wx => by
    refine (l02Frame_any P1 P2 P4 kd wx (by omega) (by omega) (by omega)).mono fun e w' hh => ⟨?_, hh.2⟩
    rw [hh.1]
    congr 2
    rw [decide_eq_decide]
    constructor
    · exact fun h => h.2.2.1
    · exact fun h => ⟨z1, z2, h, by omega⟩
  have i6 : (6 : Int) ≤ (len : Int) := by omega
  have i12 : (12 : Int) ≤ (len : Int) := by omega
  have i14 : (14 : Int) ≤ (len : Int) := by omega
  have n6 : 6 ≤ len := by omega
  have n12 : 12 ≤ len := by omega
  have G1 : Hid (RdT w [.string ⟨#[]⟩, .string ⟨#[]⟩, .int .i64 0, .string ⟨#[]⟩] [.string P1, .string P2, .int .i64 kd, .string P4] ((w.alloc (.cells #[.string ⟨#[]⟩, .string ⟨#[]⟩, .int .i64 0, .string ⟨#[]⟩] 39)).alloc (.cells #[.string P1, .string P2, .int .i64 kd, .string P4] 39)).drew) := RdT.a w _ _ _ _
  have G2 : Hid (RdT w [.string ⟨#[]⟩, .string ⟨#[]⟩, .int .i64 0, .string ⟨#[]⟩] [.string P1, .string P2, .int .i64 kd, .string P4] ((w.alloc (.cells #[.string ⟨#[]⟩, .string ⟨#[]⟩, .int .i64 0, .string ⟨#[]⟩] 39)).drew.alloc (.cells #[.string P1, .string P2, .int .i64 kd, .string P4] 39))) := RdT.b w _ _ _ _
  go_enter Try.func41, Try.ntmps41
  go_wp2
  go_region_held3 (fun _ => True) (trivial)
    (first | (go_at_call 35; (with_reducible refine (HO.out _).mono ?_); rintro e w1 ⟨rfl, rfl⟩))
  all_goals
    go_wp2_with fail
    refine (HT.out _).mono ?_
    rintro e w2 ⟨rfl, b2, -⟩
    have X2 : Hid (RdT w [.string ⟨#[]⟩, .string ⟨#[]⟩, .int .i64 0, .string ⟨#[]⟩] [.string P1, .string P2, .int .i64 kd, .string P4] w2) := by first | exact RdT.next G1.out b2 | exact RdT.next G2.out b2
    clear b2
    have k0 := X2.out.1.1.at 0 _ rfl
    have k1 := X2.out.1.1.at 1 _ rfl
    have k2 := X2.out.1.1.at 2 _ rfl
    have k3 := X2.out.1.1.at 3 _ rfl
    have y0 := X2.out.1.2 0
    have y1 := X2.out.1.2 1
    have y2 := X2.out.1.2 2
    have y3 := X2.out.1.2 3
    have j0 := X2.out.2.1.at 0 _ rfl
    have j1 := X2.out.2.1.at 1 _ rfl
    have j2 := X2.out.2.1.at 2 _ rfl
    have j3 := X2.out.2.1.at 3 _ rfl
    by_cases hk : kd = 2048 ∨ kd = 2054
    · have bk : decide (kd = 2048 ∨ kd = 2054) = true := decide_eq_true hk
      have HK : Hid (kd = 2048 ∨ kd = 2054) := hk
      clear hk
      go_wp2
      (try simp only [Exit.inBlock, Exit.then])
      refine bodyPost_ret (v := .tuple #[.agg #[.string P1, .string P2, .int .i64 kd, .string P4], .int .i64 0]) (by simp [results, Try.results41, go_sem, *]; try rfl) rfl ?_
      exact ⟨by first | rfl | rw [if_pos HK.out], (((X2.out.2.2.1.setCell (by simp) _).setCell (by simp) _).setCell (by simp) _).setCell (by simp) _⟩
    · have bk : decide (kd = 2048 ∨ kd = 2054) = false := decide_eq_false hk
      have HK : Hid (¬ (kd = 2048 ∨ kd = 2054)) := hk
      clear hk
      go_wp2
      (try simp only [Exit.inBlock, Exit.then])
      refine bodyPost_ret (v := .tuple #[.agg #[.string ⟨#[]⟩, .string ⟨#[]⟩, .int .i64 0, .string ⟨#[]⟩], .int .i64 10]) (by simp [results, Try.results41, go_sem, *]; try rfl) rfl ?_
      exact ⟨by first | rfl | rw [if_neg HK.out], (((X2.out.2.2.1.setCell (by simp) _).setCell (by simp) _).setCell (by simp) _).setCell (by simp) _⟩
end Go.Proofs.Ytpcjdfponkopaac
