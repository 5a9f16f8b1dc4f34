/- ReadDhcp, the program. -/
import Derived.Test.YtdhjbbnggeamhacLeaseK
import Derived.Test.YtdhjbbnggeamhacReadP
import Derived.Test.YtdhjbbnggeamhacDhcpK
import Derived.Deep.RegionHeld3
namespace Go.Proofs.Ytdhjbbnggeamhac
open Go.RowKit Go.PlainAid
set_option linter.unusedVariables false
set_option maxRecDepth 20000

/-- Whether the first bytes are those of a message of leases. -/
def headB (f : Nat → Int) : Bool := ((f 0 == 1) || (f 0 == 2)) && ((ps f 1 2).toList == ([1, 6] : List UInt8)) && ((ps f 236 4).toList == ([99, 130, 83, 99] : List UInt8))

set_option maxHeartbeats 1000000 in
theorem leaseHeadOK_any (b off : Nat) (f : Nat → Int) (w : World) (h : Bytes w (some ⟨b, off, none⟩) 240 f) :
    Calls Try.prog 10 #[.slice (some ⟨b, off, none⟩) 240 240] w fun e w' => e = .returned (.bool (headB f)) ∧ w' = w := by
  have c0 := h.cellAt 0 (by omega)
  simp only [Nat.add_zero] at c0
  have cv1 := conv_pOff h 1 2 2 (by omega)
  have cv2 := conv_pOff h 236 4 4 (by omega)
  obtain ⟨P1, hP1⟩ : ∃ P, P = ps f 1 2 := ⟨_, rfl⟩
  obtain ⟨P2, hP2⟩ : ∃ P, P = ps f 236 4 := ⟨_, rfl⟩
  rw [← hP1] at cv1
  rw [← hP2] at cv2
  obtain ⟨q1, e1⟩ : ∃ q, q = (P1.toList == ([1, 6] : List UInt8)) := ⟨_, rfl⟩
  obtain ⟨q2, e2⟩ : ∃ q, q = (P2.toList == ([99, 130, 83, 99] : List UInt8)) := ⟨_, rfl⟩
  have HE : Hid (headB f = (((f 0 == 1) || (f 0 == 2)) && q1 && q2)) := by show headB f = _; unfold headB; rw [e1, e2, hP1, hP2]
  have e1' := e1.symm
  have e2' := e2.symm
  clear h hP1 hP2 e1 e2
  have M1 : Hid (∀ wx : World, Calls Try.prog 11 #[.slice (some ⟨b, off, none⟩) 240 240, .int .i64 1, .int .i64 2] wx fun e w' => e = .returned (.slice (some ⟨b, pOff off 1 2, none⟩) 2 2) ∧ w' = wx) := fun wx => part_ex b off 240 240 1 2 wx (by omega) (by omega)
  have M2 : Hid (∀ wx : World, Calls Try.prog 11 #[.slice (some ⟨b, off, none⟩) 240 240, .int .i64 236, .int .i64 4] wx fun e w' => e = .returned (.slice (some ⟨b, pOff off 236 4, none⟩) 4 4) ∧ w' = wx) := fun wx => part_ex b off 240 240 236 4 wx (by omega) (by omega)
  have step : ∀ (x1 x2 : Bool), (f 0 == 1) = x1 → (f 0 == 2) = x2 → Calls Try.prog 10 #[.slice (some ⟨b, off, none⟩) 240 240] w fun e w' => e = .returned (.bool ((x1 || x2) && q1 && q2)) ∧ w' = w := by
    intro x1 x2 h1 h2
    clear HE
    cases x1 <;> cases x2 <;> cases q1 <;> cases q2
    all_goals
      go_enter Try.func10, Try.ntmps10
      go_wp2_with (first | (go_at_call 11; (with_reducible refine (M1.out _).mono ?_); rintro e w9 ⟨rfl, rfl⟩) | (go_at_call 11; (with_reducible refine (M2.out _).mono ?_); rintro e w9 ⟨rfl, rfl⟩))
      go_ret
      exact ⟨rfl, rfl⟩
  have := step _ _ rfl rfl
  rw [← HE.out] at this
  exact this

theorem readDh_long (a : Option Addr) (len cap : Nat) (w : World) (hl : 65536 < len) :
    Calls Try.prog 6 #[.slice a len cap] w fun e w' => e = .returned (.tuple #[.agg #[.int .i64 0, .int .i64 0, .int .i64 0, .bool false, .string ⟨#[]⟩], .int .i64 2]) ∧ Below w.heap.size w w' := by
  go_enter Try.func6, Try.ntmps6
  go_wp2
  go_returns
  exact ⟨rfl, (Below.refl _ _).alloc (Nat.le_refl _) _⟩
theorem readDh_form (a : Option Addr) (len cap : Nat) (w : World) (hl : len ≤ 65536) (h : len < 240) :
    Calls Try.prog 6 #[.slice a len cap] w fun e w' => e = .returned (.tuple #[.agg #[.int .i64 0, .int .i64 0, .int .i64 0, .bool false, .string ⟨#[]⟩], .int .i64 3]) ∧ Below w.heap.size w w' := by
  go_enter Try.func6, Try.ntmps6
  go_wp2
  go_returns
  exact ⟨rfl, (Below.refl _ _).alloc (Nat.le_refl _) _⟩

theorem readDh_head (a : Option Addr) (len cap : Nat) (f : Nat → Int) (w : World) (h : Bytes w a len f) (hc : len ≤ cap) (hx : cap ≤ 1048576) (h240 : 240 ≤ len) (hl : len ≤ 65536) (hh : headB f = false) :
    Calls Try.prog 6 #[.slice a len cap] w fun e w' => e = .returned (.tuple #[.agg #[.int .i64 0, .int .i64 0, .int .i64 0, .bool false, .string ⟨#[]⟩], .int .i64 3]) ∧ Below w.heap.size w w' := by
  obtain ⟨b, off, rfl, -⟩ := h.2 (by omega)
  have X : Hid (RdS w [.int .i64 0, .int .i64 0, .int .i64 0, .bool false, .string ⟨#[]⟩] (some ⟨b, off, none⟩) len f (w.alloc (.cells #[.int .i64 0, .int .i64 0, .int .i64 0, .bool false, .string ⟨#[]⟩] 24))) := RdS.new h _
  have t1 : decide ((len : Int) < 240) = false := by simp; omega
  have HH : Hid (headB f = false) := hh
  clear h hh
  go_enter Try.func6, Try.ntmps6
  go_wp2_with fail
  refine (part_any b off _ _ 0 240 _ (by omega) (by omega)).mono ?_
  rintro e w1 ⟨a', rfl, ha, hw1⟩
  obtain rfl := hw1.symm
  obtain rfl : a' = some ⟨b, off, none⟩ := by simpa using ha (by omega)
  clear hw1 ha
  go_wp2_with fail
  refine (leaseHeadOK_any b off f _ (X.out.1.pre 240 (by omega))).mono ?_
  rintro e w1 ⟨he, hw1⟩
  rw [HH.out] at he
  subst he
  obtain rfl := hw1.symm
  clear hw1
  go_wp2
  go_returns
  exact ⟨rfl, (Below.refl _ _).alloc (Nat.le_refl _) _⟩

/-- b[240:]. -/
theorem cut240 {wx : World} {b off len cap : Nat} {f : Nat → Int} (h : Bytes wx (some ⟨b, off, none⟩) len f) (h240 : 240 ≤ len) (hc : len ≤ cap) (hx : cap ≤ 1048576) :
    ∃ (o m cm : Nat), Bytes wx (some ⟨b, o, none⟩) m (fun j => f (240 + j)) ∧ m ≤ cm ∧ cm ≤ 1048576 ∧ m = len - 240 ∧ ((cap = 240 ∧ off = o ∧ 0 = m ∧ 0 = cm) ∨ (cap ≠ 240 ∧ off + 240 = o ∧ len - 240 = m ∧ cap - 240 = cm)) := by
  by_cases hz : cap = 240
  · exact ⟨off, 0, 0, ⟨fun k => h.1 _, fun h0 => absurd h0 (by omega)⟩, Nat.le_refl _, by omega, by omega, .inl ⟨hz, rfl, rfl, rfl⟩⟩
  · exact ⟨off + 240, len - 240, cap - 240, h.part 240 (len - 240) (by omega) _ (fun _ => rfl), by omega, by omega, rfl, .inr ⟨hz, rfl, rfl, rfl⟩⟩

theorem rd_first {w : World} {cs : List Value} {b off len : Nat} {f : Nat → Int} {wx : World} (hl : 0 < len) (h : RdS w cs (some ⟨b, off, none⟩) len f wx) : wx.cell? ⟨b, off, none⟩ = some (.int .u8 (f 0)) := by
  have := h.1.cellAt 0 hl
  simpa using this
theorem RdS.only {w : World} {cs : List Value} {a : Option Addr} {len q : Nat} {f : Nat → Int} {wx w' : World} (h : RdS w cs a len f wx) (o : Only q wx w') (hq : w.heap.size < q) (ha : ∀ b off, 0 < len → a = some ⟨b, off, none⟩ → b ≠ q) : RdS w cs a len f w' := by
  refine ⟨h.1.only o ha, h.2.1.trans (o.below (by omega)), by rw [o.size]; exact h.2.2.1, fun i v hi => ?_, fun i => ?_⟩
  · rw [o.cell (p := ⟨w.heap.size, i, none⟩) (by show w.heap.size ≠ q; omega)]
    exact h.2.2.2.1 i v hi
  · have := h.2.2.2.2 i
    unfold World.frozen? at this ⊢
    rw [o.block w.heap.size (by omega)]
    exact this

set_option maxHeartbeats 2000000 in
theorem readDh_no (a : Option Addr) (len cap : Nat) (f : Nat → Int) (w : World) (h : Bytes w a len f) (hc : len ≤ cap) (hx : cap ≤ 1048576) (h240 : 240 ≤ len) (hl : len ≤ 65536) (hh : headB f = true) (hd : ∀ k, dk (len - 239) (len - 240) (fun j => f (240 + j)) 0 = some k → ¬ (1 ≤ k ∧ k ≤ 8)) :
    Calls Try.prog 6 #[.slice a len cap] w fun e w' => e = .returned (.tuple #[.agg #[.int .i64 0, .int .i64 0, .int .i64 0, .bool false, .string ⟨#[]⟩], .int .i64 3]) ∧ Below w.heap.size w w' := by
  obtain ⟨b, off, rfl, -⟩ := h.2 (by omega)
  have X : Hid (RdS w [.int .i64 0, .int .i64 0, .int .i64 0, .bool false, .string ⟨#[]⟩] (some ⟨b, off, none⟩) len f (w.alloc (.cells #[.int .i64 0, .int .i64 0, .int .i64 0, .bool false, .string ⟨#[]⟩] 24))) := RdS.new h _
  have t1 : decide ((len : Int) < 240) = false := by simp; omega
  have hblt : b < w.heap.size := World.block_lt_of_cell? _ ⟨b, off + 0, none⟩ (h.cellAt 0 (by omega))
  obtain ⟨o, m, cm, hB, hm1, hm2, hm3, hcase⟩ := cut240 X.out.1 h240 hc hx
  have RR : Hid (RS ((w.alloc (.cells #[.int .i64 0, .int .i64 0, .int .i64 0, .bool false, .string ⟨#[]⟩] 24)).alloc (.cells #[.slice (some ⟨b, o, none⟩) m cm, .bool false] 35)) (w.heap.size + 1) m (fun j => f (240 + j)) false) := by
    show RS _ _ _ _ _
    have K := Boxed.new (w.alloc (.cells #[.int .i64 0, .int .i64 0, .int .i64 0, .bool false, .string ⟨#[]⟩] 24)) [.slice (some ⟨b, o, none⟩) m cm, .bool false] 35
    have ez : (w.alloc (.cells #[.int .i64 0, .int .i64 0, .int .i64 0, .bool false, .string ⟨#[]⟩] 24)).heap.size = w.heap.size + 1 := by simp
    rw [ez] at K
    refine ⟨⟨b, o, cm, K.at 0 _ rfl, hm1, hm2, keep_bytes ((Below.refl _ _).alloc (Nat.le_refl _) _) hB, by omega⟩, K.at 1 _ rfl, ?_, ?_⟩
    · rw [← ez]; simp
    · rw [← ez]; simp
  have XX : Hid (RdS w [.int .i64 0, .int .i64 0, .int .i64 0, .bool false, .string ⟨#[]⟩] (some ⟨b, off, none⟩) len f ((w.alloc (.cells #[.int .i64 0, .int .i64 0, .int .i64 0, .bool false, .string ⟨#[]⟩] 24)).alloc (.cells #[.slice (some ⟨b, o, none⟩) m cm, .bool false] 35))) := RdS.next X.out ((Below.refl _ _).alloc (Nat.le_refl _) _)
  have hbq : b ≠ w.heap.size + 1 := by omega
  have hm6 : m ≤ 1000000 := by omega
  have HM : Hid (m = len - 240 ∧ m + 1 = len - 239) := ⟨hm3, by omega⟩
  have HH : Hid (headB f = true) := hh
  have HD : Hid (∀ k, dk (m + 1) m (fun j => f (240 + j)) 0 = some k → ¬ (1 ≤ k ∧ k ≤ 8)) := by
    show ∀ k, _
    rw [HM.out.2, HM.out.1]
    exact hd
  clear h hh hd hB hm1 hm2 hm3 hblt
  rcases hcase with ⟨hz, rfl, rfl, rfl⟩ | ⟨hz, rfl, rfl, rfl⟩
  · obtain rfl : len = 240 := by omega
    subst hz
    go_enter Try.func6, Try.ntmps6
    go_wp2_with fail
    refine (part_any b off _ _ 0 240 _ (by omega) (by omega)).mono ?_
    rintro e w1 ⟨a', rfl, ha, hw1⟩
    obtain rfl := hw1.symm
    obtain rfl : a' = some ⟨b, off, none⟩ := by simpa using ha (by omega)
    clear hw1 ha
    go_wp2_with fail
    refine (leaseHeadOK_any b off f _ (X.out.1.pre 240 (by omega))).mono ?_
    rintro e w1 ⟨he, hw1⟩
    rw [HH.out] at he
    subst he
    obtain rfl := hw1.symm
    clear hw1
    go_wp2_with fail
    refine (leaseKind_any _ (w.heap.size + 1) _ (_ + 1) _ RR.out (Nat.lt_succ_self _) hm6).mono ?_
    rintro e w2 ⟨kd', n2, g2, sh, rfl, hrs, honly, hS, hF⟩
    have hfl := hrs.flag
    have Y : Hid (RdS w [.int .i64 0, .int .i64 0, .int .i64 0, .bool false, .string ⟨#[]⟩] (some ⟨b, off, none⟩) _ f w2) := RdS.only XX.out honly (by omega) (fun b' off' _ e => by cases e; exact hbq)
    clear hrs honly
    have k0 := Y.out.2.2.2.1.at 0 _ rfl
    have y0 := Y.out.2.2.2.2 0
    have k1 := Y.out.2.2.2.1.at 1 _ rfl
    have y1 := Y.out.2.2.2.2 1
    have k2 := Y.out.2.2.2.1.at 2 _ rfl
    have y2 := Y.out.2.2.2.2 2
    have k3 := Y.out.2.2.2.1.at 3 _ rfl
    have y3 := Y.out.2.2.2.2 3
    have k4 := Y.out.2.2.2.1.at 4 _ rfl
    have y4 := Y.out.2.2.2.2 4
    cases sh
    · have d := dec_n (show ¬ (1 ≤ kd' ∧ kd' ≤ 8) from by rcases hF rfl with h | h; exact HD.out _ h; omega)
      clear hS hF
      go_wp2_with fail
      refine (kindLease_any _ _).mono ?_
      rintro e w3 ⟨rfl, hw3⟩
      obtain rfl := hw3.symm
      clear hw3
      go_wp2
      (try simp only [Exit.inBlock, Exit.then])
      refine bodyPost_ret (v := .tuple #[.agg #[.int .i64 0, .int .i64 0, .int .i64 0, .bool false, .string ⟨#[]⟩], .int .i64 3]) (by simp [results, Try.results6, go_sem, *]; try rfl) rfl ?_
      exact ⟨rfl, ((((Y.out.2.1.setCell (by simp) _).setCell (by simp) _).setCell (by simp) _).setCell (by simp) _).setCell (by simp) _⟩
    · clear hS hF
      go_wp2
      (try simp only [Exit.inBlock, Exit.then])
      refine bodyPost_ret (v := .tuple #[.agg #[.int .i64 0, .int .i64 0, .int .i64 0, .bool false, .string ⟨#[]⟩], .int .i64 3]) (by simp [results, Try.results6, go_sem, *]; try rfl) rfl ?_
      exact ⟨rfl, ((((Y.out.2.1.setCell (by simp) _).setCell (by simp) _).setCell (by simp) _).setCell (by simp) _).setCell (by simp) _⟩
  · go_enter Try.func6, Try.ntmps6
    go_wp2_with fail
    refine (part_any b off _ _ 0 240 _ (by omega) (by omega)).mono ?_
    rintro e w1 ⟨a', rfl, ha, hw1⟩
    obtain rfl := hw1.symm
    obtain rfl : a' = some ⟨b, off, none⟩ := by simpa using ha (by omega)
    clear hw1 ha
    go_wp2_with fail
    refine (leaseHeadOK_any b off f _ (X.out.1.pre 240 (by omega))).mono ?_
    rintro e w1 ⟨he, hw1⟩
    rw [HH.out] at he
    subst he
    obtain rfl := hw1.symm
    clear hw1
    go_wp2_with fail
    refine (leaseKind_any _ (w.heap.size + 1) _ (_ + 1) _ RR.out (Nat.lt_succ_self _) hm6).mono ?_
    rintro e w2 ⟨kd', n2, g2, sh, rfl, hrs, honly, hS, hF⟩
    have hfl := hrs.flag
    have Y : Hid (RdS w [.int .i64 0, .int .i64 0, .int .i64 0, .bool false, .string ⟨#[]⟩] (some ⟨b, off, none⟩) _ f w2) := RdS.only XX.out honly (by omega) (fun b' off' _ e => by cases e; exact hbq)
    clear hrs honly
    have k0 := Y.out.2.2.2.1.at 0 _ rfl
    have y0 := Y.out.2.2.2.2 0
    have k1 := Y.out.2.2.2.1.at 1 _ rfl
    have y1 := Y.out.2.2.2.2 1
    have k2 := Y.out.2.2.2.1.at 2 _ rfl
    have y2 := Y.out.2.2.2.2 2
    have k3 := Y.out.2.2.2.1.at 3 _ rfl
    have y3 := Y.out.2.2.2.2 3
    have k4 := Y.out.2.2.2.1.at 4 _ rfl
    have y4 := Y.out.2.2.2.2 4
    cases sh
    · have d := dec_n (show ¬ (1 ≤ kd' ∧ kd' ≤ 8) from by rcases hF rfl with h | h; exact HD.out _ h; omega)
      clear hS hF
      go_wp2_with fail
      refine (kindLease_any _ _).mono ?_
      rintro e w3 ⟨rfl, hw3⟩
      obtain rfl := hw3.symm
      clear hw3
      go_wp2
      (try simp only [Exit.inBlock, Exit.then])
      refine bodyPost_ret (v := .tuple #[.agg #[.int .i64 0, .int .i64 0, .int .i64 0, .bool false, .string ⟨#[]⟩], .int .i64 3]) (by simp [results, Try.results6, go_sem, *]; try rfl) rfl ?_
      exact ⟨rfl, ((((Y.out.2.1.setCell (by simp) _).setCell (by simp) _).setCell (by simp) _).setCell (by simp) _).setCell (by simp) _⟩
    · clear hS hF
      go_wp2
      (try simp only [Exit.inBlock, Exit.then])
      refine bodyPost_ret (v := .tuple #[.agg #[.int .i64 0, .int .i64 0, .int .i64 0, .bool false, .string ⟨#[]⟩], .int .i64 3]) (by simp [results, Try.results6, go_sem, *]; try rfl) rfl ?_
      exact ⟨rfl, ((((Y.out.2.1.setCell (by simp) _).setCell (by simp) _).setCell (by simp) _).setCell (by simp) _).setCell (by simp) _⟩

set_option maxHeartbeats 4000000 in
theorem readDh_yes (a : Option Addr) (len cap : Nat) (f : Nat → Int) (w : World) (h : Bytes w a len f) (hc : len ≤ cap) (hx : cap ≤ 1048576) (h240 : 240 ≤ len) (hl : len ≤ 65536) (hh : headB f = true) (kd : Int) (hd : dk (len - 239) (len - 240) (fun j => f (240 + j)) 0 = some kd) (h1 : 1 ≤ kd) (h8 : kd ≤ 8) :
    Calls Try.prog 6 #[.slice a len cap] w fun e w' => e = .returned (.tuple #[.agg #[.int .i64 (pn f 4 4), .int .i64 (pn f 16 4), .int .i64 kd, .bool (f 0 == 2), .string (ps f 28 6)], .int .i64 0]) ∧ Below w.heap.size w w' := by
  obtain ⟨b, off, rfl, -⟩ := h.2 (by omega)
  have X : Hid (RdS w [.int .i64 0, .int .i64 0, .int .i64 0, .bool false, .string ⟨#[]⟩] (some ⟨b, off, none⟩) len f (w.alloc (.cells #[.int .i64 0, .int .i64 0, .int .i64 0, .bool false, .string ⟨#[]⟩] 24))) := RdS.new h _
  have t1 : decide ((len : Int) < 240) = false := by simp; omega
  have hblt : b < w.heap.size := World.block_lt_of_cell? _ ⟨b, off + 0, none⟩ (h.cellAt 0 (by omega))
  obtain ⟨o, m, cm, hB, hm1, hm2, hm3, hcase⟩ := cut240 X.out.1 h240 hc hx
  have RR : Hid (RS ((w.alloc (.cells #[.int .i64 0, .int .i64 0, .int .i64 0, .bool false, .string ⟨#[]⟩] 24)).alloc (.cells #[.slice (some ⟨b, o, none⟩) m cm, .bool false] 35)) (w.heap.size + 1) m (fun j => f (240 + j)) false) := by
    show RS _ _ _ _ _
    have K := Boxed.new (w.alloc (.cells #[.int .i64 0, .int .i64 0, .int .i64 0, .bool false, .string ⟨#[]⟩] 24)) [.slice (some ⟨b, o, none⟩) m cm, .bool false] 35
    have ez : (w.alloc (.cells #[.int .i64 0, .int .i64 0, .int .i64 0, .bool false, .string ⟨#[]⟩] 24)).heap.size = w.heap.size + 1 := by simp
    rw [ez] at K
    refine ⟨⟨b, o, cm, K.at 0 _ rfl, hm1, hm2, keep_bytes ((Below.refl _ _).alloc (Nat.le_refl _) _) hB, by omega⟩, K.at 1 _ rfl, ?_, ?_⟩
    · rw [← ez]; simp
    · rw [← ez]; simp
  have XX : Hid (RdS w [.int .i64 0, .int .i64 0, .int .i64 0, .bool false, .string ⟨#[]⟩] (some ⟨b, off, none⟩) len f ((w.alloc (.cells #[.int .i64 0, .int .i64 0, .int .i64 0, .bool false, .string ⟨#[]⟩] 24)).alloc (.cells #[.slice (some ⟨b, o, none⟩) m cm, .bool false] 35))) := RdS.next X.out ((Below.refl _ _).alloc (Nat.le_refl _) _)
  have hbq : b ≠ w.heap.size + 1 := by omega
  have hm6 : m ≤ 1000000 := by omega
  have HM : Hid (m = len - 240 ∧ m + 1 = len - 239) := ⟨hm3, by omega⟩
  have HH : Hid (headB f = true) := hh
  have HD : Hid (dk (m + 1) m (fun j => f (240 + j)) 0 = some kd) := by
    show _ = _
    rw [HM.out.2, HM.out.1]
    exact hd
  have d := dec_y (show 1 ≤ kd ∧ kd ≤ 8 from ⟨h1, h8⟩)
  clear h hh hd hB hm1 hm2 hm3 hblt
  rcases hcase with ⟨hz, rfl, rfl, rfl⟩ | ⟨hz, rfl, rfl, rfl⟩
  · exfalso
    have := HD.out
    rw [dk_0] at this
    cases this
  · go_enter Try.func6, Try.ntmps6
    go_wp2_with fail
    refine (part_any b off _ _ 0 240 _ (by omega) (by omega)).mono ?_
    rintro e w1 ⟨a', rfl, ha, hw1⟩
    obtain rfl := hw1.symm
    obtain rfl : a' = some ⟨b, off, none⟩ := by simpa using ha (by omega)
    clear hw1 ha
    go_wp2_with fail
    refine (leaseHeadOK_any b off f _ (X.out.1.pre 240 (by omega))).mono ?_
    rintro e w1 ⟨he, hw1⟩
    rw [HH.out] at he
    subst he
    obtain rfl := hw1.symm
    clear hw1
    go_wp2_with fail
    refine (leaseKind_any _ (w.heap.size + 1) _ (_ + 1) _ RR.out (Nat.lt_succ_self _) hm6).mono ?_
    rintro e w2 ⟨kd', n2, g2, sh, rfl, hrs, honly, hS, hF⟩
    have hfl := hrs.flag
    have Y : Hid (RdS w [.int .i64 0, .int .i64 0, .int .i64 0, .bool false, .string ⟨#[]⟩] (some ⟨b, off, none⟩) _ f w2) := RdS.only XX.out honly (by omega) (fun b' off' _ e => by cases e; exact hbq)
    clear hrs honly
    cases sh
    rotate_left
    · exfalso
      have := hS rfl
      rw [HD.out] at this
      cases this
    obtain rfl : kd' = kd := by
      rcases hF rfl with h | h
      · rw [HD.out] at h; exact (Option.some.inj h).symm
      · rw [HD.out] at h; cases h.1
    clear hS hF
    go_wp2_with fail
    refine (kindLease_any _ _).mono ?_
    rintro e w3 ⟨rfl, hw3⟩
    obtain rfl := hw3.symm
    clear hw3
    go_wp2
    have Yd : Hid (RdS w [.int .i64 0, .int .i64 0, .int .i64 0, .bool false, .string ⟨#[]⟩] (some ⟨b, off, none⟩) len f w2.drew) := Y.out.drew
    have cz2 := rd_first (by omega) Yd.out
    have l0 : 0 < len := by omega
    clear RR XX X HD HH HM
    refine wp_region_held_drew (S := (fun _ => True)) (by kernel_rfl) ?_ (fun hH0 => ?_)
    · trivial
    refine wpAnyH_take (i := 0) (v := ?v1) rfl (by kernel_rfl) (by kernel_rfl) (by kernel_rfl) (fun _ _ _ h => h) (Or.inl ⟨by rfl, ?hy1⟩) (by assumption) ?rest1
    case hy1 => (intro w hSw; (try dsimp only at hSw); go_simp; (try with_reducible rfl))
    refine wpAnyH_take (i := 2) (v := ?v2) rfl (by kernel_rfl) (by kernel_rfl) (by kernel_rfl) (fun _ _ _ h => h) (Or.inl ⟨by rfl, ?hy2⟩) (by assumption) ?rest2
    case hy2 => (intro w hSw; (try dsimp only at hSw); go_simp; (try with_reducible rfl))
    refine wpAnyH_take (i := 4) (v := ?v3) rfl (by kernel_rfl) (by kernel_rfl) (by kernel_rfl) (fun _ _ _ h => h) (Or.inl ⟨by rfl, ?hy3⟩) (by assumption) ?rest3
    case hy3 => (intro w hSw; (try dsimp only at hSw); go_simp; (try with_reducible rfl))
    refine wpAnyH_take (i := 5) (v := ?v4) rfl (by kernel_rfl) (by kernel_rfl) (by kernel_rfl) (fun _ _ _ h => h) (Or.inl ⟨by rfl, ?hy4⟩) (by assumption) ?rest4
    case hy4 => (intro w hSw; (try dsimp only at hSw); go_simp; (try with_reducible rfl))
    refine wpAnyH_take (i := 6) (v := ?v5) rfl (by kernel_rfl) (by kernel_rfl) (by kernel_rfl) (fun _ _ _ h => h) (Or.inl ⟨by rfl, ?hy5⟩) (by assumption) ?rest5
    case hy5 => (intro w hSw; (try dsimp only at hSw); go_simp; (try with_reducible rfl))
    refine wpAnyH_take (i := 9) (v := ?v6) rfl (by kernel_rfl) (by kernel_rfl) (by kernel_rfl) (fun _ _ _ h => h) (Or.inl ⟨by rfl, ?hy6⟩) (by assumption) ?rest6
    case hy6 => (intro w hSw; (try dsimp only at hSw); go_simp; (try with_reducible rfl))
    refine wpAnyH_ready (rs := [1, 7]) (by kernel_rfl) (by simp) ?_
    refine AllReadyH.cons rfl (fun K hK => ?_) ?_
    · go_simp
      refine (rd_num 4 4 (by omega) hc (by omega) (by omega) (by omega) _ Yd).mono ?_
      rintro e w9 ⟨rfl, X9⟩
      have czw9 := rd_first (by omega) X9.out
      go_wp2_with fail
      refine hK.out _ _ ?_ (fun hH7 => ?_)
      · (try dsimp only)
        (try trivial)
      clear hK K hH0
      refine wpAnyH_ready (rs := [3, 7]) (by kernel_rfl) (by simp) ?_
      refine AllReadyH.cons rfl (fun K hK => ?_) ?_
      · go_simp
        refine (rd_num 16 4 (by omega) hc (by omega) (by omega) (by omega) _ X9).mono ?_
        rintro e w10 ⟨rfl, X10⟩
        have czw10 := rd_first (by omega) X10.out
        go_wp2_with fail
        refine hK.out _ _ ?_ (fun hH8 => ?_)
        · (try dsimp only)
          (try trivial)
        clear hK K hH7
        refine wpAnyH_ready (rs := [7, 10]) (by kernel_rfl) (by simp) ?_
        refine AllReadyH.cons rfl (fun K hK => ?_) ?_
        · go_simp
          refine hK.out _ _ ?_ (fun hH9 => ?_)
          · (try dsimp only)
            (try trivial)
          clear hK K hH8
          refine wpAnyH_take (i := 8) (v := ?v10) rfl (by kernel_rfl) (by kernel_rfl) (by kernel_rfl) (fun _ _ _ h => h) (Or.inl ⟨by rfl, ?hy10⟩) (by assumption) ?rest10
          case hy10 => (intro w hSw; (try dsimp only at hSw); go_simp; (try with_reducible rfl))
          refine wpAnyH_ready (rs := [10]) (by kernel_rfl) (by simp) ?_
          refine AllReadyH.cons rfl (fun K hK => ?_) ?_
          · go_simp
            refine (rd_mac 28 (by omega) hc (by omega) _ X10).mono ?_
            rintro e w11 ⟨rfl, X11⟩
            have czw11 := rd_first (by omega) X11.out
            have k0 := X11.out.2.2.2.1.at 0 _ rfl
            have y0 := X11.out.2.2.2.2 0
            have k1 := X11.out.2.2.2.1.at 1 _ rfl
            have y1 := X11.out.2.2.2.2 1
            have k2 := X11.out.2.2.2.1.at 2 _ rfl
            have y2 := X11.out.2.2.2.2 2
            have k3 := X11.out.2.2.2.1.at 3 _ rfl
            have y3 := X11.out.2.2.2.2 3
            have k4 := X11.out.2.2.2.1.at 4 _ rfl
            have y4 := X11.out.2.2.2.2 4
            go_wp2_with fail
            refine hK.out _ _ ?_ (fun hH11 => ?_)
            · (try dsimp only)
              (try trivial)
            clear hK K hH9
            refine wpAnyH_take (i := 11) (v := ?v12) rfl (by kernel_rfl) (by kernel_rfl) (by kernel_rfl) (fun _ _ _ h => h) (Or.inl ⟨by rfl, ?hy12⟩) (by assumption) ?rest12
            case hy12 => (intro w hSw; (try dsimp only at hSw); go_simp; (try with_reducible rfl))
            refine wpAnyH_ready (rs := [12]) (by kernel_rfl) (by simp) ?_
            refine AllReadyH.cons rfl (fun K hK => ?_) ?_
            · go_simp
              refine hK.out _ _ ?_ (fun hH13 => ?_)
              · (try dsimp only)
                (try trivial)
              clear hK K hH11
              refine wpAnyH_take (i := 13) (v := ?v14) rfl (by kernel_rfl) (by kernel_rfl) (by kernel_rfl) (fun _ _ _ h => h) (Or.inl ⟨by rfl, ?hy14⟩) (by assumption) ?rest14
              case hy14 => (intro w hSw; (try dsimp only at hSw); go_simp; (try with_reducible rfl))
              refine wpAnyH_done (by kernel_rfl) ?_ _
              go_wp2
              (try simp only [Exit.inBlock, Exit.then])
              refine bodyPost_ret (v := .tuple #[.agg #[.int .i64 (pn f 4 4), .int .i64 (pn f 16 4), .int .i64 kd', .bool (f 0 == 2), .string (ps f 28 6)], .int .i64 0]) (by simp [results, Try.results6, go_sem, *]; try rfl) rfl ?_
              exact ⟨rfl, ((((X11.out.2.1.setCell (by simp) _).setCell (by simp) _).setCell (by simp) _).setCell (by simp) _).setCell (by simp) _⟩
            exact AllReadyH.nil
          exact AllReadyH.nil
        refine AllReadyH.cons rfl (fun K hK => ?_) ?_
        · go_simp
          refine (rd_mac 28 (by omega) hc (by omega) _ X10).mono ?_
          rintro e w11 ⟨rfl, X11⟩
          have czw11 := rd_first (by omega) X11.out
          have k0 := X11.out.2.2.2.1.at 0 _ rfl
          have y0 := X11.out.2.2.2.2 0
          have k1 := X11.out.2.2.2.1.at 1 _ rfl
          have y1 := X11.out.2.2.2.2 1
          have k2 := X11.out.2.2.2.1.at 2 _ rfl
          have y2 := X11.out.2.2.2.2 2
          have k3 := X11.out.2.2.2.1.at 3 _ rfl
          have y3 := X11.out.2.2.2.2 3
          have k4 := X11.out.2.2.2.1.at 4 _ rfl
          have y4 := X11.out.2.2.2.2 4
          go_wp2_with fail
          refine hK.out _ _ ?_ (fun hH15 => ?_)
          · (try dsimp only)
            (try trivial)
          clear hK K hH8
          refine wpAnyH_ready (rs := [7]) (by kernel_rfl) (by simp) ?_
          refine AllReadyH.cons rfl (fun K hK => ?_) ?_
          · go_simp
            refine hK.out _ _ ?_ (fun hH16 => ?_)
            · (try dsimp only)
              (try trivial)
            clear hK K hH15
            refine wpAnyH_take (i := 8) (v := ?v17) rfl (by kernel_rfl) (by kernel_rfl) (by kernel_rfl) (fun _ _ _ h => h) (Or.inl ⟨by rfl, ?hy17⟩) (by assumption) ?rest17
            case hy17 => (intro w hSw; (try dsimp only at hSw); go_simp; (try with_reducible rfl))
            refine wpAnyH_take (i := 11) (v := ?v18) rfl (by kernel_rfl) (by kernel_rfl) (by kernel_rfl) (fun _ _ _ h => h) (Or.inl ⟨by rfl, ?hy18⟩) (by assumption) ?rest18
            case hy18 => (intro w hSw; (try dsimp only at hSw); go_simp; (try with_reducible rfl))
            refine wpAnyH_ready (rs := [12]) (by kernel_rfl) (by simp) ?_
            refine AllReadyH.cons rfl (fun K hK => ?_) ?_
            · go_simp
              refine hK.out _ _ ?_ (fun hH19 => ?_)
              · (try dsimp only)
                (try trivial)
              clear hK K hH16
              refine wpAnyH_take (i := 13) (v := ?v20) rfl (by kernel_rfl) (by kernel_rfl) (by kernel_rfl) (fun _ _ _ h => h) (Or.inl ⟨by rfl, ?hy20⟩) (by assumption) ?rest20
              case hy20 => (intro w hSw; (try dsimp only at hSw); go_simp; (try with_reducible rfl))
              refine wpAnyH_done (by kernel_rfl) ?_ _
              go_wp2
              (try simp only [Exit.inBlock, Exit.then])
              refine bodyPost_ret (v := .tuple #[.agg #[.int .i64 (pn f 4 4), .int .i64 (pn f 16 4), .int .i64 kd', .bool (f 0 == 2), .string (ps f 28 6)], .int .i64 0]) (by simp [results, Try.results6, go_sem, *]; try rfl) rfl ?_
              exact ⟨rfl, ((((X11.out.2.1.setCell (by simp) _).setCell (by simp) _).setCell (by simp) _).setCell (by simp) _).setCell (by simp) _⟩
            exact AllReadyH.nil
          exact AllReadyH.nil
        exact AllReadyH.nil
      refine AllReadyH.cons rfl (fun K hK => ?_) ?_
      · go_simp
        refine hK.out _ _ ?_ (fun hH21 => ?_)
        · (try dsimp only)
          (try trivial)
        clear hK K hH7
        refine wpAnyH_take (i := 8) (v := ?v22) rfl (by kernel_rfl) (by kernel_rfl) (by kernel_rfl) (fun _ _ _ h => h) (Or.inl ⟨by rfl, ?hy22⟩) (by assumption) ?rest22
        case hy22 => (intro w hSw; (try dsimp only at hSw); go_simp; (try with_reducible rfl))
        refine wpAnyH_ready (rs := [3]) (by kernel_rfl) (by simp) ?_
        refine AllReadyH.cons rfl (fun K hK => ?_) ?_
        · go_simp
          refine (rd_num 16 4 (by omega) hc (by omega) (by omega) (by omega) _ X9).mono ?_
          rintro e w10 ⟨rfl, X10⟩
          have czw10 := rd_first (by omega) X10.out
          go_wp2_with fail
          refine hK.out _ _ ?_ (fun hH23 => ?_)
          · (try dsimp only)
            (try trivial)
          clear hK K hH21
          refine wpAnyH_ready (rs := [10]) (by kernel_rfl) (by simp) ?_
          refine AllReadyH.cons rfl (fun K hK => ?_) ?_
          · go_simp
            refine (rd_mac 28 (by omega) hc (by omega) _ X10).mono ?_
            rintro e w11 ⟨rfl, X11⟩
            have czw11 := rd_first (by omega) X11.out
            have k0 := X11.out.2.2.2.1.at 0 _ rfl
            have y0 := X11.out.2.2.2.2 0
            have k1 := X11.out.2.2.2.1.at 1 _ rfl
            have y1 := X11.out.2.2.2.2 1
            have k2 := X11.out.2.2.2.1.at 2 _ rfl
            have y2 := X11.out.2.2.2.2 2
            have k3 := X11.out.2.2.2.1.at 3 _ rfl
            have y3 := X11.out.2.2.2.2 3
            have k4 := X11.out.2.2.2.1.at 4 _ rfl
            have y4 := X11.out.2.2.2.2 4
            go_wp2_with fail
            refine hK.out _ _ ?_ (fun hH24 => ?_)
            · (try dsimp only)
              (try trivial)
            clear hK K hH23
            refine wpAnyH_take (i := 11) (v := ?v25) rfl (by kernel_rfl) (by kernel_rfl) (by kernel_rfl) (fun _ _ _ h => h) (Or.inl ⟨by rfl, ?hy25⟩) (by assumption) ?rest25
            case hy25 => (intro w hSw; (try dsimp only at hSw); go_simp; (try with_reducible rfl))
            refine wpAnyH_ready (rs := [12]) (by kernel_rfl) (by simp) ?_
            refine AllReadyH.cons rfl (fun K hK => ?_) ?_
            · go_simp
              refine hK.out _ _ ?_ (fun hH26 => ?_)
              · (try dsimp only)
                (try trivial)
              clear hK K hH24
              refine wpAnyH_take (i := 13) (v := ?v27) rfl (by kernel_rfl) (by kernel_rfl) (by kernel_rfl) (fun _ _ _ h => h) (Or.inl ⟨by rfl, ?hy27⟩) (by assumption) ?rest27
              case hy27 => (intro w hSw; (try dsimp only at hSw); go_simp; (try with_reducible rfl))
              refine wpAnyH_done (by kernel_rfl) ?_ _
              go_wp2
              (try simp only [Exit.inBlock, Exit.then])
              refine bodyPost_ret (v := .tuple #[.agg #[.int .i64 (pn f 4 4), .int .i64 (pn f 16 4), .int .i64 kd', .bool (f 0 == 2), .string (ps f 28 6)], .int .i64 0]) (by simp [results, Try.results6, go_sem, *]; try rfl) rfl ?_
              exact ⟨rfl, ((((X11.out.2.1.setCell (by simp) _).setCell (by simp) _).setCell (by simp) _).setCell (by simp) _).setCell (by simp) _⟩
            exact AllReadyH.nil
          exact AllReadyH.nil
        exact AllReadyH.nil
      exact AllReadyH.nil
    refine AllReadyH.cons rfl (fun K hK => ?_) ?_
    · go_simp
      refine hK.out _ _ ?_ (fun hH28 => ?_)
      · (try dsimp only)
        (try trivial)
      clear hK K hH0
      refine wpAnyH_take (i := 8) (v := ?v29) rfl (by kernel_rfl) (by kernel_rfl) (by kernel_rfl) (fun _ _ _ h => h) (Or.inl ⟨by rfl, ?hy29⟩) (by assumption) ?rest29
      case hy29 => (intro w hSw; (try dsimp only at hSw); go_simp; (try with_reducible rfl))
      refine wpAnyH_ready (rs := [1]) (by kernel_rfl) (by simp) ?_
      refine AllReadyH.cons rfl (fun K hK => ?_) ?_
      · go_simp
        refine (rd_num 4 4 (by omega) hc (by omega) (by omega) (by omega) _ Yd).mono ?_
        rintro e w9 ⟨rfl, X9⟩
        have czw9 := rd_first (by omega) X9.out
        go_wp2_with fail
        refine hK.out _ _ ?_ (fun hH30 => ?_)
        · (try dsimp only)
          (try trivial)
        clear hK K hH28
        refine wpAnyH_ready (rs := [3]) (by kernel_rfl) (by simp) ?_
        refine AllReadyH.cons rfl (fun K hK => ?_) ?_
        · go_simp
          refine (rd_num 16 4 (by omega) hc (by omega) (by omega) (by omega) _ X9).mono ?_
          rintro e w10 ⟨rfl, X10⟩
          have czw10 := rd_first (by omega) X10.out
          go_wp2_with fail
          refine hK.out _ _ ?_ (fun hH31 => ?_)
          · (try dsimp only)
            (try trivial)
          clear hK K hH30
          refine wpAnyH_ready (rs := [10]) (by kernel_rfl) (by simp) ?_
          refine AllReadyH.cons rfl (fun K hK => ?_) ?_
          · go_simp
            refine (rd_mac 28 (by omega) hc (by omega) _ X10).mono ?_
            rintro e w11 ⟨rfl, X11⟩
            have czw11 := rd_first (by omega) X11.out
            have k0 := X11.out.2.2.2.1.at 0 _ rfl
            have y0 := X11.out.2.2.2.2 0
            have k1 := X11.out.2.2.2.1.at 1 _ rfl
            have y1 := X11.out.2.2.2.2 1
            have k2 := X11.out.2.2.2.1.at 2 _ rfl
            have y2 := X11.out.2.2.2.2 2
            have k3 := X11.out.2.2.2.1.at 3 _ rfl
            have y3 := X11.out.2.2.2.2 3
            have k4 := X11.out.2.2.2.1.at 4 _ rfl
            have y4 := X11.out.2.2.2.2 4
            go_wp2_with fail
            refine hK.out _ _ ?_ (fun hH32 => ?_)
            · (try dsimp only)
              (try trivial)
            clear hK K hH31
            refine wpAnyH_take (i := 11) (v := ?v33) rfl (by kernel_rfl) (by kernel_rfl) (by kernel_rfl) (fun _ _ _ h => h) (Or.inl ⟨by rfl, ?hy33⟩) (by assumption) ?rest33
            case hy33 => (intro w hSw; (try dsimp only at hSw); go_simp; (try with_reducible rfl))
            refine wpAnyH_ready (rs := [12]) (by kernel_rfl) (by simp) ?_
            refine AllReadyH.cons rfl (fun K hK => ?_) ?_
            · go_simp
              refine hK.out _ _ ?_ (fun hH34 => ?_)
              · (try dsimp only)
                (try trivial)
              clear hK K hH32
              refine wpAnyH_take (i := 13) (v := ?v35) rfl (by kernel_rfl) (by kernel_rfl) (by kernel_rfl) (fun _ _ _ h => h) (Or.inl ⟨by rfl, ?hy35⟩) (by assumption) ?rest35
              case hy35 => (intro w hSw; (try dsimp only at hSw); go_simp; (try with_reducible rfl))
              refine wpAnyH_done (by kernel_rfl) ?_ _
              go_wp2
              (try simp only [Exit.inBlock, Exit.then])
              refine bodyPost_ret (v := .tuple #[.agg #[.int .i64 (pn f 4 4), .int .i64 (pn f 16 4), .int .i64 kd', .bool (f 0 == 2), .string (ps f 28 6)], .int .i64 0]) (by simp [results, Try.results6, go_sem, *]; try rfl) rfl ?_
              exact ⟨rfl, ((((X11.out.2.1.setCell (by simp) _).setCell (by simp) _).setCell (by simp) _).setCell (by simp) _).setCell (by simp) _⟩
            exact AllReadyH.nil
          exact AllReadyH.nil
        exact AllReadyH.nil
      exact AllReadyH.nil
    exact AllReadyH.nil
end Go.Proofs.Ytdhjbbnggeamhac
