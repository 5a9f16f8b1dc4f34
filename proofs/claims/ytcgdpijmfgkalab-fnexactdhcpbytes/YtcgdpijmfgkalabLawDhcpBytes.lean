/- The walk of laws.FnExactDhcpBytes: it answers true at every Dhcp, and turns nothing that was there. -/
import Derived.Test.YtcgdpijmfgkalabSpecFrame
import Derived.Test.YtcgdpijmfgkalabMark
import Derived.Test.YtcgdpijmfgkalabCopy
import Derived.Test.YtcgdpijmfgkalabWriterAid
namespace Go.Proofs.Ytcgdpijmfgkalab
open Go.RowKit Go.PlainAid
set_option linter.unusedVariables false
set_option maxRecDepth 20000

set_option maxHeartbeats 1000000 in
theorem toDhcp_any (f0 : Int) (f1 : Int) (f2 : Int) (f3 : Bool) (f4 : ByteArray) (w : World) :
    Calls Try.prog 11 #[.agg #[.int .i64 f0, .int .i64 f1, .int .i64 f2, .bool f3, .string f4]] w fun e w' => e = .returned (.agg #[.int .i64 f0, .int .i64 f1, .int .i64 f2, .bool f3, .string f4]) ∧ Below w.heap.size w w' := by
  go_enter Try.func11, Try.ntmps11
  go_wp2
  (try simp only [Exit.inBlock, Exit.then])
  refine bodyPost_ret (v := .agg #[.int .i64 f0, .int .i64 f1, .int .i64 f2, .bool f3, .string f4]) (by simp [results, Try.results11, go_sem]; try rfl) rfl ?_
  exact ⟨rfl, (((Below.refl _ _).alloc (Nat.le_refl _) _).alloc (by simp) _).alloc (by simp; omega) _⟩

set_option maxHeartbeats 1000000 in
theorem szDhcp_any (f0 : Int) (f1 : Int) (f2 : Int) (f3 : Bool) (f4 : ByteArray) (w : World) (xf4 : f4.size ≤ 9223372036854775807) :
    Calls Try.prog 9 #[.agg #[.int .i64 f0, .int .i64 f1, .int .i64 f2, .bool f3, .string f4], .int .i64 1048576] w fun e w' => ∃ r : Int, e = .returned (.int .i64 r) ∧ (0 ≤ r → f4.size ≤ 1048576) ∧ -1 ≤ r ∧ r ≤ 1048576 ∧ Below w.heap.size w w' ∧ w.heap.size < w'.heap.size := by
  by_cases hf4 : (f4.size : Int) ≤ 1048576
  · go_enter Try.func9, Try.ntmps9
    go_wp2
    go_ret
    exact ⟨_, rfl, fun _ => by omega, by omega, by omega, (Below.refl _ _).alloc (Nat.le_refl _) _, by simp⟩
  · go_enter Try.func9, Try.ntmps9
    go_wp2
    go_ret
    exact ⟨-1, rfl, fun h => absurd h (by omega), by omega, by omega, (Below.refl _ _).alloc (Nat.le_refl _) _, by simp⟩

set_option maxHeartbeats 4000000 in
theorem lawDhcpBytes_any  (f0 : Int) (f1 : Int) (f2 : Int) (f3 : Bool) (f4 : ByteArray) (w : World) (xf4 : f4.size ≤ 9223372036854775807) (hboth : f4.size ≤ 1048576 → ∃ (L : List Int) (c : Int), L.length ≤ 1000000 ∧ (∀ w, SpecL 10 #[.agg #[.int .i64 f0, .int .i64 f1, .int .i64 f2, .bool f3, .string f4]] w L c) ∧ (∀ w, ImplL 12 #[.agg #[.int .i64 f0, .int .i64 f1, .int .i64 f2, .bool f3, .string f4]] w L c)) :
    Calls Try.prog 3 #[.agg #[.int .i64 f0, .int .i64 f1, .int .i64 f2, .bool f3, .string f4]] w fun e w' => e = .returned (.bool true) ∧ Below w.heap.size w w' := by
  have HB : Hid (f4.size ≤ 1048576 → ∃ (L : List Int) (c : Int), L.length ≤ 1000000 ∧ (∀ w, SpecL 10 #[.agg #[.int .i64 f0, .int .i64 f1, .int .i64 f2, .bool f3, .string f4]] w L c) ∧ (∀ w, ImplL 12 #[.agg #[.int .i64 f0, .int .i64 f1, .int .i64 f2, .bool f3, .string f4]] w L c)) := hboth
  clear hboth
  go_enter Try.func3, Try.ntmps3
  go_wp2_with fail
  refine (szDhcp_any f0 f1 f2 f3 f4 _ xf4).mono ?_
  rintro e w1 ⟨r, rfl, hr, r0, r1, b1, z1⟩
  simp only [World.size_alloc] at z1
  have X1 : Hid (Boxed w1 w.heap.size [.int .i64 f0, .int .i64 f1, .int .i64 f2, .bool f3, .string f4] ∧ Below w.heap.size w w1) :=
    ⟨(Boxed.new w _ _).below b1 (by simp), ((Below.refl _ _).alloc (Nat.le_refl _) _).trans (b1.mono (by simp))⟩
  have HR : Hid (0 ≤ r → f4.size ≤ 1048576) := hr
  clear b1 hr
  by_cases h0 : r < 0
  · go_wp2
    go_ret
    exact ⟨rfl, X1.out.2⟩
  · obtain ⟨L, c, hL, hS, hI⟩ := HB.out (HR.out (by omega))
    have HS : Hid (∀ w, SpecL 10 #[.agg #[.int .i64 f0, .int .i64 f1, .int .i64 f2, .bool f3, .string f4]] w L c) := hS
    have HI : Hid (∀ w, ImplL 12 #[.agg #[.int .i64 f0, .int .i64 f1, .int .i64 f2, .bool f3, .string f4]] w L c) := hI
    obtain ⟨k, hk⟩ : ∃ k, k = L.length := ⟨_, rfl⟩
    obtain ⟨f, hf⟩ : ∃ f : Nat → Int, f = fun j => L.getD j 0 := ⟨_, rfl⟩
    have HS2 : Hid (∀ w, SpecRowL 10 #[.agg #[.int .i64 f0, .int .i64 f1, .int .i64 f2, .bool f3, .string f4]] w k f c) := by subst hk hf; exact hS
    have HI2 : Hid (∀ w, ImplRowL 12 #[.agg #[.int .i64 f0, .int .i64 f1, .int .i64 f2, .bool f3, .string f4]] w k f c) := by subst hk hf; exact hI
    have hk6 : k ≤ 1000000 := by omega
    clear hS hI HS HI hk hf hL HB HR
    have hne : (c != c) = false := by simp
    have hnk : ((1 + (k : Int)) != (1 + (k : Int))) = false := by simp
    have k0 := X1.out.1.at 0 _ rfl
    have k1 := X1.out.1.at 1 _ rfl
    have k2 := X1.out.1.at 2 _ rfl
    have k3 := X1.out.1.at 3 _ rfl
    have k4 := X1.out.1.at 4 _ rfl
    go_wp2_with fail
    refine (toDhcp_any f0 f1 f2 f3 f4 _).mono ?_
    rintro e w2 ⟨rfl, b2⟩
    have z2 := b2.size
    have X2 : Hid (Boxed w2 w.heap.size [.int .i64 f0, .int .i64 f1, .int .i64 f2, .bool f3, .string f4] ∧ Below w.heap.size w w2) := ⟨X1.out.1.below b2 (by omega), X1.out.2.trans (b2.mono (by omega))⟩
    clear b2
    clear k0 k1 k2 k3 k4
    go_wp2_with fail
    refine (HS2.out w2).mono ?_
    rintro e w3 ⟨a, ca, rfl, hb3, hlt3, b3⟩
    have z3 := b3.size
    have X3 : Hid (Boxed w3 w.heap.size [.int .i64 f0, .int .i64 f1, .int .i64 f2, .bool f3, .string f4] ∧ Below w.heap.size w w3 ∧ Bytes w3 a k f ∧ (∀ b off, a = some ⟨b, off, none⟩ → b < w3.heap.size)) := ⟨X2.out.1.below b3 (by omega), X2.out.2.trans (b3.mono (by omega)), hb3, hlt3⟩
    clear hb3 hlt3 b3
    have k0 := X3.out.1.at 0 _ rfl
    have k1 := X3.out.1.at 1 _ rfl
    have k2 := X3.out.1.at 2 _ rfl
    have k3 := X3.out.1.at 3 _ rfl
    have k4 := X3.out.1.at 4 _ rfl
    go_wp2_with fail
    refine (toDhcp_any f0 f1 f2 f3 f4 _).mono ?_
    rintro e w4 ⟨rfl, b4⟩
    have z4 := b4.size
    have X4 : Hid (Boxed w4 w.heap.size [.int .i64 f0, .int .i64 f1, .int .i64 f2, .bool f3, .string f4] ∧ Below w.heap.size w w4 ∧ Below w3.heap.size w3 w4) := ⟨X3.out.1.below b4 (by omega), X3.out.2.1.trans (b4.mono (by omega)), b4⟩
    clear b4
    clear k0 k1 k2 k3 k4
    go_wp2_with fail
    refine (HI2.out w4).mono ?_
    rintro e w5 ⟨g, cg, rfl, hb5, hlt5, b5⟩
    have z5 := b5.size
    have X5 : Hid (Boxed w5 w.heap.size [.int .i64 f0, .int .i64 f1, .int .i64 f2, .bool f3, .string f4] ∧ Below w.heap.size w w5 ∧ Below w3.heap.size w3 w5 ∧ Writ w5 g k f ∧ (∀ b, 0 < k → g = some ⟨b, 0, none⟩ → w4.heap.size ≤ b)) := ⟨X4.out.1.below b5 (by omega), X4.out.2.1.trans (b5.mono (by omega)), X4.out.2.2.trans (b5.mono (by omega)), hb5, hlt5⟩
    clear hb5 hlt5 b5
    go_wp2_with fail
    refine (eqByteS_yes g a k cg ca f w5 X5.out.2.2.2.1.bytes (X3.out.2.2.1.below X5.out.2.2.1 (fun b off _ hh => X3.out.2.2.2 b off hh)) (by omega)).mono ?_
    rintro e w6 ⟨rfl, b6⟩
    have z6 := b6.size
    have X6 : Hid (Below w5.heap.size w5 w6) := b6
    clear b6
    go_wp2_with fail
    refine (mark_any g k cg f w6 w4.heap.size (X5.out.2.2.2.1.below X6.out (Nat.le_refl _)) (by omega) X5.out.2.2.2.2).mono ?_
    rintro e w7 ⟨rfl, hw7, b7, s7⟩
    have z7 : w6.heap.size ≤ w7.heap.size := by omega
    have X7 : Hid (Writ w7 g k mk ∧ Below w4.heap.size w6 w7 ∧ Below w.heap.size w w7 ∧ Below w3.heap.size w3 w7 ∧ Boxed w7 w.heap.size [.int .i64 f0, .int .i64 f1, .int .i64 f2, .bool f3, .string f4]) :=
      ⟨hw7, b7, ((X5.out.2.1.trans (X6.out.mono (by omega))).trans (b7.mono (by omega))), ((X5.out.2.2.1.trans (X6.out.mono (by omega))).trans (b7.mono (by omega))), ((X5.out.1.below X6.out (by omega)).below b7 (by omega))⟩
    clear hw7 b7 s7
    go_wp2_with fail
    refine (heldByteS_any g k cg w7 X7.out.1.bytes (by omega)).mono ?_
    rintro e w8 ⟨rfl, hw8⟩
    subst hw8
    have k0 := X7.out.2.2.2.2.at 0 _ rfl
    have k1 := X7.out.2.2.2.2.at 1 _ rfl
    have k2 := X7.out.2.2.2.2.at 2 _ rfl
    have k3 := X7.out.2.2.2.2.at 3 _ rfl
    have k4 := X7.out.2.2.2.2.at 4 _ rfl
    go_wp2_with fail
    refine (toDhcp_any f0 f1 f2 f3 f4 _).mono ?_
    rintro e w9 ⟨rfl, b9⟩
    have z9 := b9.size
    have X9 : Hid (Below w8.heap.size w8 w9) := b9
    clear b9
    clear k0 k1 k2 k3 k4
    go_wp2_with fail
    refine (HI2.out w9).mono ?_
    rintro e w10 ⟨h, ch, rfl, hb10, hlt10, b10⟩
    have z10 := b10.size
    have X10 : Hid (Writ w10 h k f ∧ Below w8.heap.size w8 w10) := ⟨hb10, X9.out.trans (b10.mono (by omega))⟩
    clear hb10 hlt10 b10
    have B3 : Hid (Below w3.heap.size w3 w10) := X7.out.2.2.2.1.trans (X10.out.2.mono (by omega))
    go_wp2_with fail
    refine (eqByteS_yes h a k ch ca f w10 X10.out.1.bytes (X3.out.2.2.1.below B3.out (fun b off _ hh => X3.out.2.2.2 b off hh)) (by omega)).mono ?_
    rintro e w11 ⟨rfl, b11⟩
    have z11 := b11.size
    have X11 : Hid (Below w10.heap.size w10 w11) := b11
    clear b11
    go_wp2_with fail
    refine (heldByteS_any g k cg w11 ((X7.out.1.below X10.out.2 (Nat.le_refl _)).below X11.out (Nat.le_refl _)).bytes (by omega)).mono ?_
    rintro e w12 ⟨rfl, hw12⟩
    subst hw12
    go_wp2
    go_ret
    exact ⟨rfl, (X7.out.2.2.1.trans (X10.out.2.mono (by omega))).trans (X11.out.mono (by omega))⟩
end Go.Proofs.Ytcgdpijmfgkalab
