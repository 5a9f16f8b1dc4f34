/- The model's FrameBytes. -/
import Derived.Test.YtcgdpijmfgkalaaFrameB
import Derived.Test.YtcgdpijmfgkalaaNumBytes
import Derived.Deep.RegionHeld3
namespace Go.Proofs.Ytcgdpijmfgkalaa
open Go.RowKit Go.PlainAid
set_option linter.unusedVariables false
set_option maxRecDepth 20000

theorem l01Mac_any (s : ByteArray) (w : World) (hx : s.size ≤ 9223372036854775807) :
    Calls Try.prog 40 #[.string s] w fun e w' => e = .returned (.bool (decide (s.size = 6))) ∧ w' = w := by
  have hb : ((s.size : Int) == 6) = decide (s.size = 6) := by
    by_cases h : s.size = 6
    · rw [h]; rfl
    · rw [decide_eq_false h, beq_eq_false_iff_ne]; omega
  go_enter Try.func40, Try.ntmps40
  go_wp2
  go_ret
  exact ⟨rfl, rfl⟩

set_option maxHeartbeats 1000000 in
theorem l02FrameBytes_any (d s b : ByteArray) (k : Int) (w : World) (hd : d.size = 6) (hs : s.size = 6) (hk : k = 2048 ∨ k = 2054) (hb : b.size ≤ 400) :
    Calls Try.prog 31 #[.agg #[.string d, .string s, .int .i64 k, .string b]] w fun e w' => e = .returned (.string (d ++ s ++ strOf (nb k 2) 2 ++ b)) ∧ Below w.heap.size w w' := by
  have hz : (strOf (nb k 2) 2).size = 2 := strOf_size _ _
  have HN : Hid (∀ wx : World, Calls Try.prog 47 #[.int .i64 k, .int .i64 2] wx fun e w' => e = .returned (.string (strOf (nb k 2) 2)) ∧ Below wx.heap.size wx w') := fun wx => l01Number_any k 2 wx (by omega) (by omega) (by omega)
  have K0 : Hid (Boxed (w.alloc (.cells #[.string d, .string s, .int .i64 k, .string b] 24)) w.heap.size [.string d, .string s, .int .i64 k, .string b]) := Boxed.new w _ _
  clear hk
  have ha1 : ∀ wx : World, (Op.stringOp .add d s).run Try.prog wx = .ok (.string (d ++ s)) wx := fun wx => run_string_add_sum (P := Try.prog) (w := wx) _ _ (by omega)
  have ha2 : ∀ wx : World, (Op.stringOp .add (d ++ s) (strOf (nb k 2) 2)).run Try.prog wx = .ok (.string (d ++ s ++ strOf (nb k 2) 2)) wx := fun wx => run_string_add_sum (P := Try.prog) (w := wx) _ _ (by simp [ByteArray.size_append]; omega)
  have ha3 : ∀ wx : World, (Op.stringOp .add (d ++ s ++ strOf (nb k 2) 2) b).run Try.prog wx = .ok (.string (d ++ s ++ strOf (nb k 2) 2 ++ b)) wx := fun wx => run_string_add_sum (P := Try.prog) (w := wx) _ _ (by simp [ByteArray.size_append]; omega)
  go_enter Try.func31, Try.ntmps31
  go_wp2
  go_region_held3 (fun wx => wx.cell? ⟨w.heap.size, 0, none⟩ = some (.string d) ∧ wx.cell? ⟨w.heap.size, 1, none⟩ = some (.string s) ∧ wx.cell? ⟨w.heap.size, 2, none⟩ = some (.int .i64 k) ∧ wx.cell? ⟨w.heap.size, 3, none⟩ = some (.string b) ∧ Below w.heap.size w wx ∧ w.heap.size < wx.heap.size)
    (first | exact ⟨K0.out.at 0 _ rfl, K0.out.at 1 _ rfl, K0.out.at 2 _ rfl, K0.out.at 3 _ rfl, ((Below.refl _ _).alloc (Nat.le_refl _) _).drew, by simp⟩ | assumption | exact (And.imp (keep_c hb1) (And.imp (keep_c hb1) (And.imp (keep_c hb1) (And.imp (keep_c hb1) (keep_bs hb1))))) (by assumption))
    (first | (go_at_call 47; refine (HN.out _).mono ?_; rintro e w' ⟨rfl, hb1⟩))
  rename_i hH
  have HB : Hid (Below w.heap.size w w') := hH.2.2.2.2.1
  clear hH hb1
  go_wp2
  go_ret
  exact ⟨rfl, HB.out⟩

set_option maxHeartbeats 1000000 in
theorem l02Frame_any (d s b : ByteArray) (k : Int) (w : World) (xd : d.size ≤ 1048576) (xs : s.size ≤ 1048576) (xb : b.size ≤ 1048576) :
    Calls Try.prog 30 #[.agg #[.string d, .string s, .int .i64 k, .string b]] w fun e w' => e = .returned (.bool (decide (d.size = 6 ∧ s.size = 6 ∧ (k = 2048 ∨ k = 2054) ∧ b.size ≤ 400))) ∧ Below w.heap.size w w' ∧ w.heap.size < w'.heap.size := by
  have B0 : Hid (Below w.heap.size w (w.alloc (.cells #[.string d, .string s, .int .i64 k, .string b] 24))) := (Below.refl _ _).alloc (Nat.le_refl _) _
  by_cases hd : d.size = 6
  · have bd : decide (d.size = 6) = true := decide_eq_true hd
    by_cases hs : s.size = 6
    · have bs : decide (s.size = 6) = true := decide_eq_true hs
      go_enter Try.func30, Try.ntmps30
      go_wp2_with fail
      refine (l01Mac_any _ _ (by omega)).mono ?_
      rintro e w1 ⟨rfl, hw1⟩
      obtain rfl := hw1.symm
      clear hw1
      go_wp2_with fail
      refine (l01Mac_any _ _ (by omega)).mono ?_
      rintro e w1 ⟨rfl, hw1⟩
      obtain rfl := hw1.symm
      clear hw1
      by_cases h1 : k = 2048
      · subst h1
        go_wp2
        go_ret
        exact ⟨congrArg (fun b => Ending.returned (.bool b)) (by simp; omega), B0.out, by simp⟩
      · have b1 : (k == 2048) = false := by rw [beq_eq_false_iff_ne]; exact h1
        by_cases h2 : k = 2054
        · subst h2
          go_wp2
          go_ret
          exact ⟨congrArg (fun b => Ending.returned (.bool b)) (by simp; omega), B0.out, by simp⟩
        · have b2 : (k == 2054) = false := by rw [beq_eq_false_iff_ne]; exact h2
          go_wp2
          go_ret
          exact ⟨congrArg (fun b => Ending.returned (.bool b)) (by simp [h1, h2]), B0.out, by simp⟩
    · have bs : decide (s.size = 6) = false := decide_eq_false hs
      go_enter Try.func30, Try.ntmps30
      go_wp2_with fail
      refine (l01Mac_any _ _ (by omega)).mono ?_
      rintro e w1 ⟨rfl, hw1⟩
      obtain rfl := hw1.symm
      clear hw1
      go_wp2_with fail
      refine (l01Mac_any _ _ (by omega)).mono ?_
      rintro e w1 ⟨rfl, hw1⟩
      obtain rfl := hw1.symm
      clear hw1
      go_wp2
      go_ret
      exact ⟨congrArg (fun b => Ending.returned (.bool b)) (by simp [hs]), B0.out, by simp⟩
  · have bd : decide (d.size = 6) = false := decide_eq_false hd
    go_enter Try.func30, Try.ntmps30
    go_wp2_with fail
    refine (l01Mac_any _ _ (by omega)).mono ?_
    rintro e w1 ⟨rfl, hw1⟩
    obtain rfl := hw1.symm
    clear hw1
    go_wp2
    go_ret
    exact ⟨congrArg (fun b => Ending.returned (.bool b)) (by simp [hd]), B0.out, by simp⟩

/-- What a maker of bytes answers: the bytes in new memory, and the code. -/
def SpecL (K : Nat) (args : Array Value) (w : World) (L : List Int) (c : Int) : Prop :=
  Calls Try.prog K args w fun e w' => ∃ a cap, e = .returned (.tuple #[.slice a L.length cap, .int .i64 c]) ∧ Bytes w' a L.length (fun j => L.getD j 0) ∧ (∀ b off, a = some ⟨b, off, none⟩ → b < w'.heap.size) ∧ Below w.heap.size w w'

/-- '[]byte(t)' as the answer. -/
theorem conv_spec (t : ByteArray) (w : World) : ∃ cap w', (convert 9 22 (.string t)).run Try.prog w = .ok (.slice (some ⟨w.heap.size, 0, none⟩) (nums t).length cap) w' ∧ Below w.heap.size w w' ∧ w.heap.size < w'.heap.size ∧ Bytes w' (some ⟨w.heap.size, 0, none⟩) (nums t).length (fun j => (nums t).getD j 0) := by
  obtain ⟨cap, w', h1, h2, h3, h4, h5⟩ := conv_bytes (P := Try.prog) w 9 22 5 t Try.underlying9 Try.underlying22 Try.underlying5
  refine ⟨cap, w', by rw [nums_len]; exact h1, h2, by omega, fun k => getD_bd (nums_bd t) k, fun _ => ⟨w.heap.size, 0, rfl, fun i hi => ?_⟩⟩
  rw [Nat.zero_add, h5 i (by rw [nums_len] at hi; exact hi)]
  show _ = some (Value.int .u8 ((nums t).getD i 0))
  rw [nums_getD]

set_option maxHeartbeats 1000000 in
theorem specFrameBytes_any (d s b : ByteArray) (k : Int) (w : World) (xd : d.size ≤ 1048576) (xs : s.size ≤ 1048576) (xb : b.size ≤ 1048576) :
    if d.size = 6 ∧ s.size = 6 ∧ (k = 2048 ∨ k = 2054) ∧ b.size ≤ 400 then SpecL 9 #[.agg #[.string d, .string s, .int .i64 k, .string b]] w (frameL d s k b) 0
    else SpecL 9 #[.agg #[.string d, .string s, .int .i64 k, .string b]] w [] 1 := by
  have K0 : Hid (Boxed (w.alloc (.cells #[.string d, .string s, .int .i64 k, .string b] 24)) w.heap.size [.string d, .string s, .int .i64 k, .string b]) := Boxed.new w _ _
  split
  · rename_i h
    have H : Hid (d.size = 6 ∧ s.size = 6 ∧ (k = 2048 ∨ k = 2054) ∧ b.size ≤ 400) := h
    have bh := decide_eq_true h
    clear h
    unfold SpecL
    go_enter Try.func9, Try.ntmps9
    go_wp2_with fail
    refine (l02Frame_any d s b k _ xd xs xb).mono ?_
    rintro e w1 ⟨rfl, b1, z1⟩
    have X1 : Hid (Boxed w1 w.heap.size [.string d, .string s, .int .i64 k, .string b] ∧ Below w.heap.size w w1) :=
      ⟨K0.out.below b1 (by simp), ((Below.refl _ _).alloc (Nat.le_refl _) _).trans (b1.mono (by simp))⟩
    simp only [World.size_alloc] at z1
    clear b1
    have k0 := X1.out.1.at 0 _ rfl
    have k1 := X1.out.1.at 1 _ rfl
    have k2 := X1.out.1.at 2 _ rfl
    have k3 := X1.out.1.at 3 _ rfl
    go_wp2_with fail
    refine (l02FrameBytes_any d s b k _ H.out.1 H.out.2.1 H.out.2.2.1 H.out.2.2.2).mono ?_
    rintro e w2 ⟨rfl, b2⟩
    obtain ⟨cap, w3, hconv, c1, c2, c3⟩ := conv_spec (d ++ s ++ strOf (nb k 2) 2 ++ b) w2
    have eL : nums (d ++ s ++ strOf (nb k 2) 2 ++ b) = frameL d s k b := by
      rw [nums_append, nums_append, nums_append, nums_nb, frameL]
    rw [eL] at hconv c3
    have X3 : Hid (Below w.heap.size w w3 ∧ w2.heap.size < w3.heap.size ∧ Bytes w3 (some ⟨w2.heap.size, 0, none⟩) (frameL d s k b).length (fun j => (frameL d s k b).getD j 0)) :=
      ⟨(X1.out.2.trans (b2.mono (by omega))).trans (c1.mono (by have := b2.size; omega)), c2, c3⟩
    clear b2 c1 c2 c3 k0 k1 k2 k3 eL
    go_wp2
    go_ret2
    exact ⟨_, cap, rfl, X3.out.2.2, fun b off hh => by cases hh; exact X3.out.2.1, X3.out.1⟩
  · rename_i h
    have bh := decide_eq_false h
    clear h
    unfold SpecL
    go_enter Try.func9, Try.ntmps9
    go_wp2_with fail
    refine (l02Frame_any d s b k _ xd xs xb).mono ?_
    rintro e w1 ⟨rfl, b1, z1⟩
    have X1 : Hid (Below w.heap.size w w1) := ((Below.refl _ _).alloc (Nat.le_refl _) _).trans (b1.mono (by simp))
    simp only [World.size_alloc] at z1
    clear b1
    go_wp2
    go_ret2
    exact ⟨_, _, rfl, ⟨fun _ => ⟨Int.le_refl _, by simp⟩, fun h0 => absurd h0 (by simp)⟩, fun b off hh => by cases hh; simp, X1.out.alloc (by omega) _⟩
end Go.Proofs.Ytcgdpijmfgkalaa
