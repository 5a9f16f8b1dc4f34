/- The model: the bytes of packets, and what a sum has ahead, as strings. -/
import Derived.Test.YtfcdobicilediaaSpecWire
namespace Go.Proofs.Ytfcdobicilediaa
open Go.RowKit Go.PlainAid
set_option linter.unusedVariables false
set_option maxRecDepth 20000

theorem nbl_one (n : Int) (h0 : 0 ≤ n) (h1 : n ≤ 255) : nbl n 1 = [n] := by
  have : nb n 1 0 = n := by unfold nb; simp; omega
  simp [nbl, List.range_succ, this]

def pseudoS (src dst pro n : Int) : ByteArray := strOf (nb src 4) 4 ++ strOf (nb dst 4) 4 ++ (⟨#[0]⟩ : ByteArray) ++ strOf (nb pro 1) 1 ++ strOf (nb n 2) 2
theorem pseudoS_nums (src dst pro n : Int) (p0 : 0 ≤ pro) (p1 : pro ≤ 255) : nums (pseudoS src dst pro n) = pseudoL src dst pro n := by
  have e : nums (⟨#[0]⟩ : ByteArray) = [0] := rfl
  unfold pseudoS pseudoL
  simp only [nums_append, nums_nb]
  rw [e, nbl_one pro p0 p1]
  simp
theorem pseudoS_size (src dst pro n : Int) : (pseudoS src dst pro n).size = 12 := by
  have e : (⟨#[0]⟩ : ByteArray).size = 1 := rfl
  unfold pseudoS
  simp only [ByteArray.size_append, strOf_size, e]
set_option maxHeartbeats 2000000 in
theorem l02Pseudo_any (src dst pro n : Int) (w : World) (s0 : 0 ≤ src) (s1 : src ≤ 4294967295) (d0 : 0 ≤ dst) (d1 : dst ≤ 4294967295) (p0 : 0 ≤ pro) (p1 : pro ≤ 255) (n0 : 0 ≤ n) (n1 : n ≤ 65535) :
    Calls Try.prog 77 #[.int .i64 src, .int .i64 dst, .int .i64 pro, .int .i64 n] w fun e w' => e = .returned (.string (pseudoS src dst pro n)) ∧ Below w.heap.size w w' := by
  have z1 : (strOf (nb src 4) 4).size = 4 := strOf_size _ _
  have z2 : (strOf (nb dst 4) 4).size = 4 := strOf_size _ _
  have z3 : (strOf (nb pro 1) 1).size = 1 := strOf_size _ _
  have z4 : (strOf (nb n 2) 2).size = 2 := strOf_size _ _
  go_enter Try.func77, Try.ntmps77
  go_wp2_with fail
  refine (l01Number_any src 4 _ (by omega) s0 (by omega)).mono ?_
  rintro e w1 ⟨rfl, b1⟩
  have B1 : Hid (Below w.heap.size w w1) := b1
  clear b1
  go_wp2_with fail
  refine (l01Number_any dst 4 _ (by omega) d0 (by omega)).mono ?_
  rintro e w2 ⟨rfl, b2⟩
  have B2 : Hid (Below w.heap.size w w2) := B1.out.trans (b2.mono B1.out.size)
  clear b2
  go_wp2_with fail
  refine (l01Number_any pro 1 _ (by omega) p0 (by omega)).mono ?_
  rintro e w3 ⟨rfl, b3⟩
  have B3 : Hid (Below w.heap.size w w3) := B2.out.trans (b3.mono B2.out.size)
  clear b3
  go_wp2_with fail
  refine (l01Number_any n 2 _ (by omega) n0 (by omega)).mono ?_
  rintro e w4 ⟨rfl, b4⟩
  have B4 : Hid (Below w.heap.size w w4) := B3.out.trans (b4.mono B3.out.size)
  clear b4
  go_wp2
  go_ret
  exact ⟨rfl, B4.out⟩

theorem sum_str (s : ByteArray) (L : List Int) (h : nums s = L) (hs : s.size ≤ 65536) (wx : World) : Calls Try.prog 76 #[.string s] wx fun e w' => e = .returned (.int .i64 (chkL L)) ∧ w' = wx := by
  have := sum16_any s wx hs
  rwa [chk_nums, h] at this

end Go.Proofs.Ytfcdobicilediaa
