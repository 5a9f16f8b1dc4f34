/- Texts with escapes, read: pure facts. -/
import Derived.Test.YtbpdfkngkkopbabEscW
import Derived.Test.YtbpdfkngkkopbabHex
import Derived.Test.YtbpdfkngkkopbabParsedS
import Derived.Test.YtbpdfkngkkopbabBits
namespace Go.Proofs.Ytbpdfkngkkopbab
open Go.RowKit Go.PlainAid Go.Sort
set_option linter.unusedVariables false
set_option maxRecDepth 20000

/-- What a digit of an escape stands for, or -1; a small letter. -/
def ixC (c : Int) : Int := Lib.indexByte [48, 49, 50, 51, 52, 53, 54, 55, 56, 57, 65, 66, 67, 68, 69, 70] c.toNat.toUInt8
def hv (c : Int) : Int := if 0 ≤ ixC c then ixC c else half c
def sm (c : Int) : Int := if 65 ≤ c ∧ c ≤ 90 then c + 32 else c
theorem hv_all : ∀ n : Fin 256, hv (n.val : Int) = half (sm (n.val : Int)) ∧ -1 ≤ hv (n.val : Int) ∧ hv (n.val : Int) ≤ 15 ∧ 0 ≤ sm (n.val : Int) ∧ sm (n.val : Int) ≤ 255 ∧ -1 ≤ ixC (n.val : Int) ∧ ixC (n.val : Int) ≤ 15 := by decide +kernel
theorem hv_is (c : Int) (h0 : 0 ≤ c) (h1 : c ≤ 255) : hv c = half (sm c) ∧ -1 ≤ hv c ∧ hv c ≤ 15 ∧ 0 ≤ sm c ∧ sm c ≤ 255 ∧ -1 ≤ ixC c ∧ ixC c ≤ 15 := by
  obtain ⟨n, rfl⟩ := Int.eq_ofNat_of_zero_le h0
  exact hv_all ⟨n, by omega⟩
/-- What is read from the k-th byte on, behind L. -/
def unK (f : Nat → Int) (n k : Nat) (L : List Int) : Option (List Int) :=
  if k < n then
    if f k = 43 then unK f n (k + 1) (L ++ [32])
    else if f k = 37 then
      if k + 2 < n ∧ 0 ≤ hv (f (k + 1)) ∧ 0 ≤ hv (f (k + 2)) then unK f n (k + 3) (L ++ [16 * hv (f (k + 1)) + hv (f (k + 2))]) else none
    else unK f n (k + 1) (L ++ [f k])
  else some L
termination_by n - k
decreasing_by all_goals omega
theorem unK_end {f : Nat → Int} {n k : Nat} {L : List Int} (h : n ≤ k) : unK f n k L = some L := by rw [unK, if_neg (by omega)]
theorem unK_plus {f : Nat → Int} {n k : Nat} {L : List Int} (h : k < n) (e : f k = 43) : unK f n k L = unK f n (k + 1) (L ++ [32]) := by rw [unK, if_pos h, if_pos e]
theorem unK_pct {f : Nat → Int} {n k : Nat} {L : List Int} (h : k < n) (e : f k = 37) (h2 : k + 2 < n) (ha : 0 ≤ hv (f (k + 1))) (hb : 0 ≤ hv (f (k + 2))) : unK f n k L = unK f n (k + 3) (L ++ [16 * hv (f (k + 1)) + hv (f (k + 2))]) := by
  rw [unK, if_pos h, if_neg (by omega), if_pos e, if_pos ⟨h2, ha, hb⟩]
theorem unK_bad {f : Nat → Int} {n k : Nat} {L : List Int} (h : k < n) (e : f k = 37) (hn : ¬ (k + 2 < n ∧ 0 ≤ hv (f (k + 1)) ∧ 0 ≤ hv (f (k + 2)))) : unK f n k L = none := by
  rw [unK, if_pos h, if_neg (by omega), if_pos e, if_neg hn]
theorem unK_self {f : Nat → Int} {n k : Nat} {L : List Int} (h : k < n) (e : f k ≠ 43) (e2 : f k ≠ 37) : unK f n k L = unK f n (k + 1) (L ++ [f k]) := by
  rw [unK, if_pos h, if_neg e, if_neg e2]
/-- What a text with escapes stands for. -/
def unT (s : ByteArray) : Option ByteArray := (unK (bt s) s.size 0 []).map strOfNums
/-- A part of a text, byte by byte. -/
theorem bt_ext (s : ByteArray) (a b j : Nat) (h : a + j < b) (hb : b ≤ s.size) : bt (s.extract a b) j = bt s (a + j) := by
  unfold bt
  have hz : (s.extract a b).size = b - a := by rw [ByteArray.size_extract]; omega
  rw [dif_pos (by omega), dif_pos (by omega)]
  congr 2
  simp [ByteArray.getElem_eq_getElem_data, ByteArray.data_extract]
theorem ext_size (s : ByteArray) (a b : Nat) (h : a ≤ b) (hb : b ≤ s.size) : (s.extract a b).size = b - a := by rw [ByteArray.size_extract]; omega
def bOr (a b : Int) : Int := 16 * a + b
end Go.Proofs.Ytbpdfkngkkopbab
