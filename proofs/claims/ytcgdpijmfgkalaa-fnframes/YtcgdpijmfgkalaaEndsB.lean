/- The program endsSum, SegmentBytes and DatagramBytes. -/
import Derived.Test.YtcgdpijmfgkalaaPacketB
namespace Go.Proofs.Ytcgdpijmfgkalaa
open Go.RowKit Go.PlainAid
set_option linter.unusedVariables false
set_option maxRecDepth 20000

/-- What a sum has ahead of a segment or a datagram. -/
def pseudoL (src dst pro n : Int) : List Int := nbl src 4 ++ nbl dst 4 ++ [0, pro] ++ nbl n 2
def endsL (src dst pro : Int) (L : List Int) : Int := chkL (pseudoL src dst pro (L.length : Int) ++ L)
theorem pseudoL_len (src dst pro n : Int) : (pseudoL src dst pro n).length = 12 := by simp [pseudoL, nbl_len]
theorem pseudoL_bd (src dst pro n : Int) (h : 0 ≤ pro ∧ pro ≤ 255) : ∀ x ∈ pseudoL src dst pro n, 0 ≤ x ∧ x ≤ 255 :=
  bdA (bdA (bdA (nbl_bd _ _) (nbl_bd _ _)) (two_bd (by omega) h)) (nbl_bd _ _)
theorem endsL_bd (src dst pro : Int) (L : List Int) (h : 0 ≤ pro ∧ pro ≤ 255) (hL : ∀ x ∈ L, 0 ≤ x ∧ x ≤ 255) : 0 ≤ endsL src dst pro L ∧ endsL src dst pro L ≤ 65535 :=
  chkL_bd _ (bdA (pseudoL_bd src dst pro _ h) hL)

theorem news_bytes {w w' : World} {b off len : Nat} {f : Nat → Int} (h : Bytes w (some ⟨b, off, none⟩) len f) (hb : Below w.heap.size w w') : ∀ j u, (((List.range len).map f).map (Value.int .u8))[j]? = some u → w'.cell? ((⟨b, off, none⟩ : Addr).add j) = some u := by
  intro j u hu
  have hj : j < len := by
    by_cases hj : j < len
    · exact hj
    · rw [List.getElem?_eq_none (by simp; omega)] at hu; cases hu
  obtain ⟨b', off', e, hc⟩ := h.2 (by omega)
  cases e
  have ea : (⟨b, off, none⟩ : Addr).add j = ⟨b, off + j, none⟩ := by unfold Addr.add; split <;> simp_all
  rw [ea]
  refine keep_cell ?_ hb
  rw [hc j hj]
  simpa [hj] using hu

def segA (sp dp sq ak fl wn : Int) : List Int := nbl sp 2 ++ nbl dp 2 ++ nbl sq 4 ++ nbl ak 4 ++ [80, fl] ++ nbl wn 2
def segB (data : ByteArray) : List Int := [0, 0] ++ nums data
def segSum (src dst sp dp sq ak fl wn : Int) (data : ByteArray) : Int := endsL src dst 6 (segA sp dp sq ak fl wn ++ [0, 0] ++ segB data)
def segL (src dst sp dp sq ak fl wn : Int) (data : ByteArray) : List Int := segA sp dp sq ak fl wn ++ nbl (segSum src dst sp dp sq ak fl wn data) 2 ++ segB data
theorem segA_len (sp dp sq ak fl wn : Int) : (segA sp dp sq ak fl wn).length = 16 := by simp [segA, nbl_len]
theorem segB_len (data : ByteArray) : (segB data).length = 2 + data.size := by simp [segB, nums_len]; omega
theorem segA_bd (sp dp sq ak fl wn : Int) (h : 0 ≤ fl ∧ fl ≤ 255) : ∀ x ∈ segA sp dp sq ak fl wn, 0 ≤ x ∧ x ≤ 255 :=
  bdA (bdA (bdA (bdA (bdA (nbl_bd _ _) (nbl_bd _ _)) (nbl_bd _ _)) (nbl_bd _ _)) (two_bd (by omega) h)) (nbl_bd _ _)
theorem segB_bd (data : ByteArray) : ∀ x ∈ segB data, 0 ≤ x ∧ x ≤ 255 := bdA (two_bd (by omega) (by omega)) (nums_bd data)

theorem OwnL.below {w w' : World} {B : Nat} {v : Value} {L : List Int} (h : OwnL 5 w B v L) (b : Below w.heap.size w w') : OwnL 5 w' B v L := by
  rcases hv : v.ownBlock with _ | q
  · exact World.ownsRow.kept h (below_grownBy b none) (.inl hv)
  · exact World.ownsRow.kept h (below_grownBy b none) (.inr (by rw [hv]; simp))

def dgA (sp dp : Int) (data : ByteArray) : List Int := nbl sp 2 ++ nbl dp 2 ++ nbl (8 + (data.size : Int)) 2
/-- A sum of 0 is told as 65535. -/
def fix0 (n : Int) : Int := if n = 0 then 65535 else n
def dgSum (src dst sp dp : Int) (data : ByteArray) : Int := fix0 (endsL src dst 17 (dgA sp dp data ++ [0, 0] ++ nums data))
def dgL (src dst sp dp : Int) (data : ByteArray) : List Int := dgA sp dp data ++ nbl (dgSum src dst sp dp data) 2 ++ nums data
theorem dgA_len (sp dp : Int) (data : ByteArray) : (dgA sp dp data).length = 6 := by simp [dgA, nbl_len]
theorem dgA_bd (sp dp : Int) (data : ByteArray) : ∀ x ∈ dgA sp dp data, 0 ≤ x ∧ x ≤ 255 := bdA (bdA (nbl_bd _ _) (nbl_bd _ _)) (nbl_bd _ _)
theorem fix0_bd {n : Int} (h0 : 0 ≤ n) (h1 : n ≤ 65535) : 0 ≤ fix0 n ∧ fix0 n ≤ 65535 := by unfold fix0; split <;> omega

end Go.Proofs.Ytcgdpijmfgkalaa
