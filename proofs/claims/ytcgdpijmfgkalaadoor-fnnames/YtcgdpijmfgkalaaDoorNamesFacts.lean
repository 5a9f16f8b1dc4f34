/- What the texts of the drawn addresses and macs read back as. -/
import Derived.Test.YtcgdpijmfgkalaaDoorReadAddr2
import Derived.Test.YtcgdpijmfgkalaaDoorAddressImpl
import Derived.Test.YtcgdpijmfgkalaaDoorMac
import Derived.Test.YtcgdpijmfgkalaaDoorReadMac2
import Derived.Test.YtcgdpijmfgkalaaDoorNumBytes
namespace Go.Proofs.YtcgdpijmfgkalaaDoor
open Go.RowKit Go.PlainAid
set_option linter.unusedVariables false
set_option maxRecDepth 20000

theorem adl_of (n : Int) (a b c d : Nat) (ha : a < 10) (hb : b < 10) (hc : c < 10) (hd : d < 10) (e : n = ((a * 256 + b) * 256 + c) * 256 + d) :
    adl n 4 = [48 + (a : Int), 46, 48 + (b : Int), 46, 48 + (c : Int), 46, 48 + (d : Int)] := by
  rw [adl_four]
  have e0 : da n 0 = [48 + (a : Int)] := by
    have p : (2 : Int) ^ (8 * (3 - 0)) = 16777216 := by decide
    have q : (n / 2 ^ (8 * (3 - 0)) % 256).toNat = a := by rw [p]; omega
    unfold da
    rw [q, dgs_small ha]
  have e1 : da n 1 = [48 + (b : Int)] := by
    have p : (2 : Int) ^ (8 * (3 - 1)) = 65536 := by decide
    have q : (n / 2 ^ (8 * (3 - 1)) % 256).toNat = b := by rw [p]; omega
    unfold da
    rw [q, dgs_small hb]
  have e2 : da n 2 = [48 + (c : Int)] := by
    have p : (2 : Int) ^ (8 * (3 - 2)) = 256 := by decide
    have q : (n / 2 ^ (8 * (3 - 2)) % 256).toNat = c := by rw [p]; omega
    unfold da
    rw [q, dgs_small hc]
  have e3 : da n 3 = [48 + (d : Int)] := by
    have p : (2 : Int) ^ (8 * (3 - 3)) = 1 := by decide
    have q : (n / 2 ^ (8 * (3 - 3)) % 256).toNat = d := by rw [p]; omega
    unfold da
    rw [q, dgs_small hd]
  rw [e0, e1, e2, e3]
  rfl

/-- What is asked of an address' text. -/
def IpText (n : Int) (t : ByteArray) : Prop := t.size ≤ 100 ∧ raN t = n ∧ raC t = 0 ∧ raC (t ++ ⟨#[46, 49]⟩) = 3
theorem ip_facts (n : Int) (hn : n = 16843009 ∨ n = 84215045 ∨ n = 84215303 ∨ n = 151587081) : IpText n (strOfNums (adl n 4)) := by
  rcases hn with rfl | rfl | rfl | rfl
  · rw [adl_of 16843009 1 1 1 1 (by omega) (by omega) (by omega) (by omega) rfl]
    exact ⟨by decide +kernel, by decide +kernel, by decide +kernel, by decide +kernel⟩
  · rw [adl_of 84215045 5 5 5 5 (by omega) (by omega) (by omega) (by omega) rfl]
    exact ⟨by decide +kernel, by decide +kernel, by decide +kernel, by decide +kernel⟩
  · rw [adl_of 84215303 5 5 6 7 (by omega) (by omega) (by omega) (by omega) rfl]
    exact ⟨by decide +kernel, by decide +kernel, by decide +kernel, by decide +kernel⟩
  · rw [adl_of 151587081 9 9 9 9 (by omega) (by omega) (by omega) (by omega) rfl]
    exact ⟨by decide +kernel, by decide +kernel, by decide +kernel, by decide +kernel⟩

/-- What is asked of a mac's text. -/
def MacIs (s : ByteArray) : Prop := s.size = 6 ∧ (strOfNums (macl (bt s) 6)).size = 17 ∧ rmT (bt (strOfNums (macl (bt s) 6))) = s ∧ rmC (bt (strOfNums (macl (bt s) 6))) = 0
theorem mac_facts (x : Int) (h0 : 1 ≤ x) (h1 : x ≤ 3) : MacIs (⟨#[2, 0, 0, 0, 0]⟩ ++ strOfNums [x]) := by
  have hx : x = 1 ∨ x = 2 ∨ x = 3 := by omega
  rcases hx with rfl | rfl | rfl
  all_goals exact ⟨by decide +kernel, by decide +kernel, by decide +kernel, by decide +kernel⟩
theorem num_facts (n : Int) (h0 : 0 ≤ n) (h1 : n < 60000) : numOf (nb n 3) 3 = n := by
  simp only [numOf, nb]
  omega
end Go.Proofs.YtcgdpijmfgkalaaDoor
