/- Makers of bytes, both sides in one form. -/
import Derived.Test.YtcgdpijmfgkalaaSpecTops
import Derived.Test.YtcgdpijmfgkalaaWriterAid
namespace Go.Proofs.Ytcgdpijmfgkalaa
open Go.RowKit Go.PlainAid
set_option linter.unusedVariables false
set_option maxRecDepth 20000

theorem packetL_len (src dst pro ttl idn : Int) (body : ByteArray) : (packetL src dst pro ttl idn body).length = 20 + body.size := by simp [packetL, packetA_len, packetB_len, nbl_len, nums_len]; omega
theorem packetL_bd (src dst pro ttl idn : Int) (body : ByteArray) (h1 : 0 ≤ pro ∧ pro ≤ 255) (h2 : 0 ≤ ttl ∧ ttl ≤ 255) : ∀ x ∈ packetL src dst pro ttl idn body, 0 ≤ x ∧ x ≤ 255 :=
  bdA (bdA (bdA (packetA_bd _ _ _ _ h1 h2) (nbl_bd _ _)) (packetB_bd _ _)) (nums_bd _)
theorem segL_len (src dst sp dp sq ak fl wn : Int) (data : ByteArray) : (segL src dst sp dp sq ak fl wn data).length = 20 + data.size := by simp [segL, segA_len, segB_len, nbl_len]; omega
theorem segL_bd (src dst sp dp sq ak fl wn : Int) (data : ByteArray) (h : 0 ≤ fl ∧ fl ≤ 255) : ∀ x ∈ segL src dst sp dp sq ak fl wn data, 0 ≤ x ∧ x ≤ 255 :=
  bdA (bdA (segA_bd _ _ _ _ _ _ h) (nbl_bd _ _)) (segB_bd _)
theorem dgL_len (src dst sp dp : Int) (data : ByteArray) : (dgL src dst sp dp data).length = 8 + data.size := by simp [dgL, dgA_len, nbl_len, nums_len]; omega
theorem dgL_bd (src dst sp dp : Int) (data : ByteArray) : ∀ x ∈ dgL src dst sp dp data, 0 ≤ x ∧ x ≤ 255 := bdA (bdA (dgA_bd _ _ _) (nbl_bd _ _)) (nums_bd _)

theorem arpBytes_both (op : Int) (sm dm : ByteArray) (si di : Int) (xo : op ≤ 9223372036854775807) (xs : si ≤ 9223372036854775807) (xd : di ≤ 9223372036854775807) (h : sm.size ≤ 1048576 ∧ dm.size ≤ 1048576) :
    ∃ (L : List Int) (c : Int), L.length ≤ 1000000 ∧ (∀ w, SpecL 13 #[.agg #[.int .i64 op, .string sm, .string dm, .int .i64 si, .int .i64 di]] w L c) ∧ (∀ w, ImplL 12 #[.agg #[.int .i64 op, .string sm, .string dm, .int .i64 si, .int .i64 di]] w L c) := by
  by_cases hh : (1 ≤ op ∧ op ≤ 2) ∧ (sm.size = 6) ∧ (dm.size = 6) ∧ (0 ≤ si ∧ si ≤ 4294967295) ∧ (0 ≤ di ∧ di ≤ 4294967295)
  · have hl := arpL_len op sm dm si di hh.2.1 hh.2.2.1
    exact ⟨arpL op sm dm si di, 0, by omega, fun w => specArpBytes_yes op sm dm si di w xo h.1 h.2 xs xd hh, fun w => implL_own (arpL_bd _ _ _ _ _) (by omega) (arpBytes_yes op sm dm si di w hh)⟩
  · exact ⟨[], 1, by simp, fun w => specArpBytes_no op sm dm si di w xo h.1 h.2 xs xd hh, fun w => implL_nil (arpBytes_no op sm dm si di w h.1 h.2 hh)⟩

end Go.Proofs.Ytcgdpijmfgkalaa
