/- Makers of bytes, both sides in one form. -/
import Derived.Test.YtpcjdfponkopaadSpecTops
import Derived.Test.YtpcjdfponkopaadWriterAid
namespace Go.Proofs.Ytpcjdfponkopaad
open Go.RowKit Go.PlainAid
set_option linter.unusedVariables false
set_option maxRecDepth 20000

theorem packetL_len (src dst pro ttl idn : Int) (body : ByteArray) : (packetL src dst pro ttl idn body).length = 20 + body.size := by simp [packetL, packetA_len, packetB_len, nbl_len, nums_len]; omega
theorem packetL_bd (src dst pro ttl idn : Int) (body : ByteArray) (h1 : 0 ≤ pro ∧ pro ≤ 255) (h2 : 0 ≤ ttl ∧ ttl ≤ 255) : ∀ x ∈ packetL src dst pro ttl idn body, 0 ≤ x ∧ x ≤ 255 :=
  bdA (bdA (bdA (packetA_bd _ _ _ _ h1 h2) (nbl_bd _ _)) (packetB_bd _ _)) (nums_bd _)
theorem segL_len (src dst sp dp sq ak fl wn : Int) (data : ByteArray) : (segL src dst sp dp sq ak fl wn data).length = 20 + data.size := by simp [segL, segA_len, segB_len, nbl_len]; omega
theorem segL_bd (src dst sp dp sq ak fl wn : Int) (data : ByteArray) (h : 0 ≤ fl ∧ fl ≤ 255) : ∀ x ∈ segL src dst sp dp sq ak fl wn data, 0 ≤ x ∧ x ≤ 255 :=
  bdA (bdA (segA_bd _ _ _ _ _ _ h) (nbl_bd _ _)) (segB_bd _)
theorem dgL_len (src dst sp dp : Int) (data : ByteArray) : (dgL src dst sp dp data).length = 8 + data.size := by simp [dgL, dgA_len, nbl_len, nums_len]; omega
theorem dgL_bd (src dst sp dp : Int) (data : ByteArray) : ∀ x ∈ dgL src dst sp dp data, 0 ≤ x ∧ x ≤ 255 := bdA (bdA (dgA_bd _ _ _) (nbl_bd _ _)) (nums_bd _)

theorem packetBytes_both (src dst pro ttl idn : Int) (body : ByteArray) (xs : src ≤ 9223372036854775807) (xd : dst ≤ 9223372036854775807) (xp : pro ≤ 9223372036854775807) (xt : ttl ≤ 9223372036854775807) (xi : idn ≤ 9223372036854775807) (h : body.size ≤ 1048576) :
    ∃ (L : List Int) (c : Int), L.length ≤ 1000000 ∧ (∀ w, SpecL 15 #[.agg #[.int .i64 src, .int .i64 dst, .int .i64 pro, .int .i64 ttl, .int .i64 idn, .string body]] w L c) ∧ (∀ w, ImplL 17 #[.agg #[.int .i64 src, .int .i64 dst, .int .i64 pro, .int .i64 ttl, .int .i64 idn, .string body]] w L c) := by
  by_cases hh : (0 ≤ src ∧ src ≤ 4294967295) ∧ (0 ≤ dst ∧ dst ≤ 4294967295) ∧ (0 ≤ pro ∧ pro ≤ 255) ∧ (0 ≤ ttl ∧ ttl ≤ 255) ∧ (0 ≤ idn ∧ idn ≤ 65535) ∧ (body.size ≤ 380)
  · have hl := packetL_len src dst pro ttl idn body
    exact ⟨packetL src dst pro ttl idn body, 0, by have := hh.2.2.2.2.2; omega, fun w => specPacketBytes_yes src dst pro ttl idn body w xs xd xp xt xi h hh, fun w => implL_own (packetL_bd _ _ _ _ _ _ hh.2.2.1 hh.2.2.2.1) (by omega) (packetBytes_yes src dst pro ttl idn body w xs xd xp xt xi h hh)⟩
  · exact ⟨[], 1, by simp, fun w => specPacketBytes_no src dst pro ttl idn body w xs xd xp xt xi h hh, fun w => implL_nil (packetBytes_no src dst pro ttl idn body w xs xd xp xt xi h hh)⟩

theorem segmentBytes_both (src dst sp dp sq ak fl wn : Int) (data : ByteArray) (x1 : sp ≤ 9223372036854775807) (x2 : dp ≤ 9223372036854775807) (x3 : sq ≤ 9223372036854775807) (x4 : ak ≤ 9223372036854775807) (x5 : fl ≤ 9223372036854775807) (x6 : wn ≤ 9223372036854775807) (h : data.size ≤ 1048576) :
    ∃ (L : List Int) (c : Int), L.length ≤ 1000000 ∧ (∀ w, SpecL 24 #[.int .i64 src, .int .i64 dst, .agg #[.int .i64 sp, .int .i64 dp, .int .i64 sq, .int .i64 ak, .int .i64 fl, .int .i64 wn, .string data]] w L c) ∧ (∀ w, ImplL 26 #[.int .i64 src, .int .i64 dst, .agg #[.int .i64 sp, .int .i64 dp, .int .i64 sq, .int .i64 ak, .int .i64 fl, .int .i64 wn, .string data]] w L c) := by
  by_cases hh : (0 ≤ src ∧ src ≤ 4294967295) ∧ (0 ≤ dst ∧ dst ≤ 4294967295) ∧ (0 ≤ sp ∧ sp ≤ 65535) ∧ (0 ≤ dp ∧ dp ≤ 65535) ∧ (0 ≤ sq ∧ sq ≤ 4294967295) ∧ (0 ≤ ak ∧ ak ≤ 4294967295) ∧ (0 ≤ fl ∧ fl ≤ 31) ∧ (0 ≤ wn ∧ wn ≤ 65535) ∧ (data.size ≤ 360)
  · have hl := segL_len src dst sp dp sq ak fl wn data
    exact ⟨segL src dst sp dp sq ak fl wn data, 0, by have := hh.2.2.2.2.2.2.2.2; omega, fun w => specSegmentBytes_yes src dst sp dp sq ak fl wn data w x1 x2 x3 x4 x5 x6 h hh,
      fun w => implL_own (segL_bd _ _ _ _ _ _ _ _ _ (by have := hh.2.2.2.2.2.2.1; omega)) (by omega) (segmentBytes_yes src dst sp dp sq ak fl wn data w x1 x2 x3 x4 x5 x6 h hh.1.1 hh.1.2 hh.2.1.1 hh.2.1.2 hh.2.2)⟩
  · exact ⟨[], 1, by simp, fun w => specSegmentBytes_no src dst sp dp sq ak fl wn data w x1 x2 x3 x4 x5 x6 h hh, fun w => implL_nil (segmentBytes_no src dst sp dp sq ak fl wn data w x1 x2 x3 x4 x5 x6 h hh)⟩

theorem datagramBytes_both (src dst sp dp : Int) (data : ByteArray) (x1 : sp ≤ 9223372036854775807) (x2 : dp ≤ 9223372036854775807) (h : data.size ≤ 1048576) :
    ∃ (L : List Int) (c : Int), L.length ≤ 1000000 ∧ (∀ w, SpecL 31 #[.int .i64 src, .int .i64 dst, .agg #[.int .i64 sp, .int .i64 dp, .string data]] w L c) ∧ (∀ w, ImplL 33 #[.int .i64 src, .int .i64 dst, .agg #[.int .i64 sp, .int .i64 dp, .string data]] w L c) := by
  by_cases hh : (0 ≤ src ∧ src ≤ 4294967295) ∧ (0 ≤ dst ∧ dst ≤ 4294967295) ∧ (0 ≤ sp ∧ sp ≤ 65535) ∧ (0 ≤ dp ∧ dp ≤ 65535) ∧ (data.size ≤ 372)
  · have hl := dgL_len src dst sp dp data
    exact ⟨dgL src dst sp dp data, 0, by have := hh.2.2.2.2; omega, fun w => specDatagramBytes_yes src dst sp dp data w x1 x2 h hh,
      fun w => implL_own (dgL_bd _ _ _ _ _) (by omega) (datagramBytes_yes src dst sp dp data w x1 x2 h hh.1.1 hh.1.2 hh.2.1.1 hh.2.1.2 hh.2.2)⟩
  · exact ⟨[], 1, by simp, fun w => specDatagramBytes_no src dst sp dp data w x1 x2 h hh, fun w => implL_nil (datagramBytes_no src dst sp dp data w x1 x2 h hh)⟩
end Go.Proofs.Ytpcjdfponkopaad
