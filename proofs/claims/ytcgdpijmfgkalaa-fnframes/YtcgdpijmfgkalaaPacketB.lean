/- The program PacketBytes. -/
import Derived.Test.YtcgdpijmfgkalaaStructs
import Derived.Test.YtcgdpijmfgkalaaSum
namespace Go.Proofs.Ytcgdpijmfgkalaa
open Go.RowKit Go.PlainAid
set_option linter.unusedVariables false
set_option maxRecDepth 20000

/-- The ten bytes ahead of a packet's sum, and the eight behind it. -/
def packetA (pro ttl idn : Int) (body : ByteArray) : List Int := [69, 0] ++ nbl (20 + (body.size : Int)) 2 ++ nbl idn 2 ++ [0, 0, ttl, pro]
def packetB (src dst : Int) : List Int := nbl src 4 ++ nbl dst 4
def packetSum (src dst pro ttl idn : Int) (body : ByteArray) : Int := chkL (packetA pro ttl idn body ++ [0, 0] ++ packetB src dst)
def packetL (src dst pro ttl idn : Int) (body : ByteArray) : List Int := packetA pro ttl idn body ++ nbl (packetSum src dst pro ttl idn body) 2 ++ packetB src dst ++ nums body
theorem packetA_len (pro ttl idn : Int) (body : ByteArray) : (packetA pro ttl idn body).length = 10 := by simp [packetA, nbl_len]
theorem packetB_len (src dst : Int) : (packetB src dst).length = 8 := by simp [packetB, nbl_len]
theorem two_bd {a b : Int} (ha : 0 ≤ a ∧ a ≤ 255) (hb : 0 ≤ b ∧ b ≤ 255) : ∀ x ∈ [a, b], 0 ≤ x ∧ x ≤ 255 := by
  intro x hx; simp at hx; rcases hx with rfl | rfl <;> assumption
theorem four_bd {a b c d : Int} (ha : 0 ≤ a ∧ a ≤ 255) (hb : 0 ≤ b ∧ b ≤ 255) (hc : 0 ≤ c ∧ c ≤ 255) (hd : 0 ≤ d ∧ d ≤ 255) : ∀ x ∈ [a, b, c, d], 0 ≤ x ∧ x ≤ 255 := by
  intro x hx; simp at hx; rcases hx with rfl | rfl | rfl | rfl <;> assumption
theorem bdA {L M : List Int} (h : ∀ x ∈ L, 0 ≤ x ∧ x ≤ 255) (k : ∀ x ∈ M, 0 ≤ x ∧ x ≤ 255) : ∀ x ∈ L ++ M, 0 ≤ x ∧ x ≤ 255 := fun x hx => (List.mem_append.1 hx).elim (h x) (k x)
theorem packetA_bd (pro ttl idn : Int) (body : ByteArray) (h1 : 0 ≤ pro ∧ pro ≤ 255) (h2 : 0 ≤ ttl ∧ ttl ≤ 255) : ∀ x ∈ packetA pro ttl idn body, 0 ≤ x ∧ x ≤ 255 :=
  bdA (bdA (bdA (two_bd (by omega) (by omega)) (nbl_bd _ _)) (nbl_bd _ _)) (four_bd (by omega) (by omega) h2 h1)
theorem packetB_bd (src dst : Int) : ∀ x ∈ packetB src dst, 0 ≤ x ∧ x ≤ 255 := bdA (nbl_bd _ _) (nbl_bd _ _)
theorem over_mid (A N M R : List Int) (h : N.length = M.length) : over (A ++ N ++ R) A.length M = A ++ M ++ R := by
  have h1 : (A ++ N ++ R).take A.length = A := by rw [List.append_assoc, List.take_left]
  have h2 : (A ++ N ++ R).drop (A.length + M.length) = R := by rw [← h, ← List.length_append, List.drop_left]
  unfold over
  rw [h1, h2, List.append_assoc]

end Go.Proofs.Ytcgdpijmfgkalaa
