/- Users, sessions, fails, records and lists of them in the laws: measured, copied, compared. -/
import Derived.Test.YtimhkeebgogfoabDoorOpenG
import Derived.Test.YtimhkeebgogfoabDoorGrw
import Derived.Test.YtimhkeebgogfoabDoorInfo
import Derived.Test.YtimhkeebgogfoabDoorRoom
import Derived.Test.YtimhkeebgogfoabDoorTests
namespace Go.Proofs.YtimhkeebgogfoabDoor
open Go.RowKit Go.PlainAid Go.Proofs.YtimhkeebgogfoabDoor.Bt Go.Sort
set_option linter.unusedVariables false
set_option maxRecDepth 20000
theorem gkeep {w w' : World} (h : Below w.heap.size w w') {a : Addr} {v : Value} (hc : w.cell? a = some v) : w'.cell? a = some v := by
  rw [h.cell (World.block_lt_of_cell? w a hc)]; exact hc

set_option maxHeartbeats 1000000 in
theorem eqUser_any (nm : ByteArray) (sa : ByteArray) (ha : ByteArray) (ro : ByteArray) (bl : Int) (lg : Int) (w : World) :
    Calls Tryd.prog 6 #[.agg #[.string nm, .string sa, .string ha, .string ro, .int .i64 bl, .int .i64 lg], .agg #[.string nm, .string sa, .string ha, .string ro, .int .i64 bl, .int .i64 lg]] w fun e w' => e = .returned (.bool true) ∧ Grw w w' := by
  have h0 : (nm.toList == nm.toList) = true := by simp
  have h1 : (sa.toList == sa.toList) = true := by simp
  have h2 : (ha.toList == ha.toList) = true := by simp
  have h3 : (ro.toList == ro.toList) = true := by simp
  have h4 : (bl != bl) = false := by simp
  have h5 : (lg != lg) = false := by simp
  go_enter Tryd.func6, Tryd.ntmps6
  go_wp2
  go_ret
  exact ⟨rfl, ((Grw.refl _).alloc _).alloc _⟩
theorem infoUser : (Tryd.prog.info? 23).map (fun i => (i.zero, i.size, i.bytes)) = some (some (.agg #[.string ⟨#[]⟩, .string ⟨#[]⟩, .string ⟨#[]⟩, .string ⟨#[]⟩, .int .i64 0, .int .i64 0]), 6, 80) := by kernel_rfl
end Go.Proofs.YtimhkeebgogfoabDoor
