/- The program's table of words, as its row lists it, lies cell for cell in its variable. -/
import Derived.Test.YtimhkeebgogfoacDoorRows
import Derived.Test.YtimhkeebgogfoacDoorCauses
import Derived.ProofKit
import Derived.OpenShut
import Derived.LaidMore
import Derived.Stop.Joined
namespace Go.Proofs.YtimhkeebgogfoacDoor
open Go.RowKit Go.ChangeShapes Go.WideShapes Go.WideElems
set_option linter.unusedVariables false
set_option maxRecDepth 20000

theorem strs_of_tab {H : Type} {enc : TypeId × Value → H} {P : Program} {w : World} {base : Nat} {sp : Nat → Bool} {held : Bool} {fuel : Nat} {t e : TypeId} {n : Nat} {cs : List Value} {ss : List (List UInt8)} {p : List MemPlace}
    (ht : P.underlying t = some (.array n e)) (he : P.underlying e = some .string) (hce : P.cellsOf e = 1)
    (h : DataW.trod enc P w base sp held fuel t cs = some (.agg (ss.map fun s => .lit (.string s)), p)) : ∀ i, i < n → cs[i]? = some (.string ⟨(ss.getD i []).toArray⟩) := by
  intro i hi
  obtain ⟨xs, m, rfl, hx, hlen, hn, hel⟩ := DataW.trod_array ht h
  have h1 := hel i hi
  rw [hce, Nat.mul_one, List.getElem?_eq_getElem (by omega)] at h1
  obtain ⟨s, e1, e2, _⟩ := DataW.trod_string he h1
  have hxs : ss.map (fun s => (DataW.lit (.string s) : DataW H)) = xs.map (fun x => x.fst) := by
    have := congrArg Prod.fst hx
    simpa using this
  have hsl : ss.length = xs.length := by simpa using congrArg List.length hxs
  have hat := congrArg (fun l => l[i]?) hxs
  simp only [List.getElem?_map, List.getElem?_eq_getElem (show i < xs.length by omega), List.getElem?_eq_getElem (show i < ss.length by omega), Option.map_some] at hat
  rw [e2] at hat
  have hs : ss[i]'(by omega) = s.data.toList := by simpa using hat
  have hd : ss.getD i [] = s.data.toList := by rw [List.getD_eq_getElem?_getD, List.getElem?_eq_getElem (show i < ss.length by omega)]; exact hs
  have hc : cs[i]? = some (.string s) := by
    have := congrArg (fun l => l[0]?) e1
    simpa [List.getElem?_take, List.getElem?_drop] using this
  rw [hc, hd]

theorem gC : Tryd.prog.globalNamed "loop.example/g00356/impl.causeWords" = some 0 := by kernel_rfl
theorem tC : (Tryd.prog.globals[0]?).map (·.type) = some 26 := by kernel_rfl
theorem cStr : Tryd.prog.cellsOf 9 = 1 := by kernel_rfl
theorem cwords_are (i : Nat) (h : i < 7) : ByteArray.mk ((cwords.map (·.data.toList)).getD i []).toArray = cwd i := by
  have : i = 0 ∨ i = 1 ∨ i = 2 ∨ i = 3 ∨ i = 4 ∨ i = 5 ∨ i = 6 := by omega
  rcases this with rfl | rfl | rfl | rfl | rfl | rfl | rfl
  all_goals rfl

/-- What the row's list gives. -/
theorem ctable_of_laid {W : World} (h : laidMetH Tryd.prog [("loop.example/g00356/impl.causeWords", Rows.laid_loop_example_g00356_impl_causeWords)] W) : TableC W ∧ 0 < W.heap.size := by
  rw [MakeChecks.laidMetH_plain _ _ _ (by kernel_rfl)] at h
  obtain ⟨ps, ⟨g0, t0, cs0, f0, p0, q0, hg0, ht0, hv0, hd0, _⟩, _⟩ := h
  obtain rfl := Option.some.inj (gC.symm.trans hg0)
  obtain rfl := Option.some.inj (tC.symm.trans ht0)
  have hd : DataW.trod _ Tryd.prog W _ _ _ f0 26 cs0.toList = some (.agg ((cwords.map (·.data.toList)).map fun s => .lit (.string s)), p0) := hd0
  have hall := strs_of_tab Tryd.underlying26 Tryd.underlying9 cStr hd
  have hT : TableC W := fun i hi => by
    rw [World.var?_cell hg0 hv0 i, ← cwords_are i hi, ← hall i hi]
    simp
  exact ⟨hT, by simpa using World.block_lt_of_cell? W _ (hT 0 (by omega))⟩
end Go.Proofs.YtimhkeebgogfoacDoor
