/- ReadAddress, the program's: strings.Split, four numbers; the walk of its law. -/
import Derived.Test.YtfcdobicilediaaDoorReadAddr
import Derived.Test.YtfcdobicilediaaDoorShelf
namespace Go.Proofs.YtfcdobicilediaaDoor
open Go.RowKit Go.PlainAid
set_option linter.unusedVariables false
set_option maxRecDepth 20000

theorem ret_i2 {a b c d : Int} (h : a = b) (h' : c = d) : Ending.returned (.tuple #[.int .i64 a, .int .i64 c]) = .returned (.tuple #[.int .i64 b, .int .i64 d]) := by rw [h, h']
def raK (s : ByteArray) : Int := if raB s then 0 else 3
theorem raK_n {s : ByteArray} (h : raB s = false) : 3 = raK s := by unfold raK; rw [h]; rfl
theorem raK_y {s : ByteArray} (h : raB s = true) : 0 = raK s := by unfold raK; rw [h]; rfl
/-- The answer's number and code. -/
def raN (s : ByteArray) : Int := if 65536 < s.size then 0 else raV s
def raC (s : ByteArray) : Int := if 65536 < s.size then 2 else raK s

theorem heap_new (w : World) (o : Obj) : (w.alloc o).heap[w.heap.size]? = some o := by
  show (w.heap.push o)[w.heap.size]? = some o
  simp
theorem split_any (s : ByteArray) (m : Int) (w : World) (hs : s.size ≤ 65536) (hm : w.cell? ⟨0, 0, none⟩ = some (.int .i64 m)) :
    Calls Tryd.prog 24 #[.string s, .string ⟨#[46]⟩] w fun e w' => e = .returned (.slice (some ⟨w.heap.size, 0, none⟩) (pcs s).length (pcs s).length) ∧ StrAt w' w.heap.size s ∧ Below w.heap.size w w' := by
  refine (Tryd.strings_Split s ⟨#[46]⟩ m w (by omega) hm (by decide)).mono ?_
  rintro e w' ⟨he, hw⟩
  have e1 : Lib.splitB ⟨#[46]⟩ 0 (Lib.countB s ⟨#[46]⟩) s = pcs s := pcs_of s _ (splitB_pc _ s rfl)
  have e2 : Lib.countB s ⟨#[46]⟩ + 1 = (pcs s).length := by rw [← e1]; exact (Lib.splitB_all ⟨#[46]⟩ (by decide) 0 _ s rfl).symm
  rw [e2] at he
  rw [e1] at hw
  subst hw
  refine ⟨he, fun i hi => ?_, (Below.refl _ _).alloc (Nat.le_refl _) _⟩
  have hc : ((pcs s).map Value.string).toArray[i]? = some (.string (piece s i)) := by simp [piece, hi]
  show (w.alloc _).cell? ⟨w.heap.size, i, none⟩ = _
  have hh : (w.alloc (.cells ((pcs s).map Value.string).toArray 9)).heap[w.heap.size]? = some (.cells ((pcs s).map Value.string).toArray 9) := (heap_new w _)
  unfold World.cell?
  rw [hh]
  exact hc

end Go.Proofs.YtfcdobicilediaaDoor
