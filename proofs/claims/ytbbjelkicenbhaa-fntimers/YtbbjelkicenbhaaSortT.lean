/- slices.SortFunc of timers by compareTimers: the library's contract at this program; a row of one's own sorted; put in its place. -/
import Derived.Test.YtbbjelkicenbhaaTimC
import Derived.Test.YtbbjelkicenbhaaTimO
import Derived.Shelf.SlSortCmp.NoneTotal
import Derived.Shelf.SlGeneric
import Derived.Ground.SlsfProg
namespace Go.Proofs.Ytbbjelkicenbhaa
open Go.Shelf Go.RowKit Go.PlainAid Go.Lib Go.Sort Go.Proofs
set_option linter.unusedVariables false
set_option maxRecDepth 20000
shelf_lay_g SlLaysF0.n6 Slsf 6 at Try 49 as Try.sortTimers

def encT (x : Int × Int) : List Value := [.int .i64 x.1, .int .i64 x.2]
theorem ltOf_cmpT (x y : Int × Int) : ltOf cmpT x y = true ↔ ltT x y := by
  unfold ltOf
  rw [decide_eq_true_eq]
  constructor
  · intro h
    have : ¬ (0 ≤ cmpT x y) := by omega
    rw [cmpT_lt] at this
    exact Classical.not_not.1 this
  · intro h
    have : ¬ (0 ≤ cmpT x y) := by rw [cmpT_lt]; exact fun h' => h' h
    omega
theorem ltOf_cmpT_n (x y : Int × Int) : ltOf cmpT x y = false ↔ ¬ ltT x y := by
  rw [← ltOf_cmpT]; simp
theorem swoT : SWO (ltOf cmpT) where
  irrefl x := by rw [ltOf_cmpT_n]; unfold ltT; omega
  trans x y z h1 h2 := by rw [ltOf_cmpT] at *; unfold ltT at *; omega
  ntrans x y z h1 h2 := by rw [ltOf_cmpT_n] at *; unfold ltT at *; omega
theorem oneT (x y : Int × Int) (h1 : ltOf cmpT x y = false) (h2 : ltOf cmpT y x = false) : x = y := by
  rw [ltOf_cmpT_n] at h1 h2
  unfold ltT at h1 h2
  have a1 : x.1 = y.1 := by omega
  have a2 : x.2 = y.2 := by omega
  exact Prod.ext a1 a2

theorem flatK_flat (L : List (Int × Int)) : (flatK encT 2 L.toArray).toList = flat L := by
  apply List.ext_getElem?
  intro t
  by_cases ht : t < L.length * 2
  · have fa := flat_at L (t / 2) (by omega)
    have h0 : t < (flatK encT 2 L.toArray).size := by rw [size_flatK]; simpa using ht
    have e0 : (flatK encT 2 L.toArray)[t]? = some ((encT L.toArray[t / 2]!)[t % 2]!) := by
      rw [Array.getElem?_eq_getElem h0, ← getElem!_pos (flatK encT 2 L.toArray) t h0, get_flatK encT 2 L.toArray t (by simpa using ht)]
    have e1 : L.toArray[t / 2]! = L.getD (t / 2) (0, 0) := by
      have hq : t / 2 < L.length := by omega
      rw [getElem!_pos _ _ (by simpa using hq), List.getD_eq_getElem?_getD, List.getElem?_eq_getElem hq]
      rfl
    rw [Array.getElem?_toList, e0, e1]
    rcases Nat.mod_two_eq_zero_or_one t with hm | hm
    · rw [hm]
      have : t = t / 2 * 2 := by omega
      rw [this, fa.1, show t / 2 * 2 / 2 = t / 2 by omega]
      rfl
    · rw [hm]
      have : t = t / 2 * 2 + 1 := by omega
      rw [this, fa.2, show (t / 2 * 2 + 1) / 2 = t / 2 by omega]
      rfl
  · rw [List.getElem?_eq_none (by rw [Array.length_toList, size_flatK]; simpa using ht), List.getElem?_eq_none (by rw [flat_len]; omega)]

/-- What lies in a sorted row's block. -/
theorem own_sorted {w : World} {B g cap n m : Nat} {e : TypeId} {os : Array Obj} {L M : List (Int × Int)} (h : OwnP e w B (.slice (some ⟨g, 0, none⟩) n cap) L) (hn : L.length = n) (hl : M.length = L.length) :
    OwnP e (sortWorldK encT 2 w g 0 m M.toArray os) B (.slice (some ⟨g, 0, none⟩) n cap) M ∧ w.grownBy (sortWorldK encT 2 w g 0 m M.toArray os) (some g) := by
  subst hn
  rcases h.2 with ⟨h1, h2⟩ | ⟨g', cap', cur, h1, hB, hg, hle, hm, hs, ht⟩
  · cases h1
  cases h1
  have hgl : g < w.heap.size := (Array.getElem?_eq_some_iff.1 hg).1
  have hF : (flatK encT 2 M.toArray).size = L.length * 2 := by rw [size_flatK]; simp [hl]
  have hheap : (sortWorldK encT 2 w g 0 m M.toArray os).heap[g]? = some (.cells (putCells id 0 (flatK encT 2 M.toArray) cur) e (0, 0)) := by
    unfold sortWorldK putRowK
    rw [heap_grow_old _ _ (by simpa using hgl)]
    simp [putRow, mapBlock, Sort.ahead, Array.getElem?_modify, hg, onCells]
  have htake : (putCells id 0 (flatK encT 2 M.toArray) cur).toList.take (L.length * 2) = flat M := by
    rw [← flatK_flat]
    apply List.ext_getElem?
    intro j
    by_cases hj : j < L.length * 2
    · have hjc : j < cur.size := by rw [hs]; exact Nat.lt_of_lt_of_le hj (Nat.mul_le_mul_right _ hle)
      have hjF : j < (flatK encT 2 M.toArray).size := by rw [hF]; exact hj
      rw [List.getElem?_take_of_lt hj, Array.getElem?_toList, Array.getElem?_toList, Array.getElem?_eq_getElem hjF]
      simp [putCells, hj, hjc, hl]
    · rw [List.getElem?_take_eq_none (by omega), List.getElem?_eq_none (by rw [Array.length_toList, hF]; omega)]
  refine ⟨?_, ⟨rfl, rfl, rfl, by simp [sortWorldK, putRowK], fun k hk hne => ?_⟩⟩
  · unfold OwnP
    rw [hl]
    exact ⟨by rw [flat_len, hl], .inr ⟨g, cap, _, rfl, hB, hheap, hle, hm, by simp [putCells, hs], htake⟩⟩
  · unfold sortWorldK putRowK
    rw [heap_grow_old _ _ (by simpa using hk)]
    have : g ≠ k := fun e => hne (by rw [e])
    simp [putRow, mapBlock, Sort.ahead, Array.getElem?_modify, this]
theorem holds_own {w : World} {B g cap n : Nat} {e : TypeId} {L : List (Int × Int)} (h : OwnP e w B (.slice (some ⟨g, 0, none⟩) n cap) L) (hn : L.length = n) : HoldsK encT 2 w g 0 L.toArray := by
  subst hn
  intro j hj
  rw [size_flatK] at hj
  have hj' : j < L.length * 2 := by simpa using hj
  rw [Nat.zero_add]
  refine ⟨?_, World.ownsRow.frozenAt h j⟩
  rw [World.ownsRow.cellAt h j hj', ← flatK_flat, Array.getElem?_toList, Array.getElem?_eq_getElem (by rw [size_flatK]; exact hj)]
  rw [getElem!_pos _ _ (by rw [size_flatK]; exact hj)]
  rfl

/-- The sorted list. -/
def sortedT (L : List (Int × Int)) : List (Int × Int) := L.mergeSort fun x y => !(ltOf cmpT) y x
theorem sortedT_len (L : List (Int × Int)) : (sortedT L).length = L.length := by unfold sortedT; exact List.length_mergeSort L
theorem sortTimers_any (g cap n B : Nat) (L : List (Int × Int)) (w : World) (h : OwnP 44 w B (.slice (some ⟨g, 0, none⟩) n cap) L) (hn : L.length = n) (hlen : n ≤ 5000) :
    Calls Try.prog 49 #[.slice (some ⟨g, 0, none⟩) n cap, .func (.func 50) #[] #[]] w fun e w' => e = .returned (.tuple #[]) ∧ OwnP 44 w' B (.slice (some ⟨g, 0, none⟩) n cap) (sortedT L) ∧ w.grownBy w' (some g) := by
  have eg : ∀ args w, (callFunc 50 args).run Try.prog w = .ok (.enter 50 args) w := enters_of Try.func50 (by kernel_rfl) rfl
  have hcon := AnyQ.slices_SortFunc_total Try.sortTimers 2 Try.isAgg44 Try.sizeOf44 encT (fun _ => rfl) (fun x v hv => by simp [encT] at hv; rcases hv with rfl | rfl <;> rfl) cmpT swoT 50 #[] g 0 cap L.toArray w eg (fun _ _ _ _ x y => compareTimers_any x y _) (holds_own h hn) (World.ownsRow.lt h g rfl).2 (by simp; omega) oneT
  have hz : L.toArray.size = n := by simpa using hn
  rw [hz] at hcon
  refine Calls.mono (show Calls Try.prog 49 _ _ _ from hcon) ?_
  rintro e w' ⟨rfl, m, os, rfl⟩
  exact ⟨rfl, own_sorted h hn (sortedT_len L)⟩
end Go.Proofs.Ytbbjelkicenbhaa
