/- Rows of words in memory. -/
import Derived.Test.YtimhkeebgogfoabDoorProg
import Derived.Test.YtimhkeebgogfoabDoorHashM
import Derived.Test.YtimhkeebgogfoabDoorApp
import Derived.Deep.MidRow
namespace Go.Proofs.YtimhkeebgogfoabDoor
open Go.RowKit Go.PlainAid
set_option linter.unusedVariables false
set_option maxRecDepth 20000

/-- Block q of n cells, of which the first k hold g's words; nothing below base is turned since w. -/
structure Arr (base : Nat) (w wr : World) (q n k : Nat) (g : Nat → Int) : Prop where
  bel : Below base w wr
  lt : q < wr.heap.size
  at_ : ∀ i, i < k → wr.cell? ⟨q, i, none⟩ = some (.int .u32 (g i))
  thr : ∀ i, i < n → (wr.cell? ⟨q, i, none⟩).isSome = true ∧ wr.frozen? ⟨q, i, none⟩ = false

theorem Arr.set {base : Nat} {w wr : World} {q n k : Nat} {g : Nat → Int} (h : Arr base w wr q n k g) (hk : k < n) (hq : base ≤ q) (x : Int) (hx : x = g k) : Arr base w (wr.setCell ⟨q, k, none⟩ (.int .u32 x)) q n (k + 1) g := by
  subst hx
  have hs : ∀ i, i < n → (wr.cell? ⟨q, i, none⟩).isSome = true := fun i hi => (h.thr i hi).1
  refine ⟨h.bel.setCell hq _, by simpa using h.lt, fun i hi => ?_, fun i hi => ?_⟩
  · by_cases e : i = k
    · subst e
      obtain ⟨u, hu⟩ := Option.isSome_iff_exists.1 (hs i hk)
      exact World.cell?_setCell_same _ _ _ hu
    · rw [World.cell?_setCell_other _ _ _ _ (fun he => e (by injection he with _ h2; exact h2.symm))]; exact h.at_ i (by omega)
  · have := h.thr i hi
    refine ⟨?_, by rw [World.frozen?_setCell]; exact this.2⟩
    by_cases e : i = k
    · subst e
      obtain ⟨u, hu⟩ := Option.isSome_iff_exists.1 (hs i hk)
      rw [World.cell?_setCell_same _ _ _ hu]; rfl
    · rw [World.cell?_setCell_other _ _ _ _ (fun he => e (by injection he with _ h2; exact h2.symm))]; exact this.1
theorem Arr.range {base : Nat} {w wr : World} {q n : Nat} {g : Nat → Int} (h : Arr base w wr q n n g) : wr.rangeAt q 0 (words g n) := fun j v hv => by
  obtain ⟨hj, rfl⟩ := words_get hv
  rw [Nat.zero_add]
  exact h.at_ j hj
/-- n cells of block q are there and may be written. -/
def Free (w : World) (q n : Nat) : Prop := q < w.heap.size ∧ ∀ i, i < n → (w.cell? ⟨q, i, none⟩).isSome = true ∧ w.frozen? ⟨q, i, none⟩ = false
theorem Free.there {w : World} {q n : Nat} (h : Free w q n) : w.there q 0 n := fun j hj => by rw [Nat.zero_add]; exact h.2 j hj
theorem Free.set {w : World} {q n : Nat} (h : Free w q n) {a : Addr} (ha : a.block ≠ q) (v : Value) : Free (w.setCell a v) q n := by
  refine ⟨by simpa using h.1, fun i hi => ?_⟩
  rw [World.cell?_setCell_other _ _ _ _ (fun he => ha (by rw [he])), World.frozen?_setCell]
  exact h.2 i hi
theorem Free.new (w : World) (cs : Array Value) (t : TypeId) : Free (w.alloc (.cells cs t)) w.heap.size cs.size := by
  refine ⟨by simp, fun i hi => ?_⟩
  constructor
  · rw [World.cell?_alloc_new w cs t i]
    simp [hi]
  · simp
theorem Free.below {w w' : World} {q n B : Nat} (h : Free w q n) (b : Below B w w') (hq : q < B) : Free w' q n := by
  refine ⟨Nat.lt_of_lt_of_le h.1 b.size, fun i hi => ?_⟩
  rw [b.cell (p := ⟨q, i, none⟩) hq, b.frozen (p := ⟨q, i, none⟩) hq]
  exact h.2 i hi
theorem below_setCells {base : Nat} {w : World} {q : Nat} (hq : base ≤ q) : ∀ (vs : List Value) (o : Nat) (wr : World), Below base w wr → Below base w (wr.setCells q o vs)
  | [], o, wr, h => h
  | v :: vs, o, wr, h => below_setCells hq vs (o + 1) (wr.setCell ⟨q, o, none⟩ v) (h.setCell hq v)
theorem results_one {fn : Func} {p : Tmp} {ty : TypeId} (h : fn.results = #[.cell p ty]) {tmps : Array Value} {P : Program} {w : World} {q : Addr} {v : Value} (hp : tmps.getD p undef = .pointer (some q)) (hl : (loadVar ty q).run P w = .ok v w) :
    (results fn tmps).run P w = .ok v w := by
  have hp' : tmps[p]?.getD undef = .pointer (some q) := by simpa using hp
  simp [results, h, hp', asAddr, hl]
theorem there_new (w : World) (cs : Array Value) (t : TypeId) (n : Nat) (h : cs.size = n) : (w.alloc (.cells cs t)).there w.heap.size 0 n := by
  subst h; exact (Free.new w cs t).there
theorem words_oneCell (g : Nat → Int) (n : Nat) : (words g n).toArray.all (·.oneCell') = true :=
  all_oneCell_toArray fun v hv => by
    unfold words at hv
    obtain ⟨i, _, rfl⟩ := List.mem_map.1 hv
    rfl
end Go.Proofs.YtimhkeebgogfoabDoor
