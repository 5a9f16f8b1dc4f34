/- A drawn address, a drawn mac. -/
import Derived.Test.YtcgdpijmfgkalaaDoorAt
import Derived.Test.YtcgdpijmfgkalaaDoorDigits
namespace Go.Proofs.YtcgdpijmfgkalaaDoor
open Go.RowKit Go.PlainAid
set_option linter.unusedVariables false
set_option maxRecDepth 20000

set_option maxHeartbeats 1000000 in
theorem wan_any (w : World) (q : Nat) (a : Option Addr) (len cap : Nat) (f : Nat → Int) (m : Nat) (h : Src w q a len cap f m) (hm : m ≤ 999999990) :
    Calls Tryd.prog 26 #[.pointer (some ⟨q, 0, none⟩)] w fun e w' => ∃ v : Int, e = .returned (.int .i64 v) ∧ (v = 16843009 ∨ v = 84215045 ∨ v = 84215303 ∨ v = 151587081) ∧ w.grownBy w' (some q) := by
  have HH : Hid (Src w q a len cap f m) := h
  clear h
  go_enter Tryd.func26, Tryd.ntmps26
  go_wp2_with fail
  refine (next_any _ q a len cap f m 4 (HH.out.grown (World.grownBy_alloc w _ none) (by simp) (by simp)) hm (by omega) (by omega)).mono ?_
  rintro e w1 ⟨v, m', rfl, v0, v1, hm', hs, ho⟩
  have lq : q < w.heap.size := World.block_lt_of_cell? w _ HH.out.code
  have G : Hid (w.grownBy w1 (some q)) := grown_trans (World.grownBy_alloc w _ (some q)) ho.grownBy
  have hcell : ∀ (i : Nat) (x : Value), (#[Value.int IntKind.i64 16843009, Value.int IntKind.i64 84215045, Value.int IntKind.i64 84215303, Value.int IntKind.i64 151587081] : Array Value)[i]? = some x → w1.cell? ⟨w.heap.size, i, none⟩ = some x := by
    intro i x hx
    rw [ho.cell (p := ⟨w.heap.size, i, none⟩) (by show w.heap.size ≠ q; omega)]
    have hh : (w.alloc (.cells #[Value.int IntKind.i64 16843009, Value.int IntKind.i64 84215045, Value.int IntKind.i64 84215303, Value.int IntKind.i64 151587081] 3)).heap[w.heap.size]? = some (.cells #[Value.int IntKind.i64 16843009, Value.int IntKind.i64 84215045, Value.int IntKind.i64 84215303, Value.int IntKind.i64 151587081] 3) := by
      show (w.heap.push _)[w.heap.size]? = some _
      simp
    unfold World.cell?
    rw [hh]
    exact hx
  have c0 := hcell 0 _ rfl
  have c1 := hcell 1 _ rfl
  have c2 := hcell 2 _ rfl
  have c3 := hcell 3 _ rfl
  clear hcell hs ho
  have hv : v = 0 ∨ v = 1 ∨ v = 2 ∨ v = 3 := by omega
  rcases hv with rfl | rfl | rfl | rfl
  all_goals
    clear v0 v1
    go_wp2
    go_ret
    exact ⟨_, rfl, by simp, G.out⟩
set_option maxHeartbeats 1000000 in
theorem mac_any (w : World) (q : Nat) (a : Option Addr) (len cap : Nat) (f : Nat → Int) (m : Nat) (h : Src w q a len cap f m) (hm : m ≤ 999999990) :
    Calls Tryd.prog 33 #[.pointer (some ⟨q, 0, none⟩)] w fun e w' => ∃ x : Int, e = .returned (.string (⟨#[2, 0, 0, 0, 0]⟩ ++ strOfNums [x])) ∧ 1 ≤ x ∧ x ≤ 3 ∧ w.grownBy w' (some q) := by
  have HH : Hid (Src w q a len cap f m) := h
  clear h
  go_enter Tryd.func33, Tryd.ntmps33
  go_wp2_with fail
  refine (next_any _ q a len cap f m 3 HH.out hm (by omega) (by omega)).mono ?_
  rintro e w1 ⟨v, m', rfl, v0, v1, hm', hs, ho⟩
  have G : Hid (w.grownBy w1 (some q)) := ho.grownBy
  clear hs ho
  have HC := conv_one (w1.alloc (.cells #[.int .u8 (1 + v)] 5)) w1.heap.size (1 + v) (by omega) (by omega) (by simp)
  have hadd : ∀ wx : World, (Op.stringOp .add ⟨#[2, 0, 0, 0, 0]⟩ (strOfNums [1 + v])).run Tryd.prog wx = .ok (.string (⟨#[2, 0, 0, 0, 0]⟩ ++ strOfNums [1 + v])) wx := fun wx => run_string_add_sum (P := Tryd.prog) (w := wx) _ _ (by
    rw [strOfNums_size]
    show 5 + 1 ≤ 9223372036854775807
    omega)
  go_wp2
  go_ret
  exact ⟨1 + v, rfl, by omega, by omega, grown_alloc G.out _⟩

theorem WanOf_any (w : World) (a : Option Addr) (len cap : Nat) (f : Nat → Int) (h : Bytes w a len f) (hl : len ≤ 1048576) (hlt : ∀ b off, 0 < len → a = some ⟨b, off, none⟩ → b < w.heap.size) :
    Calls Tryd.prog 5 #[.slice a len cap] w fun e w' => ∃ v : Int, e = .returned (.int .i64 v) ∧ (v = 16843009 ∨ v = 84215045 ∨ v = 84215303 ∨ v = 151587081) ∧ Below w.heap.size w w' := by
  have HB : Hid (Bytes w a len f) := h
  have HL : Hid (∀ b off, 0 < len → a = some ⟨b, off, none⟩ → b < w.heap.size) := hlt
  clear h hlt
  go_enter Tryd.func5, Tryd.ntmps5
  go_wp2_with fail
  refine (l00Source_any w a len cap f HB.out hl HL.out).mono ?_
  rintro e w1 ⟨rfl, hs, hg, hz⟩
  have X : Hid (Src w1 w.heap.size a len cap f 0 ∧ w.grownBy w1 none ∧ w1.heap.size = w.heap.size + 1) := ⟨hs, hg, hz⟩
  clear hs hg hz
  go_wp2_with fail
  refine (wan_any w1 w.heap.size a len cap f 0 X.out.1 (by omega)).mono ?_
  rintro e w2 ⟨v, rfl, hv, hg2⟩
  have V : Hid (v = 16843009 ∨ v = 84215045 ∨ v = 84215303 ∨ v = 151587081) := hv
  have G : Hid (w1.grownBy w2 (some w.heap.size)) := hg2
  clear hv hg2
  go_wp2
  go_ret
  have hz := X.out.2.2
  exact ⟨v, rfl, V.out, ((Below.refl w.heap.size w).grown X.out.2.1 (Nat.le_refl _) (by simp)).grown G.out (by omega) (by intro k hk; cases hk; exact Nat.le_refl _)⟩
theorem MacOf_any (w : World) (a : Option Addr) (len cap : Nat) (f : Nat → Int) (h : Bytes w a len f) (hl : len ≤ 1048576) (hlt : ∀ b off, 0 < len → a = some ⟨b, off, none⟩ → b < w.heap.size) :
    Calls Tryd.prog 9 #[.slice a len cap] w fun e w' => ∃ x : Int, e = .returned (.string (⟨#[2, 0, 0, 0, 0]⟩ ++ strOfNums [x])) ∧ 1 ≤ x ∧ x ≤ 3 ∧ Below w.heap.size w w' := by
  have HB : Hid (Bytes w a len f) := h
  have HL : Hid (∀ b off, 0 < len → a = some ⟨b, off, none⟩ → b < w.heap.size) := hlt
  clear h hlt
  go_enter Tryd.func9, Tryd.ntmps9
  go_wp2_with fail
  refine (l00Source_any w a len cap f HB.out hl HL.out).mono ?_
  rintro e w1 ⟨rfl, hs, hg, hz⟩
  have X : Hid (Src w1 w.heap.size a len cap f 0 ∧ w.grownBy w1 none ∧ w1.heap.size = w.heap.size + 1) := ⟨hs, hg, hz⟩
  clear hs hg hz
  go_wp2_with fail
  refine (mac_any w1 w.heap.size a len cap f 0 X.out.1 (by omega)).mono ?_
  rintro e w2 ⟨x, rfl, x0, x1, hg2⟩
  have G : Hid (w1.grownBy w2 (some w.heap.size)) := hg2
  clear hg2
  go_wp2
  go_ret
  have hz := X.out.2.2
  exact ⟨x, rfl, x0, x1, ((Below.refl w.heap.size w).grown X.out.2.1 (Nat.le_refl _) (by simp)).grown G.out (by omega) (by intro k hk; cases hk; exact Nat.le_refl _)⟩
end Go.Proofs.YtcgdpijmfgkalaaDoor
