/- Drawn numbers, macs, addresses and texts, with what is left of the source. -/
import Derived.Test.YthokaemeadhkjaaAt
import Derived.Test.YthokaemeadhkjaaDigits
import Derived.Test.YthokaemeadhkjaaApp
namespace Go.Proofs.Ythokaemeadhkjaa
open Go.RowKit Go.PlainAid
set_option linter.unusedVariables false
set_option maxRecDepth 20000

/-- The source behind a draw, and all else as it was. -/
def Drawn (w w' : World) (q : Nat) (a : Option Addr) (len cap : Nat) (f : Nat → Int) (m : Nat) : Prop := (∃ m', m' ≤ m + 3 ∧ Src w' q a len cap f m') ∧ w.grownBy w' (some q)

theorem nextD (w : World) (q : Nat) (a : Option Addr) (len cap : Nat) (f : Nat → Int) (m : Nat) (n : Int) (h : Src w q a len cap f m) (hm : m ≤ 999999990) (hn : 1 ≤ n) (hn2 : n ≤ 1000000000) :
    Calls Try.prog 63 #[.pointer (some ⟨q, 0, none⟩), .int .i64 n] w fun e w' => ∃ v : Int, e = .returned (.int .i64 v) ∧ 0 ≤ v ∧ v < n ∧ Hid (Drawn w w' q a len cap f m) :=
  (next_any w q a len cap f m n h hm hn hn2).mono fun e w' ⟨v, m', he, v0, v1, hm', hs, ho⟩ => ⟨v, he, v0, v1, ⟨m', hm', hs⟩, ho.grownBy⟩

set_option maxHeartbeats 1000000 in
theorem macD (w : World) (q : Nat) (a : Option Addr) (len cap : Nat) (f : Nat → Int) (m : Nat) (h : Src w q a len cap f m) (hm : m ≤ 999999990) :
    Calls Try.prog 66 #[.pointer (some ⟨q, 0, none⟩)] w fun e w' => ∃ s : ByteArray, e = .returned (.string s) ∧ s.size = 6 ∧ Hid (Drawn w w' q a len cap f m) := by
  have HH : Hid (Src w q a len cap f m) := h
  clear h
  go_enter Try.func66, Try.ntmps66
  go_wp2_with fail
  refine (next_any _ q a len cap f m 3 HH.out hm (by omega) (by omega)).mono ?_
  rintro e w1 ⟨v, m', rfl, v0, v1, hm', hs, ho⟩
  have lq : q < w1.heap.size := World.block_lt_of_cell? w1 _ hs.code
  have G : Hid (Src w1 q a len cap f m' ∧ w.grownBy w1 (some q)) := ⟨hs, ho.grownBy⟩
  clear hs ho
  have HC := conv_one (w1.alloc (.cells #[.int .u8 (1 + v)] 5)) w1.heap.size (1 + v) (by omega) (by omega) (by simp)
  have hadd : ∀ wx : World, (Op.stringOp .add ⟨#[2, 0, 0, 0, 0]⟩ (strOfNums [1 + v])).run Try.prog wx = .ok (.string (⟨#[2, 0, 0, 0, 0]⟩ ++ strOfNums [1 + v])) wx := fun wx => run_string_add_sum (P := Try.prog) (w := wx) _ _ (by
    rw [strOfNums_size]
    show 5 + 1 ≤ 9223372036854775807
    omega)
  go_wp2
  go_ret
  exact ⟨_, rfl, by rw [ByteArray.size_append, strOfNums_size]; rfl, ⟨m', hm', G.out.1.grown (World.grownBy_alloc w1 _ none) (by simp) (by simp)⟩, grown_alloc G.out.2 _⟩

set_option maxHeartbeats 1000000 in
theorem lanD (w : World) (q : Nat) (a : Option Addr) (len cap : Nat) (f : Nat → Int) (m : Nat) (h : Src w q a len cap f m) (hm : m ≤ 999999990) :
    Calls Try.prog 67 #[.pointer (some ⟨q, 0, none⟩)] w fun e w' => ∃ v : Int, e = .returned (.int .i64 v) ∧ 0 ≤ v ∧ v ≤ 4294967295 ∧ Hid (Drawn w w' q a len cap f m) := by
  have HH : Hid (Src w q a len cap f m) := h
  clear h
  go_enter Try.func67, Try.ntmps67
  go_wp2_with fail
  refine (next_any _ q a len cap f m 3 HH.out hm (by omega) (by omega)).mono ?_
  rintro e w1 ⟨v, m', rfl, v0, v1, hm', hs, ho⟩
  have G : Hid (Src w1 q a len cap f m' ∧ w.grownBy w1 (some q)) := ⟨hs, ho.grownBy⟩
  clear hs ho
  go_wp2
  go_ret
  exact ⟨_, rfl, by omega, by omega, ⟨m', hm', G.out.1⟩, G.out.2⟩

/-- What an array literal of the call's own holds behind a draw. -/
theorem lit_cells {w w1 : World} {q : Nat} (cs : List Value) (t : TypeId) (hq : q < w.heap.size) (ho : Only q (w.alloc (.cells cs.toArray t)) w1) : Boxed w1 w.heap.size cs := by
  intro i v hi
  rw [ho.cell (p := ⟨w.heap.size, i, none⟩) (by show w.heap.size ≠ q; omega)]
  exact Boxed.new w cs t i v hi

set_option maxHeartbeats 1000000 in
theorem wanD (w : World) (q : Nat) (a : Option Addr) (len cap : Nat) (f : Nat → Int) (m : Nat) (h : Src w q a len cap f m) (hm : m ≤ 999999990) :
    Calls Try.prog 68 #[.pointer (some ⟨q, 0, none⟩)] w fun e w' => ∃ v : Int, e = .returned (.int .i64 v) ∧ 0 ≤ v ∧ v ≤ 4294967295 ∧ Hid (Drawn w w' q a len cap f m) := by
  have HH : Hid (Src w q a len cap f m) := h
  clear h
  go_enter Try.func68, Try.ntmps68
  go_wp2_with fail
  refine (next_any _ q a len cap f m 4 (HH.out.grown (World.grownBy_alloc w _ none) (by simp) (by simp)) hm (by omega) (by omega)).mono ?_
  rintro e w1 ⟨v, m', rfl, v0, v1, hm', hs, ho⟩
  have lq : q < w.heap.size := World.block_lt_of_cell? w _ HH.out.code
  have G : Hid (Src w1 q a len cap f m' ∧ w.grownBy w1 (some q)) := ⟨hs, grown_trans (World.grownBy_alloc w _ (some q)) ho.grownBy⟩
  have hcell := lit_cells [.int .i64 16843009, .int .i64 84215045, .int .i64 84215303, .int .i64 151587081] 3 lq ho
  have c0 := hcell.at 0 _ rfl
  have c1 := hcell.at 1 _ rfl
  have c2 := hcell.at 2 _ rfl
  have c3 := hcell.at 3 _ rfl
  clear hcell hs ho
  have hv : v = 0 ∨ v = 1 ∨ v = 2 ∨ v = 3 := by omega
  rcases hv with rfl | rfl | rfl | rfl
  all_goals
    clear v0 v1
    go_wp2
    go_ret
    exact ⟨_, rfl, by omega, by omega, ⟨m', hm', G.out.1⟩, G.out.2⟩

end Go.Proofs.Ythokaemeadhkjaa
