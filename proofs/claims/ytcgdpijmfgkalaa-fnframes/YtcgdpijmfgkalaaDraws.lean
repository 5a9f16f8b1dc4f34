/- Drawn numbers, macs, addresses and texts, with what is left of the source. -/
import Derived.Test.YtcgdpijmfgkalaaAt
import Derived.Test.YtcgdpijmfgkalaaDigits
import Derived.Test.YtcgdpijmfgkalaaApp
namespace Go.Proofs.Ytcgdpijmfgkalaa
open Go.RowKit Go.PlainAid
set_option linter.unusedVariables false
set_option maxRecDepth 20000

/-- The source behind a draw, and all else as it was. -/
def Drawn (w w' : World) (q : Nat) (a : Option Addr) (len cap : Nat) (f : Nat → Int) (m : Nat) : Prop := (∃ m', m' ≤ m + 3 ∧ Src w' q a len cap f m') ∧ w.grownBy w' (some q)

theorem nextD (w : World) (q : Nat) (a : Option Addr) (len cap : Nat) (f : Nat → Int) (m : Nat) (n : Int) (h : Src w q a len cap f m) (hm : m ≤ 999999990) (hn : 1 ≤ n) (hn2 : n ≤ 1000000000) :
    Calls Try.prog 44 #[.pointer (some ⟨q, 0, none⟩), .int .i64 n] w fun e w' => ∃ v : Int, e = .returned (.int .i64 v) ∧ 0 ≤ v ∧ v < n ∧ Hid (Drawn w w' q a len cap f m) :=
  (next_any w q a len cap f m n h hm hn hn2).mono fun e w' ⟨v, m', he, v0, v1, hm', hs, ho⟩ => ⟨v, he, v0, v1, ⟨m', hm', hs⟩, ho.grownBy⟩

set_option maxHeartbeats 1000000 in
theorem macD (w : World) (q : Nat) (a : Option Addr) (len cap : Nat) (f : Nat → Int) (m : Nat) (h : Src w q a len cap f m) (hm : m ≤ 999999990) :
    Calls Try.prog 43 #[.pointer (some ⟨q, 0, none⟩)] w fun e w' => ∃ s : ByteArray, e = .returned (.string s) ∧ s.size = 6 ∧ Hid (Drawn w w' q a len cap f m) := by
  have HH : Hid (Src w q a len cap f m) := h
  clear h
  go_enter Try.func43, Try.ntmps43
  go_wp2_with fail
  refine (next_any _ q a len cap f m 3 HH.out hm (by omega) (by omega)).mono ?_
  rintro e w1 ⟨v, m', rfl, v0, v1, hm', hs, ho⟩
  have lq : q < w1.heap.size := World.block_lt_of_cell? w1 _ hs.code
  have G : Hid (Src w1 q a len cap f m' ∧ w.grownBy w1 (some q)) := ⟨hs, ho.grownBy⟩
  clear hs ho
  have HC := conv_one (w1.alloc (.cells #[.int .u8 (1 + v)] 5)) w1.heap.size (1 + v) (by omega) (by omega) (by simp)
  have hadd : ∀ wx : World, (Op.stringOp .add ⟨#[2, 0, 0, 0, 0]⟩ (strOfNums [1 + v])).run Try.prog wx = .ok (.string (⟨#[2, 0, 0, 0, 0]⟩ ++ strOfNums [1 + v])) wx := fun wx => run_string_add_sum (P := Try.prog) (w := wx) _ _ (by
    rw [strOfNums_size]
    show 5 + 1 ≤ 9223372036854775807
    omega)
  go_wp2
  go_ret
  exact ⟨_, rfl, by rw [ByteArray.size_append, strOfNums_size]; rfl, ⟨m', hm', G.out.1.grown (World.grownBy_alloc w1 _ none) (by simp) (by simp)⟩, grown_alloc G.out.2 _⟩

set_option maxHeartbeats 1000000 in
theorem lanD (w : World) (q : Nat) (a : Option Addr) (len cap : Nat) (f : Nat → Int) (m : Nat) (h : Src w q a len cap f m) (hm : m ≤ 999999990) :
    Calls Try.prog 49 #[.pointer (some ⟨q, 0, none⟩)] w fun e w' => ∃ v : Int, e = .returned (.int .i64 v) ∧ 0 ≤ v ∧ v ≤ 4294967295 ∧ Hid (Drawn w w' q a len cap f m) := by
  have HH : Hid (Src w q a len cap f m) := h
  clear h
  go_enter Try.func49, Try.ntmps49
  go_wp2_with fail
  refine (next_any _ q a len cap f m 3 HH.out hm (by omega) (by omega)).mono ?_
  rintro e w1 ⟨v, m', rfl, v0, v1, hm', hs, ho⟩
  have G : Hid (Src w1 q a len cap f m' ∧ w.grownBy w1 (some q)) := ⟨hs, ho.grownBy⟩
  clear hs ho
  go_wp2
  go_ret
  exact ⟨_, rfl, by omega, by omega, ⟨m', hm', G.out.1⟩, G.out.2⟩

/-- What an array literal of the call's own holds behind a draw. -/
theorem lit_cells {w w1 : World} {q : Nat} (cs : List Value) (t : TypeId) (hq : q < w.heap.size) (ho : Only q (w.alloc (.cells cs.toArray t)) w1) : Boxed w1 w.heap.size cs := by
  intro i v hi
  rw [ho.cell (p := ⟨w.heap.size, i, none⟩) (by show w.heap.size ≠ q; omega)]
  exact Boxed.new w cs t i v hi

set_option maxHeartbeats 1000000 in
theorem pickD (w : World) (q g : Nat) (a : Option Addr) (len cap : Nat) (f : Nat → Int) (m : Nat) (h : Src w q a len cap f m) (hm : m ≤ 999999990) (t0 t1 t2 : ByteArray) (hb : Boxed w g [.string t0, .string t1, .string t2]) (hg : g ≠ q) :
    Calls Try.prog 45 #[.pointer (some ⟨q, 0, none⟩), .slice (some ⟨g, 0, none⟩) 3 3] w fun e w' => ∃ t : ByteArray, e = .returned (.string t) ∧ (t = t0 ∨ t = t1 ∨ t = t2) ∧ Hid (Drawn w w' q a len cap f m) := by
  have HH : Hid (Src w q a len cap f m ∧ Boxed w g [.string t0, .string t1, .string t2]) := ⟨h, hb⟩
  clear h hb
  go_enter Try.func45, Try.ntmps45
  go_wp2_with fail
  refine (next_any _ q a len cap f m 3 HH.out.1 hm (by omega) (by omega)).mono ?_
  rintro e w1 ⟨v, m', rfl, v0, v1, hm', hs, ho⟩
  have G : Hid (Src w1 q a len cap f m' ∧ w.grownBy w1 (some q)) := ⟨hs, ho.grownBy⟩
  have hcell : Boxed w1 g [.string t0, .string t1, .string t2] := fun i v hi => by rw [ho.cell (p := ⟨g, i, none⟩) hg]; exact HH.out.2 i v hi
  have c0 := hcell.at 0 _ rfl
  have c1 := hcell.at 1 _ rfl
  have c2 := hcell.at 2 _ rfl
  clear hcell hs ho
  have hv : v = 0 ∨ v = 1 ∨ v = 2 := by omega
  rcases hv with rfl | rfl | rfl
  all_goals
    clear v0 v1
    go_wp2
    go_ret
    exact ⟨_, rfl, by simp, ⟨m', hm', G.out.1⟩, G.out.2⟩
end Go.Proofs.Ytcgdpijmfgkalaa
