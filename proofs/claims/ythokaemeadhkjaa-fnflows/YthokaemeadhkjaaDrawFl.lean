/- Drawn flows. -/
import Derived.Test.YthokaemeadhkjaaDraws
import Derived.Test.YthokaemeadhkjaaFlV
import Derived.Test.YthokaemeadhkjaaGrw
import Derived.Test.YthokaemeadhkjaaKeeps
import Derived.Deep.RegionHeld3
namespace Go.Proofs.Ythokaemeadhkjaa
open Go.RowKit Go.PlainAid Go.Proofs.Ythokaemeadhkjaa.Bt Go.Sort
set_option linter.unusedVariables false
set_option maxRecDepth 20000

set_option maxHeartbeats 1000000 in
theorem lan9D (w : World) (q : Nat) (a : Option Addr) (len cap : Nat) (f : Nat → Int) (m : Nat) (h : Src w q a len cap f m) (hm : m ≤ 999999990) :
    Calls Try.prog 67 #[.pointer (some ⟨q, 0, none⟩)] w fun e w' => ∃ v : Int, e = .returned (.int .i64 v) ∧ 167772162 ≤ v ∧ v ≤ 167772164 ∧ Hid (Drawn w w' q a len cap f m) := by
  have HH : Hid (Src w q a len cap f m) := h
  clear h
  go_enter Try.func67, Try.ntmps67
  go_wp2_with fail
  refine (next_any _ q a len cap f m 3 HH.out hm (by omega) (by omega)).mono ?_
  rintro e w1 ⟨v, m', rfl, v0, v1, hm', hs, ho⟩
  have G : Hid (Src w1 q a len cap f m' ∧ w.grownBy w1 (some q)) := ⟨hs, ho.grownBy⟩
  clear hs ho
  go_wp2
  go_ret
  exact ⟨_, rfl, by omega, by omega, ⟨m', hm', G.out.1⟩, G.out.2⟩
set_option maxHeartbeats 1000000 in
theorem wan9D (w : World) (q : Nat) (a : Option Addr) (len cap : Nat) (f : Nat → Int) (m : Nat) (h : Src w q a len cap f m) (hm : m ≤ 999999990) :
    Calls Try.prog 68 #[.pointer (some ⟨q, 0, none⟩)] w fun e w' => ∃ v : Int, e = .returned (.int .i64 v) ∧ 0 ≤ v ∧ v ≤ 151587081 ∧ Hid (Drawn w w' q a len cap f m) := by
  have HH : Hid (Src w q a len cap f m) := h
  clear h
  go_enter Try.func68, Try.ntmps68
  go_wp2_with fail
  refine (next_any _ q a len cap f m 4 (HH.out.grown (World.grownBy_alloc w _ none) (by simp) (by simp)) hm (by omega) (by omega)).mono ?_
  rintro e w1 ⟨v, m', rfl, v0, v1, hm', hs, ho⟩
  have lq : q < w.heap.size := World.block_lt_of_cell? w _ HH.out.code
  have G : Hid (Src w1 q a len cap f m' ∧ w.grownBy w1 (some q)) := ⟨hs, grown_trans (World.grownBy_alloc w _ (some q)) ho.grownBy⟩
  have hcell := lit_cells [.int .i64 16843009, .int .i64 84215045, .int .i64 84215303, .int .i64 151587081] 3 lq ho
  have c0 := hcell.at 0 _ rfl
  have c1 := hcell.at 1 _ rfl
  have c2 := hcell.at 2 _ rfl
  have c3 := hcell.at 3 _ rfl
  clear hcell hs ho
  have hv : v = 0 ∨ v = 1 ∨ v = 2 ∨ v = 3 := by omega
  rcases hv with rfl | rfl | rfl | rfl
  all_goals
    clear v0 v1
    go_wp2
    go_ret
    exact ⟨_, rfl, by omega, by omega, ⟨m', hm', G.out.1⟩, G.out.2⟩
set_option maxHeartbeats 1000000 in
theorem port9D (w : World) (q : Nat) (a : Option Addr) (len cap : Nat) (f : Nat → Int) (m : Nat) (h : Src w q a len cap f m) (hm : m ≤ 999999990) :
    Calls Try.prog 69 #[.pointer (some ⟨q, 0, none⟩)] w fun e w' => ∃ v : Int, e = .returned (.int .i64 v) ∧ 0 ≤ v ∧ v ≤ 65535 ∧ Hid (Drawn w w' q a len cap f m) := by
  have HH : Hid (Src w q a len cap f m) := h
  clear h
  go_enter Try.func69, Try.ntmps69
  go_wp2_with fail
  refine (next_any _ q a len cap f m 6 (HH.out.grown (World.grownBy_alloc w _ none) (by simp) (by simp)) hm (by omega) (by omega)).mono ?_
  rintro e w1 ⟨v, m', rfl, v0, v1, hm', hs, ho⟩
  have lq : q < w.heap.size := World.block_lt_of_cell? w _ HH.out.code
  have G : Hid (Src w1 q a len cap f m' ∧ w.grownBy w1 (some q)) := ⟨hs, grown_trans (World.grownBy_alloc w _ (some q)) ho.grownBy⟩
  have hcell := lit_cells [.int .i64 80, .int .i64 443, .int .i64 53, .int .i64 22, .int .i64 0, .int .i64 65535] 3 lq ho
  have c0 := hcell.at 0 _ rfl
  have c1 := hcell.at 1 _ rfl
  have c2 := hcell.at 2 _ rfl
  have c3 := hcell.at 3 _ rfl
  have c4 := hcell.at 4 _ rfl
  have c5 := hcell.at 5 _ rfl
  clear hcell hs ho
  have hv : v = 0 ∨ v = 1 ∨ v = 2 ∨ v = 3 ∨ v = 4 ∨ v = 5 := by omega
  rcases hv with rfl | rfl | rfl | rfl | rfl | rfl
  all_goals
    clear v0 v1
    go_wp2
    go_ret
    exact ⟨_, rfl, by omega, by omega, ⟨m', hm', G.out.1⟩, G.out.2⟩
set_option maxHeartbeats 1000000 in
theorem chance9D (w : World) (q : Nat) (a : Option Addr) (len cap : Nat) (f : Nat → Int) (m : Nat) (n : Int) (h : Src w q a len cap f m) (hm : m ≤ 999999990) (hn : 1 ≤ n) (hn2 : n ≤ 1000000000) :
    Calls Try.prog 65 #[.pointer (some ⟨q, 0, none⟩), .int .i64 n] w fun e w' => ∃ v : Bool, e = .returned (.bool v) ∧ Hid (Drawn w w' q a len cap f m) := by
  have HH : Hid (Src w q a len cap f m) := h
  clear h
  go_enter Try.func65, Try.ntmps65
  go_wp2_with fail
  refine (nextD _ q a len cap f m n HH.out hm hn hn2).mono ?_
  rintro e w1 ⟨v, rfl, v0, v1, D⟩
  go_wp2
  go_ret
  exact ⟨_, rfl, D⟩
/-- The source behind k draws. -/
def DQ (q : Nat) (a : Option Addr) (len cap : Nat) (f : Nat → Int) (w : World) (k : Nat) (w' : World) : Prop := (∃ m, m ≤ 3 * k ∧ Src w' q a len cap f m) ∧ w.grownBy w' (some q)
/-- A drawn flow. -/
def DrF (f : FlowV) : Prop := (f.pr = 6 ∨ f.pr = 17 ∨ f.pr = 1) ∧ f.mc.size = 6 ∧ (167772162 ≤ f.si ∧ f.si ≤ 167772164) ∧ (1000 ≤ f.sp ∧ f.sp ≤ 1001) ∧ (0 ≤ f.di ∧ f.di ≤ 151587081) ∧ (0 ≤ f.dp ∧ f.dp ≤ 65535) ∧ f.st = 1 ∧ f.un = 0 ∧ (0 ≤ f.ow ∧ f.ow ≤ 2)
end Go.Proofs.Ythokaemeadhkjaa
