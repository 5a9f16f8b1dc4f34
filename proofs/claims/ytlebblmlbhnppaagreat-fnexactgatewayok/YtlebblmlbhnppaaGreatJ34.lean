/- Guests in the laws: measured, copied, compared. Flows and lists of them in the laws: measured, copied, compared. Connections and segments in the laws: copied, measured, compared. Lists of connections in the laws: measured, copied, compared. Boxes of any struct: a struct in a block, read and written whole. Nothing of the program is used. Gateways in the laws: measured, copied, compared. Boxes: stores of one cell. Nothing of the program is used. -/
import Derived.Test.YtlebblmlbhnppaaGreatJ33
import Derived.Test.YtlebblmlbhnppaaGreatKeeps
import Derived.Test.YtlebblmlbhnppaaGreatJ31
import Derived.Test.YtlebblmlbhnppaaGreatGrw
import Derived.Test.YtlebblmlbhnppaaGreatInfo
import Derived.Test.YtlebblmlbhnppaaGreatRoom
import Derived.Test.YtlebblmlbhnppaaGreatTests
import Derived.Test.YtlebblmlbhnppaaGreatRws
import Derived.Deep.MidRow
import Derived.WalkKit
import Derived.Test.YtlebblmlbhnppaaGreatJ32
namespace Go.Proofs.YtlebblmlbhnppaaGreat
open Go.RowKit Go.PlainAid Go.Proofs.YtlebblmlbhnppaaGreat.Bt Go.Sort
set_option linter.unusedVariables false
set_option maxRecDepth 20000
/-- How much a list holds. -/
def szL {α : Type} (wt : α → Int) (xs : List α) : Int := xs.foldr (fun r n => wt r + n) 0
section Sz
variable {α : Type} {wt : α → Int}
theorem szL_cons (r : α) (xs : List α) : szL wt (r :: xs) = wt r + szL wt xs := rfl
theorem szL_nonneg (h0 : ∀ x, 0 ≤ wt x) : ∀ xs : List α, 0 ≤ szL wt xs
  | [] => Int.le_refl _
  | r :: xs => by have := szL_nonneg h0 xs; have := h0 r; rw [szL_cons]; omega
theorem szL_mem (h0 : ∀ x, 0 ≤ wt x) : ∀ (xs : List α) (r : α), r ∈ xs → wt r ≤ szL wt xs
  | [], r, h => by simp at h
  | x :: xs, r, h => by
    rw [szL_cons]
    rcases List.mem_cons.1 h with rfl | h
    · have := szL_nonneg h0 xs; omega
    · have := szL_mem h0 xs r h; have := h0 x; omega
theorem szL_step : ∀ (xs : List α) (k : Nat) (r : α), xs[k]? = some r → szL wt (xs.take (k + 1)) = szL wt (xs.take k) + wt r
  | [], k, r, h => by simp at h
  | x :: xs, 0, r, h => by
    simp at h
    subst h
    simp [szL]
  | x :: xs, k + 1, r, h => by
    have := szL_step xs k r (by simpa using h)
    rw [List.take_succ_cons, List.take_succ_cons, szL_cons, szL_cons, this]
    omega
end Sz
theorem rw_off {α : Type} {R : World → α → List Value → Prop} {K : Nat} {w : World} {a : Option Addr} {xs : List α} (h : Rw R K w a xs) (hR : ∀ w w' x vs, R w x vs → R w' x vs) {p : Addr} (hp : ∀ b off, a = some ⟨b, off, none⟩ → b ≠ p.block) (v : Value) : Rw R K (w.setCell p v) a xs := by
  intro h0
  obtain ⟨b, off, rfl, hlt, hc⟩ := h h0
  refine ⟨b, off, rfl, by simpa using hlt, fun i x hx => ?_⟩
  obtain ⟨vs, h1, h2, h3⟩ := hc i x hx
  refine ⟨vs, h1, hR _ _ _ _ h2, fun j u hu => ?_⟩
  rw [World.cell?_of_block (w := w) (Below.heap_setCell w p v b (hp b off rfl))]
  exact h3 j u hu

def wtUser (u : UserV) : Int := (u.nm.size : Int) + (u.sa.size : Int) + (u.ha.size : Int) + (u.ro.size : Int)
theorem wtUser_nn (u : UserV) : 0 ≤ wtUser u := by unfold wtUser; omega
set_option maxHeartbeats 1000000 in
theorem szUser_any (nm : ByteArray) (sa : ByteArray) (ha : ByteArray) (ro : ByteArray) (bl : Int) (lg : Int) (l : Int) (w : World) (hnm : nm.size ≤ 9223372036854775807) (hsa : sa.size ≤ 9223372036854775807) (hha : ha.size ≤ 9223372036854775807) (hro : ro.size ≤ 9223372036854775807) (h0 : 0 ≤ l) (h1 : l ≤ 1048576) :
    Calls Tryz.prog 105 #[.agg #[.string nm, .string sa, .string ha, .string ro, .int .i64 bl, .int .i64 lg], .int .i64 l] w fun e w' => ∃ r : Int, e = .returned (.int .i64 r) ∧ (0 ≤ r → r = l - ((nm.size : Int) + (sa.size : Int) + (ha.size : Int) + (ro.size : Int))) ∧ -1 ≤ r ∧ r ≤ 1048576 ∧ Grw w w' := by
  by_cases hx0 : (nm.size : Int) ≤ l
  rotate_left
  · go_enter Tryz.func105, Tryz.ntmps105
    go_wp2
    go_ret
    exact ⟨-1, rfl, fun h => absurd h (by omega), by omega, by omega, (Grw.refl _).alloc _⟩
  by_cases hx1 : (sa.size : Int) ≤ l - nm.size
  rotate_left
  · go_enter Tryz.func105, Tryz.ntmps105
    go_wp2
    go_ret
    exact ⟨-1, rfl, fun h => absurd h (by omega), by omega, by omega, (Grw.refl _).alloc _⟩
  by_cases hx2 : (ha.size : Int) ≤ l - nm.size - sa.size
  rotate_left
  · go_enter Tryz.func105, Tryz.ntmps105
    go_wp2
    go_ret
    exact ⟨-1, rfl, fun h => absurd h (by omega), by omega, by omega, (Grw.refl _).alloc _⟩
  by_cases hx3 : (ro.size : Int) ≤ l - nm.size - sa.size - ha.size
  rotate_left
  · go_enter Tryz.func105, Tryz.ntmps105
    go_wp2
    go_ret
    exact ⟨-1, rfl, fun h => absurd h (by omega), by omega, by omega, (Grw.refl _).alloc _⟩
  go_enter Tryz.func105, Tryz.ntmps105
  go_wp2
  go_ret
  exact ⟨_, rfl, fun _ => by omega, by omega, by omega, (Grw.refl _).alloc _⟩

set_option maxHeartbeats 2000000 in
theorem szUserS_any (a : Option Addr) (len cap : Nat) (xs : List UserV) (l : Int) (w : World) (h : Rw UsR 6 w a xs) (hl : xs.length = len) (hlm : len ≤ 9223372036854775807) (h0 : 0 ≤ l) (h1 : l ≤ 1048576) :
    Calls Tryz.prog 36 #[.slice a len cap, .int .i64 l] w fun e w' => ∃ r : Int, e = .returned (.int .i64 r) ∧ (0 ≤ r → r = l - len - szL wtUser xs) ∧ -1 ≤ r ∧ r ≤ 1048576 ∧ Grw w w' := by
  have RW : Hid (Rw UsR 6 w a xs) := h
  clear h
  by_cases hle : (len : Int) ≤ l
  rotate_left
  · go_enter Tryz.func36, Tryz.ntmps36
    go_wp2
    go_ret
    exact ⟨-1, rfl, fun h => absurd h (by omega), by omega, by omega, Grw.refl _⟩
  go_enter Tryz.func36, Tryz.ntmps36
  go_wp2
  go_loopw [1, 5] (fun p x wr => ∃ (k : Nat) (r : Int), k ≤ len ∧ x = .int .i64 k ∧ p = .int .i64 r ∧ 0 ≤ r ∧ r ≤ 1048576 ∧ Hid (r = l - len - szL wtUser (xs.take k)) ∧ Hid (Grw w wr)) (fun _ x _ => len - (intOf x).toNat)
  case atStart => exact ⟨0, l - len, Nat.zero_le _, rfl, rfl, by omega, by omega, by show l - len = l - len - 0; omega, Grw.refl _⟩
  case round =>
    obtain ⟨k, r, hk, rfl, rfl, hr0, hr1, HR, HG⟩ := hrel
    by_cases hlt : k < len
    · obtain ⟨x, hx⟩ := at_of hl hlt
      obtain ⟨b, off, vs, rfl, hb, hvl, hR, hc⟩ := RW.out.at UsR.kp HG.out.below hx
      have HS : Hid (szL wtUser (xs.take (k + 1)) = szL wtUser (xs.take k) + wtUser x) := szL_step xs k x hx
      obtain ⟨nm, sa, ha, ro, bl, lg⟩ := x
      obtain ⟨rfl, hok⟩ := hR
      have q0 : wr.cell? ⟨b, off + k * 6, none⟩ = some (.string nm) := hc 0 _ rfl
      have q1 : wr.cell? ⟨b, off + k * 6 + 1, none⟩ = some (.string sa) := hc 1 _ rfl
      have q2 : wr.cell? ⟨b, off + k * 6 + 2, none⟩ = some (.string ha) := hc 2 _ rfl
      have q3 : wr.cell? ⟨b, off + k * 6 + 3, none⟩ = some (.string ro) := hc 3 _ rfl
      have q4 : wr.cell? ⟨b, off + k * 6 + 4, none⟩ = some (.int .i64 bl) := hc 4 _ rfl
      have q5 : wr.cell? ⟨b, off + k * 6 + 5, none⟩ = some (.int .i64 lg) := hc 5 _ rfl
      have HN : Hid (∀ w, Calls Tryz.prog 105 #[.agg #[.string nm, .string sa, .string ha, .string ro, .int .i64 bl, .int .i64 lg], .int .i64 r] w fun e w' => ∃ r' : Int, e = .returned (.int .i64 r') ∧ (0 ≤ r' → r' = r - ((nm.size : Int) + (sa.size : Int) + (ha.size : Int) + (ro.size : Int))) ∧ -1 ≤ r' ∧ r' ≤ 1048576 ∧ Grw w w') := fun w => by
        unfold UsRok maxLen at hok; dsimp only at hok
        exact szUser_any nm sa ha ro bl lg r w (by omega) (by omega) (by omega) (by omega) hr0 hr1
      have hltz : (k : Int) < (len : Int) := by omega
      clear hc hvl hx hok
      go_wp2_with fail
      refine (HN.out _).mono ?_
      rintro e w1 ⟨r', rfl, hr', hr2, hr3, g1⟩
      have HG1 : Hid (Grw w w1) := HG.out.trans g1
      clear q0 q1 q2 q3 q4 q5 HN g1 HG
      by_cases hneg : r' < 0
      · go_wp2
        go_ret
        exact ⟨-1, rfl, fun h => absurd h (by omega), by omega, by omega, HG1.out⟩
      · have HR' : Hid (r' = l - len - szL wtUser (xs.take (k + 1))) := by
          have e1 := HR.out
          have e2 : szL wtUser (xs.take (k + 1)) = szL wtUser (xs.take k) + ((nm.size : Int) + (sa.size : Int) + (ha.size : Int) + (ro.size : Int)) := HS.out
          have e3 := hr' (by omega)
          show r' = _
          rw [e2]
          omega
        clear HR HS hr'
        go_wp2
        go_roundw
        case rel => exact ⟨k + 1, r', by omega, by go_num, rfl, by omega, hr3, HR', HG1⟩
        case measure => simp [intOf]; omega
    · obtain rfl : k = len := by omega
      have hfin : Hid (r = l - k - szL wtUser xs) := by
        have e1 := HR.out
        rw [List.take_of_length_le (by omega)] at e1
        exact e1
      go_wp2
      go_ret
      exact ⟨r, rfl, fun _ => hfin.out, by omega, hr1, HG.out⟩

def wtSession (u : SessV) : Int := (u.mc.size : Int)
theorem wtSession_nn (u : SessV) : 0 ≤ wtSession u := by unfold wtSession; omega
set_option maxHeartbeats 1000000 in
theorem szSession_any (id : Int) (us : Int) (mc : ByteArray) (ip : Int) (be : Int) (la : Int) (ud : Int) (qu : Int) (un : Int) (il : Int) (l : Int) (w : World) (hmc : mc.size ≤ 9223372036854775807) (h0 : 0 ≤ l) (h1 : l ≤ 1048576) :
    Calls Tryz.prog 106 #[.agg #[.int .i64 id, .int .i64 us, .string mc, .int .i64 ip, .int .i64 be, .int .i64 la, .int .i64 ud, .int .i64 qu, .int .i64 un, .int .i64 il], .int .i64 l] w fun e w' => ∃ r : Int, e = .returned (.int .i64 r) ∧ (0 ≤ r → r = l - ((mc.size : Int))) ∧ -1 ≤ r ∧ r ≤ 1048576 ∧ Grw w w' := by
  by_cases hx0 : (mc.size : Int) ≤ l
  rotate_left
  · go_enter Tryz.func106, Tryz.ntmps106
    go_wp2
    go_ret
    exact ⟨-1, rfl, fun h => absurd h (by omega), by omega, by omega, (Grw.refl _).alloc _⟩
  go_enter Tryz.func106, Tryz.ntmps106
  go_wp2
  go_ret
  exact ⟨_, rfl, fun _ => by omega, by omega, by omega, (Grw.refl _).alloc _⟩

set_option maxHeartbeats 2000000 in
theorem szSessionS_any (a : Option Addr) (len cap : Nat) (xs : List SessV) (l : Int) (w : World) (h : Rw SeR 10 w a xs) (hl : xs.length = len) (hlm : len ≤ 9223372036854775807) (h0 : 0 ≤ l) (h1 : l ≤ 1048576) :
    Calls Tryz.prog 37 #[.slice a len cap, .int .i64 l] w fun e w' => ∃ r : Int, e = .returned (.int .i64 r) ∧ (0 ≤ r → r = l - len - szL wtSession xs) ∧ -1 ≤ r ∧ r ≤ 1048576 ∧ Grw w w' := by
  have RW : Hid (Rw SeR 10 w a xs) := h
  clear h
  by_cases hle : (len : Int) ≤ l
  rotate_left
  · go_enter Tryz.func37, Tryz.ntmps37
    go_wp2
    go_ret
    exact ⟨-1, rfl, fun h => absurd h (by omega), by omega, by omega, Grw.refl _⟩
  go_enter Tryz.func37, Tryz.ntmps37
  go_wp2
  go_loopw [1, 5] (fun p x wr => ∃ (k : Nat) (r : Int), k ≤ len ∧ x = .int .i64 k ∧ p = .int .i64 r ∧ 0 ≤ r ∧ r ≤ 1048576 ∧ Hid (r = l - len - szL wtSession (xs.take k)) ∧ Hid (Grw w wr)) (fun _ x _ => len - (intOf x).toNat)
  case atStart => exact ⟨0, l - len, Nat.zero_le _, rfl, rfl, by omega, by omega, by show l - len = l - len - 0; omega, Grw.refl _⟩
  case round =>
    obtain ⟨k, r, hk, rfl, rfl, hr0, hr1, HR, HG⟩ := hrel
    by_cases hlt : k < len
    · obtain ⟨x, hx⟩ := at_of hl hlt
      obtain ⟨b, off, vs, rfl, hb, hvl, hR, hc⟩ := RW.out.at SeR.kp HG.out.below hx
      have HS : Hid (szL wtSession (xs.take (k + 1)) = szL wtSession (xs.take k) + wtSession x) := szL_step xs k x hx
      obtain ⟨id, us, mc, ip, be, la, ud, qu, un, il⟩ := x
      obtain ⟨rfl, hok⟩ := hR
      have q0 : wr.cell? ⟨b, off + k * 10, none⟩ = some (.int .i64 id) := hc 0 _ rfl
      have q1 : wr.cell? ⟨b, off + k * 10 + 1, none⟩ = some (.int .i64 us) := hc 1 _ rfl
      have q2 : wr.cell? ⟨b, off + k * 10 + 2, none⟩ = some (.string mc) := hc 2 _ rfl
      have q3 : wr.cell? ⟨b, off + k * 10 + 3, none⟩ = some (.int .i64 ip) := hc 3 _ rfl
      have q4 : wr.cell? ⟨b, off + k * 10 + 4, none⟩ = some (.int .i64 be) := hc 4 _ rfl
      have q5 : wr.cell? ⟨b, off + k * 10 + 5, none⟩ = some (.int .i64 la) := hc 5 _ rfl
      have q6 : wr.cell? ⟨b, off + k * 10 + 6, none⟩ = some (.int .i64 ud) := hc 6 _ rfl
      have q7 : wr.cell? ⟨b, off + k * 10 + 7, none⟩ = some (.int .i64 qu) := hc 7 _ rfl
      have q8 : wr.cell? ⟨b, off + k * 10 + 8, none⟩ = some (.int .i64 un) := hc 8 _ rfl
      have q9 : wr.cell? ⟨b, off + k * 10 + 9, none⟩ = some (.int .i64 il) := hc 9 _ rfl
      have HN : Hid (∀ w, Calls Tryz.prog 106 #[.agg #[.int .i64 id, .int .i64 us, .string mc, .int .i64 ip, .int .i64 be, .int .i64 la, .int .i64 ud, .int .i64 qu, .int .i64 un, .int .i64 il], .int .i64 r] w fun e w' => ∃ r' : Int, e = .returned (.int .i64 r') ∧ (0 ≤ r' → r' = r - ((mc.size : Int))) ∧ -1 ≤ r' ∧ r' ≤ 1048576 ∧ Grw w w') := fun w => by
        unfold SeRok maxLen at hok; dsimp only at hok
        exact szSession_any id us mc ip be la ud qu un il r w (by omega) hr0 hr1
      have hltz : (k : Int) < (len : Int) := by omega
      clear hc hvl hx hok
      go_wp2_with fail
      refine (HN.out _).mono ?_
      rintro e w1 ⟨r', rfl, hr', hr2, hr3, g1⟩
      have HG1 : Hid (Grw w w1) := HG.out.trans g1
      clear q0 q1 q2 q3 q4 q5 q6 q7 q8 q9 HN g1 HG
      by_cases hneg : r' < 0
      · go_wp2
        go_ret
        exact ⟨-1, rfl, fun h => absurd h (by omega), by omega, by omega, HG1.out⟩
      · have HR' : Hid (r' = l - len - szL wtSession (xs.take (k + 1))) := by
          have e1 := HR.out
          have e2 : szL wtSession (xs.take (k + 1)) = szL wtSession (xs.take k) + ((mc.size : Int)) := HS.out
          have e3 := hr' (by omega)
          show r' = _
          rw [e2]
          omega
        clear HR HS hr'
        go_wp2
        go_roundw
        case rel => exact ⟨k + 1, r', by omega, by go_num, rfl, by omega, hr3, HR', HG1⟩
        case measure => simp [intOf]; omega
    · obtain rfl : k = len := by omega
      have hfin : Hid (r = l - k - szL wtSession xs) := by
        have e1 := HR.out
        rw [List.take_of_length_le (by omega)] at e1
        exact e1
      go_wp2
      go_ret
      exact ⟨r, rfl, fun _ => hfin.out, by omega, hr1, HG.out⟩

def wtFail (u : FailV) : Int := (u.mc.size : Int)
theorem wtFail_nn (u : FailV) : 0 ≤ wtFail u := by unfold wtFail; omega
set_option maxHeartbeats 1000000 in
theorem szFail_any (mc : ByteArray) (ct : Int) (un : Int) (l : Int) (w : World) (hmc : mc.size ≤ 9223372036854775807) (h0 : 0 ≤ l) (h1 : l ≤ 1048576) :
    Calls Tryz.prog 107 #[.agg #[.string mc, .int .i64 ct, .int .i64 un], .int .i64 l] w fun e w' => ∃ r : Int, e = .returned (.int .i64 r) ∧ (0 ≤ r → r = l - ((mc.size : Int))) ∧ -1 ≤ r ∧ r ≤ 1048576 ∧ Grw w w' := by
  by_cases hx0 : (mc.size : Int) ≤ l
  rotate_left
  · go_enter Tryz.func107, Tryz.ntmps107
    go_wp2
    go_ret
    exact ⟨-1, rfl, fun h => absurd h (by omega), by omega, by omega, (Grw.refl _).alloc _⟩
  go_enter Tryz.func107, Tryz.ntmps107
  go_wp2
  go_ret
  exact ⟨_, rfl, fun _ => by omega, by omega, by omega, (Grw.refl _).alloc _⟩

set_option maxHeartbeats 2000000 in
theorem szFailS_any (a : Option Addr) (len cap : Nat) (xs : List FailV) (l : Int) (w : World) (h : Rw FaR 3 w a xs) (hl : xs.length = len) (hlm : len ≤ 9223372036854775807) (h0 : 0 ≤ l) (h1 : l ≤ 1048576) :
    Calls Tryz.prog 38 #[.slice a len cap, .int .i64 l] w fun e w' => ∃ r : Int, e = .returned (.int .i64 r) ∧ (0 ≤ r → r = l - len - szL wtFail xs) ∧ -1 ≤ r ∧ r ≤ 1048576 ∧ Grw w w' := by
  have RW : Hid (Rw FaR 3 w a xs) := h
  clear h
  by_cases hle : (len : Int) ≤ l
  rotate_left
  · go_enter Tryz.func38, Tryz.ntmps38
    go_wp2
    go_ret
    exact ⟨-1, rfl, fun h => absurd h (by omega), by omega, by omega, Grw.refl _⟩
  go_enter Tryz.func38, Tryz.ntmps38
  go_wp2
  go_loopw [1, 5] (fun p x wr => ∃ (k : Nat) (r : Int), k ≤ len ∧ x = .int .i64 k ∧ p = .int .i64 r ∧ 0 ≤ r ∧ r ≤ 1048576 ∧ Hid (r = l - len - szL wtFail (xs.take k)) ∧ Hid (Grw w wr)) (fun _ x _ => len - (intOf x).toNat)
  case atStart => exact ⟨0, l - len, Nat.zero_le _, rfl, rfl, by omega, by omega, by show l - len = l - len - 0; omega, Grw.refl _⟩
  case round =>
    obtain ⟨k, r, hk, rfl, rfl, hr0, hr1, HR, HG⟩ := hrel
    by_cases hlt : k < len
    · obtain ⟨x, hx⟩ := at_of hl hlt
      obtain ⟨b, off, vs, rfl, hb, hvl, hR, hc⟩ := RW.out.at FaR.kp HG.out.below hx
      have HS : Hid (szL wtFail (xs.take (k + 1)) = szL wtFail (xs.take k) + wtFail x) := szL_step xs k x hx
      obtain ⟨mc, ct, un⟩ := x
      obtain ⟨rfl, hok⟩ := hR
      have q0 : wr.cell? ⟨b, off + k * 3, none⟩ = some (.string mc) := hc 0 _ rfl
      have q1 : wr.cell? ⟨b, off + k * 3 + 1, none⟩ = some (.int .i64 ct) := hc 1 _ rfl
      have q2 : wr.cell? ⟨b, off + k * 3 + 2, none⟩ = some (.int .i64 un) := hc 2 _ rfl
      have HN : Hid (∀ w, Calls Tryz.prog 107 #[.agg #[.string mc, .int .i64 ct, .int .i64 un], .int .i64 r] w fun e w' => ∃ r' : Int, e = .returned (.int .i64 r') ∧ (0 ≤ r' → r' = r - ((mc.size : Int))) ∧ -1 ≤ r' ∧ r' ≤ 1048576 ∧ Grw w w') := fun w => by
        unfold FaRok maxLen at hok; dsimp only at hok
        exact szFail_any mc ct un r w (by omega) hr0 hr1
      have hltz : (k : Int) < (len : Int) := by omega
      clear hc hvl hx hok
      go_wp2_with fail
      refine (HN.out _).mono ?_
      rintro e w1 ⟨r', rfl, hr', hr2, hr3, g1⟩
      have HG1 : Hid (Grw w w1) := HG.out.trans g1
      clear q0 q1 q2 HN g1 HG
      by_cases hneg : r' < 0
      · go_wp2
        go_ret
        exact ⟨-1, rfl, fun h => absurd h (by omega), by omega, by omega, HG1.out⟩
      · have HR' : Hid (r' = l - len - szL wtFail (xs.take (k + 1))) := by
          have e1 := HR.out
          have e2 : szL wtFail (xs.take (k + 1)) = szL wtFail (xs.take k) + ((mc.size : Int)) := HS.out
          have e3 := hr' (by omega)
          show r' = _
          rw [e2]
          omega
        clear HR HS hr'
        go_wp2
        go_roundw
        case rel => exact ⟨k + 1, r', by omega, by go_num, rfl, by omega, hr3, HR', HG1⟩
        case measure => simp [intOf]; omega
    · obtain rfl : k = len := by omega
      have hfin : Hid (r = l - k - szL wtFail xs) := by
        have e1 := HR.out
        rw [List.take_of_length_le (by omega)] at e1
        exact e1
      go_wp2
      go_ret
      exact ⟨r, rfl, fun _ => hfin.out, by omega, hr1, HG.out⟩

set_option maxHeartbeats 4000000 in
theorem szGuests_any (ua sa fa ra : Option Addr) (ul uc sl sc fl fc rl rc : Nat) (us : List UserV) (ss : List SessV) (fs : List FailV) (rs : List RecV) (nx : Int) (l : Int) (w : World) (hu : Rw UsR 6 w ua us) (lu : us.length = ul) (hs : Rw SeR 10 w sa ss) (ls : ss.length = sl) (hf : Rw FaR 3 w fa fs) (lf : fs.length = fl) (hr : Rw ReR 5 w ra rs) (lr : rs.length = rl) (bu : ul ≤ 9223372036854775807) (bs : sl ≤ 9223372036854775807) (bf : fl ≤ 9223372036854775807) (br : rl ≤ 9223372036854775807) (h0 : 0 ≤ l) (h1 : l ≤ 1048576) :
    Calls Tryz.prog 9 #[.agg #[.slice ua ul uc, .slice sa sl sc, .slice fa fl fc, .slice ra rl rc, .int .i64 nx], .int .i64 l] w fun e w' => ∃ r : Int, e = .returned (.int .i64 r) ∧ (0 ≤ r → ((ul : Int) + szL wtUser us + sl + szL wtSession ss + fl + szL wtFail fs + rl) ≤ l) ∧ -1 ≤ r ∧ r ≤ 1048576 ∧ Grw w w' := by
  have Ru : Hid (Rw UsR 6 w ua us) := hu
  have Rs : Hid (Rw SeR 10 w sa ss) := hs
  have Rf : Hid (Rw FaR 3 w fa fs) := hf
  have Rr : Hid (Rw ReR 5 w ra rs) := hr
  clear hu hs hf hr
  have Hu : Hid (∀ (l : Int) w, Rw UsR 6 w ua us → 0 ≤ l → l ≤ 1048576 → Calls Tryz.prog 36 #[.slice ua ul uc, .int .i64 l] w fun e w' => ∃ r : Int, e = .returned (.int .i64 r) ∧ (0 ≤ r → r = l - ul - szL wtUser us) ∧ -1 ≤ r ∧ r ≤ 1048576 ∧ Grw w w') := fun l w h h0 h1 => szUserS_any ua ul uc us l w h lu bu h0 h1
  have Hs : Hid (∀ (l : Int) w, Rw SeR 10 w sa ss → 0 ≤ l → l ≤ 1048576 → Calls Tryz.prog 37 #[.slice sa sl sc, .int .i64 l] w fun e w' => ∃ r : Int, e = .returned (.int .i64 r) ∧ (0 ≤ r → r = l - sl - szL wtSession ss) ∧ -1 ≤ r ∧ r ≤ 1048576 ∧ Grw w w') := fun l w h h0 h1 => szSessionS_any sa sl sc ss l w h ls bs h0 h1
  have Hf : Hid (∀ (l : Int) w, Rw FaR 3 w fa fs → 0 ≤ l → l ≤ 1048576 → Calls Tryz.prog 38 #[.slice fa fl fc, .int .i64 l] w fun e w' => ∃ r : Int, e = .returned (.int .i64 r) ∧ (0 ≤ r → r = l - fl - szL wtFail fs) ∧ -1 ≤ r ∧ r ≤ 1048576 ∧ Grw w w') := fun l w h h0 h1 => szFailS_any fa fl fc fs l w h lf bf h0 h1
  have Hr : Hid (∀ (l : Int) w, 0 ≤ l → l ≤ 1048576 → Calls Tryz.prog 39 #[.slice ra rl rc, .int .i64 l] w fun e w' => ∃ r : Int, e = .returned (.int .i64 r) ∧ (0 ≤ r → (rl : Int) ≤ l) ∧ -1 ≤ r ∧ r ≤ 1048576 ∧ w' = w) := fun l w h0 h1 => szRecordS_any ra rl rc l w br h0 h1
  go_enter Tryz.func9, Tryz.ntmps9
  go_wp2_with fail
  refine (Hu.out l _ (Ru.out.keep UsR.kp ((Grw.refl w).alloc _).below) (by omega) (by omega)).mono ?_
  rintro e w0 ⟨r0, rfl, hr0, hn0, hm0, g0⟩
  have BX0 : Hid (Grw w w0) := ((Grw.refl w).alloc _).trans g0
  have c0_0 : w0.cell? ⟨w.heap.size, 0, none⟩ = some (.slice ua ul uc) := g0.keep (a := ⟨w.heap.size, 0, none⟩) (v := .slice ua ul uc) (by simp [go_sem])
  have c0_1 : w0.cell? ⟨w.heap.size, 1, none⟩ = some (.slice sa sl sc) := g0.keep (a := ⟨w.heap.size, 1, none⟩) (v := .slice sa sl sc) (by simp [go_sem])
  have c0_2 : w0.cell? ⟨w.heap.size, 2, none⟩ = some (.slice fa fl fc) := g0.keep (a := ⟨w.heap.size, 2, none⟩) (v := .slice fa fl fc) (by simp [go_sem])
  have c0_3 : w0.cell? ⟨w.heap.size, 3, none⟩ = some (.slice ra rl rc) := g0.keep (a := ⟨w.heap.size, 3, none⟩) (v := .slice ra rl rc) (by simp [go_sem])
  have c0_4 : w0.cell? ⟨w.heap.size, 4, none⟩ = some (.int .i64 nx) := g0.keep (a := ⟨w.heap.size, 4, none⟩) (v := .int .i64 nx) (by simp [go_sem])
  clear g0
  by_cases hz0 : r0 < 0
  · go_wp2
    go_ret
    exact ⟨-1, rfl, fun h => absurd h (by omega), by omega, by omega, BX0.out⟩
  have E0 : Hid (r0 = l - ul - szL wtUser us) := hr0 (by omega)
  clear hr0
  go_wp2_with fail
  refine (Hs.out r0 _ (Rs.out.keep SeR.kp BX0.out.below) (by omega) (by omega)).mono ?_
  rintro e w1 ⟨r1, rfl, hr1, hn1, hm1, g1⟩
  have BX1 : Hid (Grw w w1) := BX0.out.trans g1
  have c1_0 := g1.keep c0_0
  have c1_1 := g1.keep c0_1
  have c1_2 := g1.keep c0_2
  have c1_3 := g1.keep c0_3
  have c1_4 := g1.keep c0_4
  clear g1 c0_0 c0_1 c0_2 c0_3 c0_4 BX0
  by_cases hz1 : r1 < 0
  · go_wp2
    go_ret
    exact ⟨-1, rfl, fun h => absurd h (by omega), by omega, by omega, BX1.out⟩
  have E1 : Hid (r1 = r0 - sl - szL wtSession ss) := hr1 (by omega)
  clear hr1
  go_wp2_with fail
  refine (Hf.out r1 _ (Rf.out.keep FaR.kp BX1.out.below) (by omega) (by omega)).mono ?_
  rintro e w2 ⟨r2, rfl, hr2, hn2, hm2, g2⟩
  have BX2 : Hid (Grw w w2) := BX1.out.trans g2
  have c2_0 := g2.keep c1_0
  have c2_1 := g2.keep c1_1
  have c2_2 := g2.keep c1_2
  have c2_3 := g2.keep c1_3
  have c2_4 := g2.keep c1_4
  clear g2 c1_0 c1_1 c1_2 c1_3 c1_4 BX1
  by_cases hz2 : r2 < 0
  · go_wp2
    go_ret
    exact ⟨-1, rfl, fun h => absurd h (by omega), by omega, by omega, BX2.out⟩
  have E2 : Hid (r2 = r1 - fl - szL wtFail fs) := hr2 (by omega)
  clear hr2
  go_wp2_with fail
  refine (Hr.out r2 _ (by omega) (by omega)).mono ?_
  rintro e w3 ⟨r3, rfl, hr3, hn3, hm3, rfl⟩
  by_cases hz3 : r3 < 0
  · go_wp2
    go_ret
    exact ⟨-1, rfl, fun h => absurd h (by omega), by omega, by omega, BX2.out⟩
  have E3 : Hid (((ul : Int) + szL wtUser us + sl + szL wtSession ss + fl + szL wtFail fs + rl) ≤ l) := by
    have a := hr3 (by omega)
    have b := E0.out
    have c := E1.out
    have d := E2.out
    show ((ul : Int) + szL wtUser us + sl + szL wtSession ss + fl + szL wtFail fs + rl) ≤ l
    omega
  clear hr3
  go_wp2
  go_ret
  exact ⟨r3, rfl, fun _ => E3.out, by omega, hm3, BX2.out⟩

set_option maxHeartbeats 4000000 in
theorem toGuests_any (ua sa fa ra : Option Addr) (ul uc sl sc fl fc rl rc : Nat) (us : List UserV) (ss : List SessV) (fs : List FailV) (rs : List RecV) (nx : Int) (w : World) (hu : Rw UsR 6 w ua us) (lu : us.length = ul) (hs : Rw SeR 10 w sa ss) (ls : ss.length = sl) (hf : Rw FaR 3 w fa fs) (lf : fs.length = fl) (hr : Rw ReR 5 w ra rs) (lr : rs.length = rl) (mu : ul ≤ 1048576) (ms : sl ≤ 1048576) (mf : fl ≤ 1048576) (mr : rl ≤ 1048576) :
    Calls Tryz.prog 12 #[.agg #[.slice ua ul uc, .slice sa sl sc, .slice fa fl fc, .slice ra rl rc, .int .i64 nx]] w fun e w' => ∃ bu bs bf br : Nat, e = .returned (.agg #[.slice (some ⟨bu, 0, none⟩) ul ul, .slice (some ⟨bs, 0, none⟩) sl sl, .slice (some ⟨bf, 0, none⟩) fl fl, .slice (some ⟨br, 0, none⟩) rl rl, .int .i64 nx]) ∧ (w.heap.size ≤ bu ∧ bu < bs ∧ bs < bf ∧ bf < br) ∧ (Rw UsR 6 w' (some ⟨bu, 0, none⟩) us ∧ Rw SeR 10 w' (some ⟨bs, 0, none⟩) ss ∧ Rw FaR 3 w' (some ⟨bf, 0, none⟩) fs ∧ Rw ReR 5 w' (some ⟨br, 0, none⟩) rs) ∧ Below w.heap.size w w' := by
  have Ru : Hid (Rw UsR 6 w ua us) := hu
  have Rs : Hid (Rw SeR 10 w sa ss) := hs
  have Rf : Hid (Rw FaR 3 w fa fs) := hf
  have Rr : Hid (Rw ReR 5 w ra rs) := hr
  have Hu : Hid (∀ w, Rw UsR 6 w ua us → Calls Tryz.prog 45 #[.slice ua ul uc] w fun e w' => e = .returned (.slice (some ⟨w.heap.size, 0, none⟩) ul ul) ∧ Rw UsR 6 w' (some ⟨w.heap.size, 0, none⟩) us ∧ w.heap.size < w'.heap.size ∧ Below w.heap.size w w') := fun w h => toUserS_any ua ul uc us w h lu mu
  have Hs : Hid (∀ w, Rw SeR 10 w sa ss → Calls Tryz.prog 46 #[.slice sa sl sc] w fun e w' => e = .returned (.slice (some ⟨w.heap.size, 0, none⟩) sl sl) ∧ Rw SeR 10 w' (some ⟨w.heap.size, 0, none⟩) ss ∧ w.heap.size < w'.heap.size ∧ Below w.heap.size w w') := fun w h => toSessionS_any sa sl sc ss w h ls ms
  have Hf : Hid (∀ w, Rw FaR 3 w fa fs → Calls Tryz.prog 47 #[.slice fa fl fc] w fun e w' => e = .returned (.slice (some ⟨w.heap.size, 0, none⟩) fl fl) ∧ Rw FaR 3 w' (some ⟨w.heap.size, 0, none⟩) fs ∧ w.heap.size < w'.heap.size ∧ Below w.heap.size w w') := fun w h => toFailS_any fa fl fc fs w h lf mf
  have Hr : Hid (∀ w, Rw ReR 5 w ra rs → Calls Tryz.prog 48 #[.slice ra rl rc] w fun e w' => e = .returned (.slice (some ⟨w.heap.size, 0, none⟩) rl rl) ∧ Rw ReR 5 w' (some ⟨w.heap.size, 0, none⟩) rs ∧ w.heap.size < w'.heap.size ∧ Below w.heap.size w w') := fun w h => toRecordS_any ra rl rc rs w h lr mr
  clear hu hs hf hr
  go_enter Tryz.func12, Tryz.ntmps12
  go_wp2_with fail
  refine (Hu.out _ (Ru.out.keep UsR.kp ((((Below.refl w.heap.size w).alloc (by simp <;> omega) _).alloc (by simp <;> omega) _).alloc (by simp <;> omega) _))).mono ?_
  rintro e wx1 ⟨rfl, hp, hz, bx⟩
  have c1_0_0 : wx1.cell? ⟨w.heap.size, 0, none⟩ = some (.slice ua ul uc) := bkeep bx (by simp [go_sem])
  have c1_0_1 : wx1.cell? ⟨w.heap.size, 1, none⟩ = some (.slice sa sl sc) := bkeep bx (by simp [go_sem])
  have c1_0_2 : wx1.cell? ⟨w.heap.size, 2, none⟩ = some (.slice fa fl fc) := bkeep bx (by simp [go_sem])
  have c1_0_3 : wx1.cell? ⟨w.heap.size, 3, none⟩ = some (.slice ra rl rc) := bkeep bx (by simp [go_sem])
  have c1_0_4 : wx1.cell? ⟨w.heap.size, 4, none⟩ = some (.int .i64 nx) := bkeep bx (by simp [go_sem])
  have c1_1_0 : wx1.cell? ⟨w.heap.size + 1, 0, none⟩ = some (.slice none 0 0) := bkeep bx (by simp [go_sem])
  have f1_1_0 : wx1.frozen? ⟨w.heap.size + 1, 0, none⟩ = false := bthaw bx (v := .slice none 0 0) (by simp [go_sem]) (by simp [go_sem])
  have c1_1_1 : wx1.cell? ⟨w.heap.size + 1, 1, none⟩ = some (.slice none 0 0) := bkeep bx (by simp [go_sem])
  have f1_1_1 : wx1.frozen? ⟨w.heap.size + 1, 1, none⟩ = false := bthaw bx (v := .slice none 0 0) (by simp [go_sem]) (by simp [go_sem])
  have c1_1_2 : wx1.cell? ⟨w.heap.size + 1, 2, none⟩ = some (.slice none 0 0) := bkeep bx (by simp [go_sem])
  have f1_1_2 : wx1.frozen? ⟨w.heap.size + 1, 2, none⟩ = false := bthaw bx (v := .slice none 0 0) (by simp [go_sem]) (by simp [go_sem])
  have c1_1_3 : wx1.cell? ⟨w.heap.size + 1, 3, none⟩ = some (.slice none 0 0) := bkeep bx (by simp [go_sem])
  have f1_1_3 : wx1.frozen? ⟨w.heap.size + 1, 3, none⟩ = false := bthaw bx (v := .slice none 0 0) (by simp [go_sem]) (by simp [go_sem])
  have c1_1_4 : wx1.cell? ⟨w.heap.size + 1, 4, none⟩ = some (.int .i64 0) := bkeep bx (by simp [go_sem])
  have f1_1_4 : wx1.frozen? ⟨w.heap.size + 1, 4, none⟩ = false := bthaw bx (v := .int .i64 0) (by simp [go_sem]) (by simp [go_sem])
  have c1_2_0 : wx1.cell? ⟨w.heap.size + 1 + 1, 0, none⟩ = some (.slice none 0 0) := bkeep bx (by simp [go_sem])
  have f1_2_0 : wx1.frozen? ⟨w.heap.size + 1 + 1, 0, none⟩ = false := bthaw bx (v := .slice none 0 0) (by simp [go_sem]) (by simp [go_sem])
  have c1_2_1 : wx1.cell? ⟨w.heap.size + 1 + 1, 1, none⟩ = some (.slice none 0 0) := bkeep bx (by simp [go_sem])
  have f1_2_1 : wx1.frozen? ⟨w.heap.size + 1 + 1, 1, none⟩ = false := bthaw bx (v := .slice none 0 0) (by simp [go_sem]) (by simp [go_sem])
  have c1_2_2 : wx1.cell? ⟨w.heap.size + 1 + 1, 2, none⟩ = some (.slice none 0 0) := bkeep bx (by simp [go_sem])
  have f1_2_2 : wx1.frozen? ⟨w.heap.size + 1 + 1, 2, none⟩ = false := bthaw bx (v := .slice none 0 0) (by simp [go_sem]) (by simp [go_sem])
  have c1_2_3 : wx1.cell? ⟨w.heap.size + 1 + 1, 3, none⟩ = some (.slice none 0 0) := bkeep bx (by simp [go_sem])
  have f1_2_3 : wx1.frozen? ⟨w.heap.size + 1 + 1, 3, none⟩ = false := bthaw bx (v := .slice none 0 0) (by simp [go_sem]) (by simp [go_sem])
  have c1_2_4 : wx1.cell? ⟨w.heap.size + 1 + 1, 4, none⟩ = some (.int .i64 0) := bkeep bx (by simp [go_sem])
  have f1_2_4 : wx1.frozen? ⟨w.heap.size + 1 + 1, 4, none⟩ = false := bthaw bx (v := .int .i64 0) (by simp [go_sem]) (by simp [go_sem])
  have BX1 : Hid (Below w.heap.size w wx1) := ((((Below.refl w.heap.size w).alloc (by simp <;> omega) _).alloc (by simp <;> omega) _).alloc (by simp <;> omega) _).trans (bx.mono (by simp <;> omega))
  clear bx
  simp [go_sem] at hp hz
  have P1_0 : Hid (Rw UsR 6 wx1 (some ⟨w.heap.size + 1 + 1 + 1, 0, none⟩) us) := hp
  clear hp
  have L1 : w.heap.size + 1 + 1 < wx1.heap.size := World.block_lt_of_cell? wx1 _ c1_2_0
  have LL1 : w.heap.size + 1 + 1 + 1 < wx1.heap.size := hz
  clear hz
  replace P1_0 : Hid (Rw UsR 6 (wx1.setCell ⟨w.heap.size + 1 + 1, 0, none⟩ (.slice (some ⟨w.heap.size + 1 + 1 + 1, 0, none⟩) ul ul)) (some ⟨w.heap.size + 1 + 1 + 1, 0, none⟩) us) := rw_off P1_0.out (fun _ _ _ _ h => h) (fun b off e => by cases e; show _ ≠ w.heap.size + 1 + 1; omega) _
  go_wp2_with fail
  refine (Hs.out _ (Rs.out.keep SeR.kp (BX1.out.setCell (p := ⟨w.heap.size + 1 + 1, _, _⟩) (by show w.heap.size ≤ w.heap.size + 1 + 1; omega) _))).mono ?_
  rintro e wx2 ⟨rfl, hp, hz, bx⟩
  have c2_0_0 : wx2.cell? ⟨w.heap.size, 0, none⟩ = some (.slice ua ul uc) := bkeep bx (by first | (simp [go_sem]; done) | simp [go_sem, c1_0_0])
  have c2_0_1 : wx2.cell? ⟨w.heap.size, 1, none⟩ = some (.slice sa sl sc) := bkeep bx (by first | (simp [go_sem]; done) | simp [go_sem, c1_0_1])
  have c2_0_2 : wx2.cell? ⟨w.heap.size, 2, none⟩ = some (.slice fa fl fc) := bkeep bx (by first | (simp [go_sem]; done) | simp [go_sem, c1_0_2])
  have c2_0_3 : wx2.cell? ⟨w.heap.size, 3, none⟩ = some (.slice ra rl rc) := bkeep bx (by first | (simp [go_sem]; done) | simp [go_sem, c1_0_3])
  have c2_0_4 : wx2.cell? ⟨w.heap.size, 4, none⟩ = some (.int .i64 nx) := bkeep bx (by first | (simp [go_sem]; done) | simp [go_sem, c1_0_4])
  have c2_1_0 : wx2.cell? ⟨w.heap.size + 1, 0, none⟩ = some (.slice none 0 0) := bkeep bx (by first | (simp [go_sem]; done) | simp [go_sem, c1_1_0])
  have f2_1_0 : wx2.frozen? ⟨w.heap.size + 1, 0, none⟩ = false := bthaw bx (v := .slice none 0 0) (by first | (simp [go_sem]; done) | simp [go_sem, c1_1_0]) (by first | (simp [go_sem]; done) | simp [go_sem, f1_1_0])
  have c2_1_1 : wx2.cell? ⟨w.heap.size + 1, 1, none⟩ = some (.slice none 0 0) := bkeep bx (by first | (simp [go_sem]; done) | simp [go_sem, c1_1_1])
  have f2_1_1 : wx2.frozen? ⟨w.heap.size + 1, 1, none⟩ = false := bthaw bx (v := .slice none 0 0) (by first | (simp [go_sem]; done) | simp [go_sem, c1_1_1]) (by first | (simp [go_sem]; done) | simp [go_sem, f1_1_1])
  have c2_1_2 : wx2.cell? ⟨w.heap.size + 1, 2, none⟩ = some (.slice none 0 0) := bkeep bx (by first | (simp [go_sem]; done) | simp [go_sem, c1_1_2])
  have f2_1_2 : wx2.frozen? ⟨w.heap.size + 1, 2, none⟩ = false := bthaw bx (v := .slice none 0 0) (by first | (simp [go_sem]; done) | simp [go_sem, c1_1_2]) (by first | (simp [go_sem]; done) | simp [go_sem, f1_1_2])
  have c2_1_3 : wx2.cell? ⟨w.heap.size + 1, 3, none⟩ = some (.slice none 0 0) := bkeep bx (by first | (simp [go_sem]; done) | simp [go_sem, c1_1_3])
  have f2_1_3 : wx2.frozen? ⟨w.heap.size + 1, 3, none⟩ = false := bthaw bx (v := .slice none 0 0) (by first | (simp [go_sem]; done) | simp [go_sem, c1_1_3]) (by first | (simp [go_sem]; done) | simp [go_sem, f1_1_3])
  have c2_1_4 : wx2.cell? ⟨w.heap.size + 1, 4, none⟩ = some (.int .i64 0) := bkeep bx (by first | (simp [go_sem]; done) | simp [go_sem, c1_1_4])
  have f2_1_4 : wx2.frozen? ⟨w.heap.size + 1, 4, none⟩ = false := bthaw bx (v := .int .i64 0) (by first | (simp [go_sem]; done) | simp [go_sem, c1_1_4]) (by first | (simp [go_sem]; done) | simp [go_sem, f1_1_4])
  have c2_2_0 : wx2.cell? ⟨w.heap.size + 1 + 1, 0, none⟩ = some (.slice (some ⟨w.heap.size + 1 + 1 + 1, 0, none⟩) ul ul) := bkeep bx (by first | (simp [go_sem]; done) | simp [go_sem, c1_2_0])
  have f2_2_0 : wx2.frozen? ⟨w.heap.size + 1 + 1, 0, none⟩ = false := bthaw bx (v := .slice (some ⟨w.heap.size + 1 + 1 + 1, 0, none⟩) ul ul) (by first | (simp [go_sem]; done) | simp [go_sem, c1_2_0]) (by first | (simp [go_sem]; done) | simp [go_sem, f1_2_0])
  have c2_2_1 : wx2.cell? ⟨w.heap.size + 1 + 1, 1, none⟩ = some (.slice none 0 0) := bkeep bx (by first | (simp [go_sem]; done) | simp [go_sem, c1_2_1])
  have f2_2_1 : wx2.frozen? ⟨w.heap.size + 1 + 1, 1, none⟩ = false := bthaw bx (v := .slice none 0 0) (by first | (simp [go_sem]; done) | simp [go_sem, c1_2_1]) (by first | (simp [go_sem]; done) | simp [go_sem, f1_2_1])
  have c2_2_2 : wx2.cell? ⟨w.heap.size + 1 + 1, 2, none⟩ = some (.slice none 0 0) := bkeep bx (by first | (simp [go_sem]; done) | simp [go_sem, c1_2_2])
  have f2_2_2 : wx2.frozen? ⟨w.heap.size + 1 + 1, 2, none⟩ = false := bthaw bx (v := .slice none 0 0) (by first | (simp [go_sem]; done) | simp [go_sem, c1_2_2]) (by first | (simp [go_sem]; done) | simp [go_sem, f1_2_2])
  have c2_2_3 : wx2.cell? ⟨w.heap.size + 1 + 1, 3, none⟩ = some (.slice none 0 0) := bkeep bx (by first | (simp [go_sem]; done) | simp [go_sem, c1_2_3])
  have f2_2_3 : wx2.frozen? ⟨w.heap.size + 1 + 1, 3, none⟩ = false := bthaw bx (v := .slice none 0 0) (by first | (simp [go_sem]; done) | simp [go_sem, c1_2_3]) (by first | (simp [go_sem]; done) | simp [go_sem, f1_2_3])
  have c2_2_4 : wx2.cell? ⟨w.heap.size + 1 + 1, 4, none⟩ = some (.int .i64 0) := bkeep bx (by first | (simp [go_sem]; done) | simp [go_sem, c1_2_4])
  have f2_2_4 : wx2.frozen? ⟨w.heap.size + 1 + 1, 4, none⟩ = false := bthaw bx (v := .int .i64 0) (by first | (simp [go_sem]; done) | simp [go_sem, c1_2_4]) (by first | (simp [go_sem]; done) | simp [go_sem, f1_2_4])
  have BX2 : Hid (Below w.heap.size w wx2) := (BX1.out.setCell (p := ⟨w.heap.size + 1 + 1, _, _⟩) (by show w.heap.size ≤ w.heap.size + 1 + 1; omega) _).trans (bx.mono (by have := BX1.out.size; simp <;> omega))
  have P2_0 : Hid (Rw UsR 6 wx2 (some ⟨w.heap.size + 1 + 1 + 1, 0, none⟩) us) := P1_0.out.keep UsR.kp bx
  clear bx c1_0_0 c1_0_1 c1_0_2 c1_0_3 c1_0_4 c1_1_0 c1_1_1 c1_1_2 c1_1_3 c1_1_4 c1_2_0 c1_2_1 c1_2_2 c1_2_3 c1_2_4 f1_1_0 f1_1_1 f1_1_2 f1_1_3 f1_1_4 f1_2_0 f1_2_1 f1_2_2 f1_2_3 f1_2_4 BX1
  simp [go_sem] at hp hz
  have P2_1 : Hid (Rw SeR 10 wx2 (some ⟨wx1.heap.size, 0, none⟩) ss) := hp
  clear hp
  clear P1_0
  have L2 : w.heap.size + 1 + 1 < wx2.heap.size := World.block_lt_of_cell? wx2 _ c2_2_0
  have LL2 : wx1.heap.size < wx2.heap.size := hz
  clear hz
  replace P2_0 : Hid (Rw UsR 6 (wx2.setCell ⟨w.heap.size + 1 + 1, 1, none⟩ (.slice (some ⟨wx1.heap.size, 0, none⟩) sl sl)) (some ⟨w.heap.size + 1 + 1 + 1, 0, none⟩) us) := rw_off P2_0.out (fun _ _ _ _ h => h) (fun b off e => by cases e; show _ ≠ w.heap.size + 1 + 1; omega) _
  replace P2_1 : Hid (Rw SeR 10 (wx2.setCell ⟨w.heap.size + 1 + 1, 1, none⟩ (.slice (some ⟨wx1.heap.size, 0, none⟩) sl sl)) (some ⟨wx1.heap.size, 0, none⟩) ss) := rw_off P2_1.out (fun _ _ _ _ h => h) (fun b off e => by cases e; show _ ≠ w.heap.size + 1 + 1; omega) _
  go_wp2_with fail
  refine (Hf.out _ (Rf.out.keep FaR.kp (BX2.out.setCell (p := ⟨w.heap.size + 1 + 1, _, _⟩) (by show w.heap.size ≤ w.heap.size + 1 + 1; omega) _))).mono ?_
  rintro e wx3 ⟨rfl, hp, hz, bx⟩
  have c3_0_0 : wx3.cell? ⟨w.heap.size, 0, none⟩ = some (.slice ua ul uc) := bkeep bx (by first | (simp [go_sem]; done) | simp [go_sem, c2_0_0])
  have c3_0_1 : wx3.cell? ⟨w.heap.size, 1, none⟩ = some (.slice sa sl sc) := bkeep bx (by first | (simp [go_sem]; done) | simp [go_sem, c2_0_1])
  have c3_0_2 : wx3.cell? ⟨w.heap.size, 2, none⟩ = some (.slice fa fl fc) := bkeep bx (by first | (simp [go_sem]; done) | simp [go_sem, c2_0_2])
  have c3_0_3 : wx3.cell? ⟨w.heap.size, 3, none⟩ = some (.slice ra rl rc) := bkeep bx (by first | (simp [go_sem]; done) | simp [go_sem, c2_0_3])
  have c3_0_4 : wx3.cell? ⟨w.heap.size, 4, none⟩ = some (.int .i64 nx) := bkeep bx (by first | (simp [go_sem]; done) | simp [go_sem, c2_0_4])
  have c3_1_0 : wx3.cell? ⟨w.heap.size + 1, 0, none⟩ = some (.slice none 0 0) := bkeep bx (by first | (simp [go_sem]; done) | simp [go_sem, c2_1_0])
  have f3_1_0 : wx3.frozen? ⟨w.heap.size + 1, 0, none⟩ = false := bthaw bx (v := .slice none 0 0) (by first | (simp [go_sem]; done) | simp [go_sem, c2_1_0]) (by first | (simp [go_sem]; done) | simp [go_sem, f2_1_0])
  have c3_1_1 : wx3.cell? ⟨w.heap.size + 1, 1, none⟩ = some (.slice none 0 0) := bkeep bx (by first | (simp [go_sem]; done) | simp [go_sem, c2_1_1])
  have f3_1_1 : wx3.frozen? ⟨w.heap.size + 1, 1, none⟩ = false := bthaw bx (v := .slice none 0 0) (by first | (simp [go_sem]; done) | simp [go_sem, c2_1_1]) (by first | (simp [go_sem]; done) | simp [go_sem, f2_1_1])
  have c3_1_2 : wx3.cell? ⟨w.heap.size + 1, 2, none⟩ = some (.slice none 0 0) := bkeep bx (by first | (simp [go_sem]; done) | simp [go_sem, c2_1_2])
  have f3_1_2 : wx3.frozen? ⟨w.heap.size + 1, 2, none⟩ = false := bthaw bx (v := .slice none 0 0) (by first | (simp [go_sem]; done) | simp [go_sem, c2_1_2]) (by first | (simp [go_sem]; done) | simp [go_sem, f2_1_2])
  have c3_1_3 : wx3.cell? ⟨w.heap.size + 1, 3, none⟩ = some (.slice none 0 0) := bkeep bx (by first | (simp [go_sem]; done) | simp [go_sem, c2_1_3])
  have f3_1_3 : wx3.frozen? ⟨w.heap.size + 1, 3, none⟩ = false := bthaw bx (v := .slice none 0 0) (by first | (simp [go_sem]; done) | simp [go_sem, c2_1_3]) (by first | (simp [go_sem]; done) | simp [go_sem, f2_1_3])
  have c3_1_4 : wx3.cell? ⟨w.heap.size + 1, 4, none⟩ = some (.int .i64 0) := bkeep bx (by first | (simp [go_sem]; done) | simp [go_sem, c2_1_4])
  have f3_1_4 : wx3.frozen? ⟨w.heap.size + 1, 4, none⟩ = false := bthaw bx (v := .int .i64 0) (by first | (simp [go_sem]; done) | simp [go_sem, c2_1_4]) (by first | (simp [go_sem]; done) | simp [go_sem, f2_1_4])
  have c3_2_0 : wx3.cell? ⟨w.heap.size + 1 + 1, 0, none⟩ = some (.slice (some ⟨w.heap.size + 1 + 1 + 1, 0, none⟩) ul ul) := bkeep bx (by first | (simp [go_sem]; done) | simp [go_sem, c2_2_0])
  have f3_2_0 : wx3.frozen? ⟨w.heap.size + 1 + 1, 0, none⟩ = false := bthaw bx (v := .slice (some ⟨w.heap.size + 1 + 1 + 1, 0, none⟩) ul ul) (by first | (simp [go_sem]; done) | simp [go_sem, c2_2_0]) (by first | (simp [go_sem]; done) | simp [go_sem, f2_2_0])
  have c3_2_1 : wx3.cell? ⟨w.heap.size + 1 + 1, 1, none⟩ = some (.slice (some ⟨wx1.heap.size, 0, none⟩) sl sl) := bkeep bx (by first | (simp [go_sem]; done) | simp [go_sem, c2_2_1])
  have f3_2_1 : wx3.frozen? ⟨w.heap.size + 1 + 1, 1, none⟩ = false := bthaw bx (v := .slice (some ⟨wx1.heap.size, 0, none⟩) sl sl) (by first | (simp [go_sem]; done) | simp [go_sem, c2_2_1]) (by first | (simp [go_sem]; done) | simp [go_sem, f2_2_1])
  have c3_2_2 : wx3.cell? ⟨w.heap.size + 1 + 1, 2, none⟩ = some (.slice none 0 0) := bkeep bx (by first | (simp [go_sem]; done) | simp [go_sem, c2_2_2])
  have f3_2_2 : wx3.frozen? ⟨w.heap.size + 1 + 1, 2, none⟩ = false := bthaw bx (v := .slice none 0 0) (by first | (simp [go_sem]; done) | simp [go_sem, c2_2_2]) (by first | (simp [go_sem]; done) | simp [go_sem, f2_2_2])
  have c3_2_3 : wx3.cell? ⟨w.heap.size + 1 + 1, 3, none⟩ = some (.slice none 0 0) := bkeep bx (by first | (simp [go_sem]; done) | simp [go_sem, c2_2_3])
  have f3_2_3 : wx3.frozen? ⟨w.heap.size + 1 + 1, 3, none⟩ = false := bthaw bx (v := .slice none 0 0) (by first | (simp [go_sem]; done) | simp [go_sem, c2_2_3]) (by first | (simp [go_sem]; done) | simp [go_sem, f2_2_3])
  have c3_2_4 : wx3.cell? ⟨w.heap.size + 1 + 1, 4, none⟩ = some (.int .i64 0) := bkeep bx (by first | (simp [go_sem]; done) | simp [go_sem, c2_2_4])
  have f3_2_4 : wx3.frozen? ⟨w.heap.size + 1 + 1, 4, none⟩ = false := bthaw bx (v := .int .i64 0) (by first | (simp [go_sem]; done) | simp [go_sem, c2_2_4]) (by first | (simp [go_sem]; done) | simp [go_sem, f2_2_4])
  have BX3 : Hid (Below w.heap.size w wx3) := (BX2.out.setCell (p := ⟨w.heap.size + 1 + 1, _, _⟩) (by show w.heap.size ≤ w.heap.size + 1 + 1; omega) _).trans (bx.mono (by have := BX2.out.size; simp <;> omega))
  have P3_1 : Hid (Rw SeR 10 wx3 (some ⟨wx1.heap.size, 0, none⟩) ss) := P2_1.out.keep SeR.kp bx
  have P3_0 : Hid (Rw UsR 6 wx3 (some ⟨w.heap.size + 1 + 1 + 1, 0, none⟩) us) := P2_0.out.keep UsR.kp bx
  clear bx c2_0_0 c2_0_1 c2_0_2 c2_0_3 c2_0_4 c2_1_0 c2_1_1 c2_1_2 c2_1_3 c2_1_4 c2_2_0 c2_2_1 c2_2_2 c2_2_3 c2_2_4 f2_1_0 f2_1_1 f2_1_2 f2_1_3 f2_1_4 f2_2_0 f2_2_1 f2_2_2 f2_2_3 f2_2_4 BX2
  simp [go_sem] at hp hz
  have P3_2 : Hid (Rw FaR 3 wx3 (some ⟨wx2.heap.size, 0, none⟩) fs) := hp
  clear hp
  clear P2_0 P2_1
  have L3 : w.heap.size + 1 + 1 < wx3.heap.size := World.block_lt_of_cell? wx3 _ c3_2_0
  have LL3 : wx2.heap.size < wx3.heap.size := hz
  clear hz
  replace P3_0 : Hid (Rw UsR 6 (wx3.setCell ⟨w.heap.size + 1 + 1, 2, none⟩ (.slice (some ⟨wx2.heap.size, 0, none⟩) fl fl)) (some ⟨w.heap.size + 1 + 1 + 1, 0, none⟩) us) := rw_off P3_0.out (fun _ _ _ _ h => h) (fun b off e => by cases e; show _ ≠ w.heap.size + 1 + 1; omega) _
  replace P3_1 : Hid (Rw SeR 10 (wx3.setCell ⟨w.heap.size + 1 + 1, 2, none⟩ (.slice (some ⟨wx2.heap.size, 0, none⟩) fl fl)) (some ⟨wx1.heap.size, 0, none⟩) ss) := rw_off P3_1.out (fun _ _ _ _ h => h) (fun b off e => by cases e; show _ ≠ w.heap.size + 1 + 1; omega) _
  replace P3_2 : Hid (Rw FaR 3 (wx3.setCell ⟨w.heap.size + 1 + 1, 2, none⟩ (.slice (some ⟨wx2.heap.size, 0, none⟩) fl fl)) (some ⟨wx2.heap.size, 0, none⟩) fs) := rw_off P3_2.out (fun _ _ _ _ h => h) (fun b off e => by cases e; show _ ≠ w.heap.size + 1 + 1; omega) _
  go_wp2_with fail
  refine (Hr.out _ (Rr.out.keep ReR.kp (BX3.out.setCell (p := ⟨w.heap.size + 1 + 1, _, _⟩) (by show w.heap.size ≤ w.heap.size + 1 + 1; omega) _))).mono ?_
  rintro e wx4 ⟨rfl, hp, hz, bx⟩
  have c4_0_0 : wx4.cell? ⟨w.heap.size, 0, none⟩ = some (.slice ua ul uc) := bkeep bx (by first | (simp [go_sem]; done) | simp [go_sem, c3_0_0])
  have c4_0_1 : wx4.cell? ⟨w.heap.size, 1, none⟩ = some (.slice sa sl sc) := bkeep bx (by first | (simp [go_sem]; done) | simp [go_sem, c3_0_1])
  have c4_0_2 : wx4.cell? ⟨w.heap.size, 2, none⟩ = some (.slice fa fl fc) := bkeep bx (by first | (simp [go_sem]; done) | simp [go_sem, c3_0_2])
  have c4_0_3 : wx4.cell? ⟨w.heap.size, 3, none⟩ = some (.slice ra rl rc) := bkeep bx (by first | (simp [go_sem]; done) | simp [go_sem, c3_0_3])
  have c4_0_4 : wx4.cell? ⟨w.heap.size, 4, none⟩ = some (.int .i64 nx) := bkeep bx (by first | (simp [go_sem]; done) | simp [go_sem, c3_0_4])
  have c4_1_0 : wx4.cell? ⟨w.heap.size + 1, 0, none⟩ = some (.slice none 0 0) := bkeep bx (by first | (simp [go_sem]; done) | simp [go_sem, c3_1_0])
  have f4_1_0 : wx4.frozen? ⟨w.heap.size + 1, 0, none⟩ = false := bthaw bx (v := .slice none 0 0) (by first | (simp [go_sem]; done) | simp [go_sem, c3_1_0]) (by first | (simp [go_sem]; done) | simp [go_sem, f3_1_0])
  have c4_1_1 : wx4.cell? ⟨w.heap.size + 1, 1, none⟩ = some (.slice none 0 0) := bkeep bx (by first | (simp [go_sem]; done) | simp [go_sem, c3_1_1])
  have f4_1_1 : wx4.frozen? ⟨w.heap.size + 1, 1, none⟩ = false := bthaw bx (v := .slice none 0 0) (by first | (simp [go_sem]; done) | simp [go_sem, c3_1_1]) (by first | (simp [go_sem]; done) | simp [go_sem, f3_1_1])
  have c4_1_2 : wx4.cell? ⟨w.heap.size + 1, 2, none⟩ = some (.slice none 0 0) := bkeep bx (by first | (simp [go_sem]; done) | simp [go_sem, c3_1_2])
  have f4_1_2 : wx4.frozen? ⟨w.heap.size + 1, 2, none⟩ = false := bthaw bx (v := .slice none 0 0) (by first | (simp [go_sem]; done) | simp [go_sem, c3_1_2]) (by first | (simp [go_sem]; done) | simp [go_sem, f3_1_2])
  have c4_1_3 : wx4.cell? ⟨w.heap.size + 1, 3, none⟩ = some (.slice none 0 0) := bkeep bx (by first | (simp [go_sem]; done) | simp [go_sem, c3_1_3])
  have f4_1_3 : wx4.frozen? ⟨w.heap.size + 1, 3, none⟩ = false := bthaw bx (v := .slice none 0 0) (by first | (simp [go_sem]; done) | simp [go_sem, c3_1_3]) (by first | (simp [go_sem]; done) | simp [go_sem, f3_1_3])
  have c4_1_4 : wx4.cell? ⟨w.heap.size + 1, 4, none⟩ = some (.int .i64 0) := bkeep bx (by first | (simp [go_sem]; done) | simp [go_sem, c3_1_4])
  have f4_1_4 : wx4.frozen? ⟨w.heap.size + 1, 4, none⟩ = false := bthaw bx (v := .int .i64 0) (by first | (simp [go_sem]; done) | simp [go_sem, c3_1_4]) (by first | (simp [go_sem]; done) | simp [go_sem, f3_1_4])
  have c4_2_0 : wx4.cell? ⟨w.heap.size + 1 + 1, 0, none⟩ = some (.slice (some ⟨w.heap.size + 1 + 1 + 1, 0, none⟩) ul ul) := bkeep bx (by first | (simp [go_sem]; done) | simp [go_sem, c3_2_0])
  have f4_2_0 : wx4.frozen? ⟨w.heap.size + 1 + 1, 0, none⟩ = false := bthaw bx (v := .slice (some ⟨w.heap.size + 1 + 1 + 1, 0, none⟩) ul ul) (by first | (simp [go_sem]; done) | simp [go_sem, c3_2_0]) (by first | (simp [go_sem]; done) | simp [go_sem, f3_2_0])
  have c4_2_1 : wx4.cell? ⟨w.heap.size + 1 + 1, 1, none⟩ = some (.slice (some ⟨wx1.heap.size, 0, none⟩) sl sl) := bkeep bx (by first | (simp [go_sem]; done) | simp [go_sem, c3_2_1])
  have f4_2_1 : wx4.frozen? ⟨w.heap.size + 1 + 1, 1, none⟩ = false := bthaw bx (v := .slice (some ⟨wx1.heap.size, 0, none⟩) sl sl) (by first | (simp [go_sem]; done) | simp [go_sem, c3_2_1]) (by first | (simp [go_sem]; done) | simp [go_sem, f3_2_1])
  have c4_2_2 : wx4.cell? ⟨w.heap.size + 1 + 1, 2, none⟩ = some (.slice (some ⟨wx2.heap.size, 0, none⟩) fl fl) := bkeep bx (by first | (simp [go_sem]; done) | simp [go_sem, c3_2_2])
  have f4_2_2 : wx4.frozen? ⟨w.heap.size + 1 + 1, 2, none⟩ = false := bthaw bx (v := .slice (some ⟨wx2.heap.size, 0, none⟩) fl fl) (by first | (simp [go_sem]; done) | simp [go_sem, c3_2_2]) (by first | (simp [go_sem]; done) | simp [go_sem, f3_2_2])
  have c4_2_3 : wx4.cell? ⟨w.heap.size + 1 + 1, 3, none⟩ = some (.slice none 0 0) := bkeep bx (by first | (simp [go_sem]; done) | simp [go_sem, c3_2_3])
  have f4_2_3 : wx4.frozen? ⟨w.heap.size + 1 + 1, 3, none⟩ = false := bthaw bx (v := .slice none 0 0) (by first | (simp [go_sem]; done) | simp [go_sem, c3_2_3]) (by first | (simp [go_sem]; done) | simp [go_sem, f3_2_3])
  have c4_2_4 : wx4.cell? ⟨w.heap.size + 1 + 1, 4, none⟩ = some (.int .i64 0) := bkeep bx (by first | (simp [go_sem]; done) | simp [go_sem, c3_2_4])
  have f4_2_4 : wx4.frozen? ⟨w.heap.size + 1 + 1, 4, none⟩ = false := bthaw bx (v := .int .i64 0) (by first | (simp [go_sem]; done) | simp [go_sem, c3_2_4]) (by first | (simp [go_sem]; done) | simp [go_sem, f3_2_4])
  have BX4 : Hid (Below w.heap.size w wx4) := (BX3.out.setCell (p := ⟨w.heap.size + 1 + 1, _, _⟩) (by show w.heap.size ≤ w.heap.size + 1 + 1; omega) _).trans (bx.mono (by have := BX3.out.size; simp <;> omega))
  have P4_2 : Hid (Rw FaR 3 wx4 (some ⟨wx2.heap.size, 0, none⟩) fs) := P3_2.out.keep FaR.kp bx
  have P4_1 : Hid (Rw SeR 10 wx4 (some ⟨wx1.heap.size, 0, none⟩) ss) := P3_1.out.keep SeR.kp bx
  have P4_0 : Hid (Rw UsR 6 wx4 (some ⟨w.heap.size + 1 + 1 + 1, 0, none⟩) us) := P3_0.out.keep UsR.kp bx
  clear bx c3_0_0 c3_0_1 c3_0_2 c3_0_3 c3_0_4 c3_1_0 c3_1_1 c3_1_2 c3_1_3 c3_1_4 c3_2_0 c3_2_1 c3_2_2 c3_2_3 c3_2_4 f3_1_0 f3_1_1 f3_1_2 f3_1_3 f3_1_4 f3_2_0 f3_2_1 f3_2_2 f3_2_3 f3_2_4 BX3
  simp [go_sem] at hp hz
  have P4_3 : Hid (Rw ReR 5 wx4 (some ⟨wx3.heap.size, 0, none⟩) rs) := hp
  clear hp
  clear P3_0 P3_1 P3_2
  have L4 : w.heap.size + 1 + 1 < wx4.heap.size := World.block_lt_of_cell? wx4 _ c4_2_0
  have LL4 : wx3.heap.size < wx4.heap.size := hz
  clear hz
  go_wp2
  (try simp only [Exit.inBlock, Exit.then])
  refine bodyPost_ret (v := .agg #[.slice (some ⟨w.heap.size + 1 + 1 + 1, 0, none⟩) ul ul, .slice (some ⟨wx1.heap.size, 0, none⟩) sl sl, .slice (some ⟨wx2.heap.size, 0, none⟩) fl fl, .slice (some ⟨wx3.heap.size, 0, none⟩) rl rl, .int .i64 nx]) (by simp [results, Tryz.results12, go_sem, c4_1_0, c4_1_1, c4_1_2, c4_1_3, c4_1_4]; try rfl) rfl ?_
  refine ⟨_, _, _, _, rfl, ⟨by omega, by omega, by omega, by omega⟩, ⟨?_, ?_, ?_, ?_⟩, (((((((BX4.out.setCell (p := ⟨w.heap.size + 1 + 1, _, _⟩) (by show w.heap.size ≤ w.heap.size + 1 + 1; omega) _).setCell (p := ⟨w.heap.size + 1 + 1, _, _⟩) (by show w.heap.size ≤ w.heap.size + 1 + 1; omega) _).setCell (p := ⟨w.heap.size + 1, _, _⟩) (by show w.heap.size ≤ w.heap.size + 1; omega) _).setCell (p := ⟨w.heap.size + 1, _, _⟩) (by show w.heap.size ≤ w.heap.size + 1; omega) _).setCell (p := ⟨w.heap.size + 1, _, _⟩) (by show w.heap.size ≤ w.heap.size + 1; omega) _).setCell (p := ⟨w.heap.size + 1, _, _⟩) (by show w.heap.size ≤ w.heap.size + 1; omega) _).setCell (p := ⟨w.heap.size + 1, _, _⟩) (by show w.heap.size ≤ w.heap.size + 1; omega) _)⟩
  · exact (rw_off (rw_off (rw_off (rw_off (rw_off (rw_off (rw_off P4_0.out (fun _ _ _ _ h => h) (fun b off e => by cases e; show _ ≠ w.heap.size + 1 + 1; omega) _) (fun _ _ _ _ h => h) (fun b off e => by cases e; show _ ≠ w.heap.size + 1 + 1; omega) _) (fun _ _ _ _ h => h) (fun b off e => by cases e; show _ ≠ w.heap.size + 1; omega) _) (fun _ _ _ _ h => h) (fun b off e => by cases e; show _ ≠ w.heap.size + 1; omega) _) (fun _ _ _ _ h => h) (fun b off e => by cases e; show _ ≠ w.heap.size + 1; omega) _) (fun _ _ _ _ h => h) (fun b off e => by cases e; show _ ≠ w.heap.size + 1; omega) _) (fun _ _ _ _ h => h) (fun b off e => by cases e; show _ ≠ w.heap.size + 1; omega) _)
  · exact (rw_off (rw_off (rw_off (rw_off (rw_off (rw_off (rw_off P4_1.out (fun _ _ _ _ h => h) (fun b off e => by cases e; show _ ≠ w.heap.size + 1 + 1; omega) _) (fun _ _ _ _ h => h) (fun b off e => by cases e; show _ ≠ w.heap.size + 1 + 1; omega) _) (fun _ _ _ _ h => h) (fun b off e => by cases e; show _ ≠ w.heap.size + 1; omega) _) (fun _ _ _ _ h => h) (fun b off e => by cases e; show _ ≠ w.heap.size + 1; omega) _) (fun _ _ _ _ h => h) (fun b off e => by cases e; show _ ≠ w.heap.size + 1; omega) _) (fun _ _ _ _ h => h) (fun b off e => by cases e; show _ ≠ w.heap.size + 1; omega) _) (fun _ _ _ _ h => h) (fun b off e => by cases e; show _ ≠ w.heap.size + 1; omega) _)
  · exact (rw_off (rw_off (rw_off (rw_off (rw_off (rw_off (rw_off P4_2.out (fun _ _ _ _ h => h) (fun b off e => by cases e; show _ ≠ w.heap.size + 1 + 1; omega) _) (fun _ _ _ _ h => h) (fun b off e => by cases e; show _ ≠ w.heap.size + 1 + 1; omega) _) (fun _ _ _ _ h => h) (fun b off e => by cases e; show _ ≠ w.heap.size + 1; omega) _) (fun _ _ _ _ h => h) (fun b off e => by cases e; show _ ≠ w.heap.size + 1; omega) _) (fun _ _ _ _ h => h) (fun b off e => by cases e; show _ ≠ w.heap.size + 1; omega) _) (fun _ _ _ _ h => h) (fun b off e => by cases e; show _ ≠ w.heap.size + 1; omega) _) (fun _ _ _ _ h => h) (fun b off e => by cases e; show _ ≠ w.heap.size + 1; omega) _)
  · exact (rw_off (rw_off (rw_off (rw_off (rw_off (rw_off (rw_off P4_3.out (fun _ _ _ _ h => h) (fun b off e => by cases e; show _ ≠ w.heap.size + 1 + 1; omega) _) (fun _ _ _ _ h => h) (fun b off e => by cases e; show _ ≠ w.heap.size + 1 + 1; omega) _) (fun _ _ _ _ h => h) (fun b off e => by cases e; show _ ≠ w.heap.size + 1; omega) _) (fun _ _ _ _ h => h) (fun b off e => by cases e; show _ ≠ w.heap.size + 1; omega) _) (fun _ _ _ _ h => h) (fun b off e => by cases e; show _ ≠ w.heap.size + 1; omega) _) (fun _ _ _ _ h => h) (fun b off e => by cases e; show _ ≠ w.heap.size + 1; omega) _) (fun _ _ _ _ h => h) (fun b off e => by cases e; show _ ≠ w.heap.size + 1; omega) _)

set_option maxHeartbeats 2000000 in
theorem eqGuests_yes (ua sa fa ra ub sb fb rb : Option Addr) (ul uc ud sl sc sd fl fc fd rl rc rd : Nat) (us : List UserV) (ss : List SessV) (fs : List FailV) (rs : List RecV) (nx : Int) (w : World) (hu : Rw UsR 6 w ua us) (ku : Rw UsR 6 w ub us) (lu : us.length = ul) (hs : Rw SeR 10 w sa ss) (ks : Rw SeR 10 w sb ss) (ls : ss.length = sl) (hf : Rw FaR 3 w fa fs) (kf : Rw FaR 3 w fb fs) (lf : fs.length = fl) (hr : Rw ReR 5 w ra rs) (kr : Rw ReR 5 w rb rs) (lr : rs.length = rl) (bu : ul ≤ 9223372036854775807) (bs : sl ≤ 9223372036854775807) (bf : fl ≤ 9223372036854775807) (br : rl ≤ 9223372036854775807) :
    Calls Tryz.prog 16 #[.agg #[.slice ua ul uc, .slice sa sl sc, .slice fa fl fc, .slice ra rl rc, .int .i64 nx], .agg #[.slice ub ul ud, .slice sb sl sd, .slice fb fl fd, .slice rb rl rd, .int .i64 nx]] w fun e w' => e = .returned (.bool true) ∧ Grw w w' := by
  have Ru : Hid (Rw UsR 6 w ua us ∧ Rw UsR 6 w ub us) := ⟨hu, ku⟩
  have Rs : Hid (Rw SeR 10 w sa ss ∧ Rw SeR 10 w sb ss) := ⟨hs, ks⟩
  have Rf : Hid (Rw FaR 3 w fa fs ∧ Rw FaR 3 w fb fs) := ⟨hf, kf⟩
  have Rr : Hid (Rw ReR 5 w ra rs ∧ Rw ReR 5 w rb rs) := ⟨hr, kr⟩
  have Hu : Hid (∀ w, Rw UsR 6 w ua us → Rw UsR 6 w ub us → Calls Tryz.prog 56 #[.slice ua ul uc, .slice ub ul ud] w fun e w' => e = .returned (.bool true) ∧ Grw w w') := fun w h h' => eqUserS_yes ua ub ul uc ud us w h h' lu bu
  have Hs : Hid (∀ w, Rw SeR 10 w sa ss → Rw SeR 10 w sb ss → Calls Tryz.prog 57 #[.slice sa sl sc, .slice sb sl sd] w fun e w' => e = .returned (.bool true) ∧ Grw w w') := fun w h h' => eqSessionS_yes sa sb sl sc sd ss w h h' ls bs
  have Hf : Hid (∀ w, Rw FaR 3 w fa fs → Rw FaR 3 w fb fs → Calls Tryz.prog 58 #[.slice fa fl fc, .slice fb fl fd] w fun e w' => e = .returned (.bool true) ∧ Grw w w') := fun w h h' => eqFailS_yes fa fb fl fc fd fs w h h' lf bf
  have Hr : Hid (∀ w, Rw ReR 5 w ra rs → Rw ReR 5 w rb rs → Calls Tryz.prog 59 #[.slice ra rl rc, .slice rb rl rd] w fun e w' => e = .returned (.bool true) ∧ Grw w w') := fun w h h' => eqRecordS_yes ra rb rl rc rd rs w h h' lr br
  clear hu hs hf hr ku ks kf kr
  have n0 : (nx != nx) = false := by simp
  go_enter Tryz.func16, Tryz.ntmps16
  go_wp2_with fail
  refine (Hu.out _ (Ru.out.1.keep UsR.kp (((Grw.refl w).alloc _).alloc _).below) (Ru.out.2.keep UsR.kp (((Grw.refl w).alloc _).alloc _).below)).mono ?_
  rintro e wx1 ⟨rfl, bx⟩
  have k0_0 : World.cell? _ ⟨w.heap.size, 0, none⟩ = some (.slice ua ul uc) := bx.keep (a := ⟨w.heap.size, 0, none⟩) (v := .slice ua ul uc) (by simp [go_sem])
  have k0_1 : World.cell? _ ⟨w.heap.size, 1, none⟩ = some (.slice sa sl sc) := bx.keep (a := ⟨w.heap.size, 1, none⟩) (v := .slice sa sl sc) (by simp [go_sem])
  have k0_2 : World.cell? _ ⟨w.heap.size, 2, none⟩ = some (.slice fa fl fc) := bx.keep (a := ⟨w.heap.size, 2, none⟩) (v := .slice fa fl fc) (by simp [go_sem])
  have k0_3 : World.cell? _ ⟨w.heap.size, 3, none⟩ = some (.slice ra rl rc) := bx.keep (a := ⟨w.heap.size, 3, none⟩) (v := .slice ra rl rc) (by simp [go_sem])
  have k0_4 : World.cell? _ ⟨w.heap.size, 4, none⟩ = some (.int .i64 nx) := bx.keep (a := ⟨w.heap.size, 4, none⟩) (v := .int .i64 nx) (by simp [go_sem])
  have k1_0 : World.cell? _ ⟨w.heap.size + 1, 0, none⟩ = some (.slice ub ul ud) := bx.keep (a := ⟨w.heap.size + 1, 0, none⟩) (v := .slice ub ul ud) (by simp [go_sem])
  have k1_1 : World.cell? _ ⟨w.heap.size + 1, 1, none⟩ = some (.slice sb sl sd) := bx.keep (a := ⟨w.heap.size + 1, 1, none⟩) (v := .slice sb sl sd) (by simp [go_sem])
  have k1_2 : World.cell? _ ⟨w.heap.size + 1, 2, none⟩ = some (.slice fb fl fd) := bx.keep (a := ⟨w.heap.size + 1, 2, none⟩) (v := .slice fb fl fd) (by simp [go_sem])
  have k1_3 : World.cell? _ ⟨w.heap.size + 1, 3, none⟩ = some (.slice rb rl rd) := bx.keep (a := ⟨w.heap.size + 1, 3, none⟩) (v := .slice rb rl rd) (by simp [go_sem])
  have k1_4 : World.cell? _ ⟨w.heap.size + 1, 4, none⟩ = some (.int .i64 nx) := bx.keep (a := ⟨w.heap.size + 1, 4, none⟩) (v := .int .i64 nx) (by simp [go_sem])
  have BX : Hid (Grw w _) := (((Grw.refl _).alloc _).alloc _).trans bx
  clear bx
  go_wp2_with fail
  refine (Hs.out _ (Rs.out.1.keep SeR.kp BX.out.below) (Rs.out.2.keep SeR.kp BX.out.below)).mono ?_
  rintro e wx2 ⟨rfl, bx⟩
  replace k0_0 := bx.keep k0_0
  replace k0_1 := bx.keep k0_1
  replace k0_2 := bx.keep k0_2
  replace k0_3 := bx.keep k0_3
  replace k0_4 := bx.keep k0_4
  replace k1_0 := bx.keep k1_0
  replace k1_1 := bx.keep k1_1
  replace k1_2 := bx.keep k1_2
  replace k1_3 := bx.keep k1_3
  replace k1_4 := bx.keep k1_4
  replace BX : Hid (Grw w _) := BX.out.trans bx
  clear bx
  go_wp2_with fail
  refine (Hf.out _ (Rf.out.1.keep FaR.kp BX.out.below) (Rf.out.2.keep FaR.kp BX.out.below)).mono ?_
  rintro e wx3 ⟨rfl, bx⟩
  replace k0_0 := bx.keep k0_0
  replace k0_1 := bx.keep k0_1
  replace k0_2 := bx.keep k0_2
  replace k0_3 := bx.keep k0_3
  replace k0_4 := bx.keep k0_4
  replace k1_0 := bx.keep k1_0
  replace k1_1 := bx.keep k1_1
  replace k1_2 := bx.keep k1_2
  replace k1_3 := bx.keep k1_3
  replace k1_4 := bx.keep k1_4
  replace BX : Hid (Grw w _) := BX.out.trans bx
  clear bx
  go_wp2_with fail
  refine (Hr.out _ (Rr.out.1.keep ReR.kp BX.out.below) (Rr.out.2.keep ReR.kp BX.out.below)).mono ?_
  rintro e wx4 ⟨rfl, bx⟩
  replace k0_0 := bx.keep k0_0
  replace k0_1 := bx.keep k0_1
  replace k0_2 := bx.keep k0_2
  replace k0_3 := bx.keep k0_3
  replace k0_4 := bx.keep k0_4
  replace k1_0 := bx.keep k1_0
  replace k1_1 := bx.keep k1_1
  replace k1_2 := bx.keep k1_2
  replace k1_3 := bx.keep k1_3
  replace k1_4 := bx.keep k1_4
  replace BX : Hid (Grw w _) := BX.out.trans bx
  clear bx
  go_wp2
  go_ret
  exact ⟨rfl, BX.out⟩

end Go.Proofs.YtlebblmlbhnppaaGreat

namespace Go.Proofs.YtlebblmlbhnppaaGreat
open Go.RowKit Go.PlainAid Go.Proofs.YtlebblmlbhnppaaGreat.Bt Go.Sort
set_option linter.unusedVariables false
set_option maxRecDepth 20000
set_option maxHeartbeats 2000000 in
theorem toFlow_any (pr : Int) (mc : ByteArray) (si sp di dp st un ow : Int) (w : World) :
    Calls Tryz.prog 152 #[.agg #[.int .i64 pr, .string mc, .int .i64 si, .int .i64 sp, .int .i64 di, .int .i64 dp, .int .i64 st, .int .i64 un, .int .i64 ow]] w fun e w' => e = .returned (.agg #[.int .i64 pr, .string mc, .int .i64 si, .int .i64 sp, .int .i64 di, .int .i64 dp, .int .i64 st, .int .i64 un, .int .i64 ow]) ∧ Grw w w' := by
  go_enter Tryz.func152, Tryz.ntmps152
  go_wp2
  (try simp only [Exit.inBlock, Exit.then])
  refine bodyPost_ret (v := .agg #[.int .i64 pr, .string mc, .int .i64 si, .int .i64 sp, .int .i64 di, .int .i64 dp, .int .i64 st, .int .i64 un, .int .i64 ow]) (by simp [results, Tryz.results152, go_sem]; try rfl) rfl ?_
  exact ⟨rfl, ((((Grw.refl _).alloc _).alloc _).alloc _)⟩
set_option maxHeartbeats 1000000 in
theorem eqFlow_any (pr : Int) (mc : ByteArray) (si sp di dp st un ow : Int) (w : World) :
    Calls Tryz.prog 131 #[.agg #[.int .i64 pr, .string mc, .int .i64 si, .int .i64 sp, .int .i64 di, .int .i64 dp, .int .i64 st, .int .i64 un, .int .i64 ow], .agg #[.int .i64 pr, .string mc, .int .i64 si, .int .i64 sp, .int .i64 di, .int .i64 dp, .int .i64 st, .int .i64 un, .int .i64 ow]] w fun e w' => e = .returned (.bool true) ∧ Grw w w' := by
  have h0 : (pr != pr) = false := by simp
  have h1 : (mc.toList == mc.toList) = true := by simp
  have h2 : (si != si) = false := by simp
  have h3 : (sp != sp) = false := by simp
  have h4 : (di != di) = false := by simp
  have h5 : (dp != dp) = false := by simp
  have h6 : (st != st) = false := by simp
  have h7 : (un != un) = false := by simp
  have h8 : (ow != ow) = false := by simp
  go_enter Tryz.func131, Tryz.ntmps131
  go_wp2
  go_ret
  exact ⟨rfl, ((Grw.refl _).alloc _).alloc _⟩
theorem infoFlow : (Tryz.prog.info? 122).map (fun i => (i.zero, i.size, i.bytes)) = some (some (.agg #[.int .i64 0, .string ⟨#[]⟩, .int .i64 0, .int .i64 0, .int .i64 0, .int .i64 0, .int .i64 0, .int .i64 0, .int .i64 0]), 9, 80) := by kernel_rfl
theorem zFlow : (#[.int .i64 0, .string ⟨#[]⟩, .int .i64 0, .int .i64 0, .int .i64 0, .int .i64 0, .int .i64 0, .int .i64 0, .int .i64 0] : Array Value).toList = wvG default := rfl
set_option maxHeartbeats 2000000 in
theorem toFlowS_any (a : Option Addr) (len cap : Nat) (xs : List FlowV) (w : World) (h : Rw FlR 9 w a xs) (hl : xs.length = len) (hc : len ≤ 1048576) :
    Calls Tryz.prog 79 #[.slice a len cap] w fun e w' => e = .returned (.slice (some ⟨w.heap.size, 0, none⟩) len len) ∧ OwnS wvG 9 122 w' w.heap.size (.slice (some ⟨w.heap.size, 0, none⟩) len len) xs ∧ (∀ x, x ∈ xs → FlRok x) ∧ Below w.heap.size w w' := by
  have RW : Hid (Rw FlR 9 w a xs) := h
  have HK : Hid (∀ x, x ∈ xs → FlRok x) := by
    intro x hx
    obtain ⟨i, hi⟩ := List.getElem?_of_mem hx
    obtain ⟨b, off, vs, _, _, _, h2, _⟩ := h.at FR.kp (Below.refl _ _) hi
    exact h2.2
  clear h
  obtain ⟨i0, hi, hz0, hz1, hz2⟩ := info_parts infoFlow
  have hmk := run_make (P := Tryz.prog) w 47 122 i0 (.agg #[.int .i64 0, .string ⟨#[]⟩, .int .i64 0, .int .i64 0, .int .i64 0, .int .i64 0, .int .i64 0, .int .i64 0, .int .i64 0]) Tryz.underlying47 hi hz0 .i64 .i64 len len (by omega) (Int.le_refl _) (by rw [hz2]; omega) (by omega)
  rw [hz1, Int.toNat_natCast] at hmk
  have HM : Hid (OwnS wvG 9 122 (w.alloc (.cells (madeCells #[.int .i64 0, .string ⟨#[]⟩, .int .i64 0, .int .i64 0, .int .i64 0, .int .i64 0, .int .i64 0, .int .i64 0, .int .i64 0] (len * 9)) 122)) w.heap.size (.slice (some ⟨w.heap.size, 0, none⟩) len len) (List.replicate len default) ∧ Below w.heap.size w (w.alloc (.cells (madeCells #[.int .i64 0, .string ⟨#[]⟩, .int .i64 0, .int .i64 0, .int .i64 0, .int .i64 0, .int .i64 0, .int .i64 0, .int .i64 0] (len * 9)) 122))) := ⟨OwnS.made w _ _ len default _ zFlow rfl (by omega) (Nat.le_refl _) (by unfold maxLen; omega), (Below.refl _ _).alloc (Nat.le_refl _) _⟩
  have hmk2 : (Instr.makeSlice 47 (.int .i64 (len : Int)) (.int .i64 (len : Int))).run Tryz.prog w = .ok (.slice (some ⟨w.heap.size, 0, none⟩) len len) (w.alloc (.cells (madeCells #[.int .i64 0, .string ⟨#[]⟩, .int .i64 0, .int .i64 0, .int .i64 0, .int .i64 0, .int .i64 0, .int .i64 0, .int .i64 0] (len * 9)) 122)) := hmk
  clear hmk hi hz0 hz1 hz2
  obtain ⟨W, hW⟩ : ∃ W, W = w.alloc (.cells (madeCells #[.int .i64 0, .string ⟨#[]⟩, .int .i64 0, .int .i64 0, .int .i64 0, .int .i64 0, .int .i64 0, .int .i64 0, .int .i64 0] (len * 9)) 122) := ⟨_, rfl⟩
  rw [← hW] at HM hmk2
  clear hW
  go_enter Tryz.func79, Tryz.ntmps79
  go_wp2
  go_loopw [4] (fun i wr => ∃ (k : Nat) (L : List FlowV), k ≤ len ∧ i = .int .i64 k ∧ Hid (OwnS wvG 9 122 wr w.heap.size (.slice (some ⟨w.heap.size, 0, none⟩) len len) L ∧ L.length = len ∧ L.take k = xs.take k ∧ Below w.heap.size w wr)) (fun i _ => len - (intOf i).toNat)
  case atStart => exact ⟨0, _, Nat.zero_le _, rfl, HM.out.1, List.length_replicate .., rfl, HM.out.2⟩
  case round =>
    obtain ⟨k, L, hk, rfl, X⟩ := hrel
    by_cases hlt : k < len
    · obtain ⟨x, hx⟩ := at_of hl hlt
      obtain ⟨b, off, vs, rfl, hb, hvl, hR, hc⟩ := RW.out.at FR.kp X.out.2.2.2 hx
      have TS : Hid ((L.set k x).take (k + 1) = xs.take (k + 1)) := takeS_set (by rw [X.out.2.1, hl]) hx X.out.2.2.1
      obtain ⟨pr, mc, si, sp, di, dp, st, un, ow⟩ := x
      obtain ⟨rfl, hok⟩ := hR
      clear hok
      have q0 : wr.cell? ⟨b, off + k * 9, none⟩ = some (.int .i64 pr) := hc 0 _ rfl
      have q1 : wr.cell? ⟨b, off + k * 9 + 1, none⟩ = some (.string mc) := hc 1 _ rfl
      have q2 : wr.cell? ⟨b, off + k * 9 + 2, none⟩ = some (.int .i64 si) := hc 2 _ rfl
      have q3 : wr.cell? ⟨b, off + k * 9 + 3, none⟩ = some (.int .i64 sp) := hc 3 _ rfl
      have q4 : wr.cell? ⟨b, off + k * 9 + 4, none⟩ = some (.int .i64 di) := hc 4 _ rfl
      have q5 : wr.cell? ⟨b, off + k * 9 + 5, none⟩ = some (.int .i64 dp) := hc 5 _ rfl
      have q6 : wr.cell? ⟨b, off + k * 9 + 6, none⟩ = some (.int .i64 st) := hc 6 _ rfl
      have q7 : wr.cell? ⟨b, off + k * 9 + 7, none⟩ = some (.int .i64 un) := hc 7 _ rfl
      have q8 : wr.cell? ⟨b, off + k * 9 + 8, none⟩ = some (.int .i64 ow) := hc 8 _ rfl
      have HT : Hid (∀ w, Calls Tryz.prog 152 #[.agg #[.int .i64 pr, .string mc, .int .i64 si, .int .i64 sp, .int .i64 di, .int .i64 dp, .int .i64 st, .int .i64 un, .int .i64 ow]] w fun e w' => e = .returned (.agg #[.int .i64 pr, .string mc, .int .i64 si, .int .i64 sp, .int .i64 di, .int .i64 dp, .int .i64 st, .int .i64 un, .int .i64 ow]) ∧ Grw w w') := fun w => toFlow_any pr mc si sp di dp st un ow w
      have hltz : (k : Int) < (len : Int) := by omega
      clear hc
      go_wp2_with fail
      refine (HT.out _).mono ?_
      rintro e w1 ⟨rfl, g1⟩
      have b1 := g1.below
      have o1 := X.out.1.now b1
      obtain ⟨y, hy⟩ := at_of (k := k) X.out.2.1 hlt
      obtain ⟨c0, z0⟩ := o1.cell wvG_len (j := 0) hy rfl
      obtain ⟨c1, z1⟩ := o1.cell wvG_len (j := 1) hy rfl
      obtain ⟨c2, z2⟩ := o1.cell wvG_len (j := 2) hy rfl
      obtain ⟨c3, z3⟩ := o1.cell wvG_len (j := 3) hy rfl
      obtain ⟨c4, z4⟩ := o1.cell wvG_len (j := 4) hy rfl
      obtain ⟨c5, z5⟩ := o1.cell wvG_len (j := 5) hy rfl
      obtain ⟨c6, z6⟩ := o1.cell wvG_len (j := 6) hy rfl
      obtain ⟨c7, z7⟩ := o1.cell wvG_len (j := 7) hy rfl
      obtain ⟨c8, z8⟩ := o1.cell wvG_len (j := 8) hy rfl
      replace c0 : w1.cell? ⟨w.heap.size, k * 9, none⟩ = some (.int .i64 y.pr) := c0
      replace z0 : w1.frozen? ⟨w.heap.size, k * 9, none⟩ = false := z0
      have Y0 : ∀ W1, W1 = ((((((((w1.setCell ⟨w.heap.size, k * 9, none⟩ (.int .i64 pr)).setCell ⟨w.heap.size, k * 9 + 1, none⟩ (.string mc)).setCell ⟨w.heap.size, k * 9 + 2, none⟩ (.int .i64 si)).setCell ⟨w.heap.size, k * 9 + 3, none⟩ (.int .i64 sp)).setCell ⟨w.heap.size, k * 9 + 4, none⟩ (.int .i64 di)).setCell ⟨w.heap.size, k * 9 + 5, none⟩ (.int .i64 dp)).setCell ⟨w.heap.size, k * 9 + 6, none⟩ (.int .i64 st)).setCell ⟨w.heap.size, k * 9 + 7, none⟩ (.int .i64 un)).setCell ⟨w.heap.size, k * 9 + 8, none⟩ (.int .i64 ow) → OwnS wvG 9 122 W1 w.heap.size (.slice (some ⟨w.heap.size, 0, none⟩) len len) (L.set k ⟨pr, mc, si, sp, di, dp, st, un, ow⟩) ∧ (L.set k ⟨pr, mc, si, sp, di, dp, st, un, ow⟩).length = len ∧ (L.set k ⟨pr, mc, si, sp, di, dp, st, un, ow⟩).take (k + 1) = xs.take (k + 1) ∧ Below w.heap.size w W1 := by
        intro W1 hW1
        have h2 := o1.store wvG_len hlt ⟨pr, mc, si, sp, di, dp, st, un, ow⟩
        have e3 : W1 = wsets w1 w.heap.size (k * 9) (wvG ⟨pr, mc, si, sp, di, dp, st, un, ow⟩) := hW1
        rw [← e3] at h2
        exact ⟨h2.1, by rw [List.length_set]; exact X.out.2.1, TS.out, (X.out.2.2.2.trans (b1.mono X.out.2.2.2.size)).trans (below_row h2.2 (Nat.le_refl _) (Nat.le_trans X.out.2.2.2.size b1.size))⟩
      have Y : Hid (OwnS wvG 9 122 (((((((((w1.setCell ⟨w.heap.size, k * 9, none⟩ (.int .i64 pr)).setCell ⟨w.heap.size, k * 9 + 1, none⟩ (.string mc)).setCell ⟨w.heap.size, k * 9 + 2, none⟩ (.int .i64 si)).setCell ⟨w.heap.size, k * 9 + 3, none⟩ (.int .i64 sp)).setCell ⟨w.heap.size, k * 9 + 4, none⟩ (.int .i64 di)).setCell ⟨w.heap.size, k * 9 + 5, none⟩ (.int .i64 dp)).setCell ⟨w.heap.size, k * 9 + 6, none⟩ (.int .i64 st)).setCell ⟨w.heap.size, k * 9 + 7, none⟩ (.int .i64 un)).setCell ⟨w.heap.size, k * 9 + 8, none⟩ (.int .i64 ow)) w.heap.size (.slice (some ⟨w.heap.size, 0, none⟩) len len) (L.set k ⟨pr, mc, si, sp, di, dp, st, un, ow⟩) ∧ (L.set k ⟨pr, mc, si, sp, di, dp, st, un, ow⟩).length = len ∧ (L.set k ⟨pr, mc, si, sp, di, dp, st, un, ow⟩).take (k + 1) = xs.take (k + 1) ∧ Below w.heap.size w (((((((((w1.setCell ⟨w.heap.size, k * 9, none⟩ (.int .i64 pr)).setCell ⟨w.heap.size, k * 9 + 1, none⟩ (.string mc)).setCell ⟨w.heap.size, k * 9 + 2, none⟩ (.int .i64 si)).setCell ⟨w.heap.size, k * 9 + 3, none⟩ (.int .i64 sp)).setCell ⟨w.heap.size, k * 9 + 4, none⟩ (.int .i64 di)).setCell ⟨w.heap.size, k * 9 + 5, none⟩ (.int .i64 dp)).setCell ⟨w.heap.size, k * 9 + 6, none⟩ (.int .i64 st)).setCell ⟨w.heap.size, k * 9 + 7, none⟩ (.int .i64 un)).setCell ⟨w.heap.size, k * 9 + 8, none⟩ (.int .i64 ow))) := Y0 _ rfl
      clear Y0
      clear o1 b1 g1 q0 q1 q2 q3 q4 q5 q6 q7 q8 HT X HM hmk2 hx hy TS
      go_wp2
      go_roundw
      case rel => exact ⟨k + 1, _, by omega, by go_num, Y⟩
      case measure => simp [intOf]; omega
    · obtain rfl : k = len := by omega
      have e1 : L = xs := by
        have := X.out.2.2.1
        rw [List.take_of_length_le (by rw [X.out.2.1]; exact Nat.le_refl _), List.take_of_length_le (by omega)] at this
        exact this
      subst e1
      go_wp2
      go_ret
      exact ⟨rfl, X.out.1, HK.out, X.out.2.2.2⟩
set_option maxHeartbeats 2000000 in
theorem eqFlowS_yes (a a' : Option Addr) (len cap cap' : Nat) (xs : List FlowV) (w : World) (h : Rw FlR 9 w a xs) (h' : Rw FlR 9 w a' xs) (hl : xs.length = len) (hlen : len ≤ 9223372036854775807) :
    Calls Tryz.prog 51 #[.slice a len cap, .slice a' len cap'] w fun e w' => e = .returned (.bool true) ∧ Grw w w' := by
  have hne : ((len : Int) != (len : Int)) = false := by simp
  have hmix : Tryz.prog.follows .mixedOrders = true := by kernel_rfl
  have RW : Hid (Rw FlR 9 w a xs) := h
  have RW' : Hid (Rw FlR 9 w a' xs) := h'
  clear h h'
  go_enter Tryz.func51, Tryz.ntmps51
  go_wp2
  go_loopw [5] (fun i wr => ∃ k : Nat, k ≤ len ∧ i = .int .i64 k ∧ Hid (Grw w wr)) (fun i _ => len - (intOf i).toNat)
  case atStart => exact ⟨0, Nat.zero_le _, rfl, Grw.refl w⟩
  case round =>
    obtain ⟨k, hk, rfl, HG⟩ := hrel
    by_cases hlt : k < len
    · obtain ⟨x, hx⟩ := at_of hl hlt
      obtain ⟨b, off, vs, rfl, hb, hvl, hR, hc⟩ := RW.out.at FR.kp HG.out.below hx
      obtain ⟨b', off', vs', rfl, hb', hvl', hR', hc'⟩ := RW'.out.at FR.kp HG.out.below hx
      obtain ⟨pr, mc, si, sp, di, dp, st, un, ow⟩ := x
      obtain ⟨rfl, -⟩ := hR
      obtain ⟨rfl, -⟩ := hR'
      have q0 : ∀ n os, (grow (wr.drewN n) os).cell? ⟨b, off + k * 9, none⟩ = some (.int .i64 pr) := fun n os => grown_cell hb HG.out (hc 0 _ rfl) n os
      have q1 : ∀ n os, (grow (wr.drewN n) os).cell? ⟨b, off + k * 9 + 1, none⟩ = some (.string mc) := fun n os => grown_cell hb HG.out (hc 1 _ rfl) n os
      have q2 : ∀ n os, (grow (wr.drewN n) os).cell? ⟨b, off + k * 9 + 2, none⟩ = some (.int .i64 si) := fun n os => grown_cell hb HG.out (hc 2 _ rfl) n os
      have q3 : ∀ n os, (grow (wr.drewN n) os).cell? ⟨b, off + k * 9 + 3, none⟩ = some (.int .i64 sp) := fun n os => grown_cell hb HG.out (hc 3 _ rfl) n os
      have q4 : ∀ n os, (grow (wr.drewN n) os).cell? ⟨b, off + k * 9 + 4, none⟩ = some (.int .i64 di) := fun n os => grown_cell hb HG.out (hc 4 _ rfl) n os
      have q5 : ∀ n os, (grow (wr.drewN n) os).cell? ⟨b, off + k * 9 + 5, none⟩ = some (.int .i64 dp) := fun n os => grown_cell hb HG.out (hc 5 _ rfl) n os
      have q6 : ∀ n os, (grow (wr.drewN n) os).cell? ⟨b, off + k * 9 + 6, none⟩ = some (.int .i64 st) := fun n os => grown_cell hb HG.out (hc 6 _ rfl) n os
      have q7 : ∀ n os, (grow (wr.drewN n) os).cell? ⟨b, off + k * 9 + 7, none⟩ = some (.int .i64 un) := fun n os => grown_cell hb HG.out (hc 7 _ rfl) n os
      have q8 : ∀ n os, (grow (wr.drewN n) os).cell? ⟨b, off + k * 9 + 8, none⟩ = some (.int .i64 ow) := fun n os => grown_cell hb HG.out (hc 8 _ rfl) n os
      have r0 : ∀ n os, (grow (wr.drewN n) os).cell? ⟨b', off' + k * 9, none⟩ = some (.int .i64 pr) := fun n os => grown_cell hb' HG.out (hc' 0 _ rfl) n os
      have r1 : ∀ n os, (grow (wr.drewN n) os).cell? ⟨b', off' + k * 9 + 1, none⟩ = some (.string mc) := fun n os => grown_cell hb' HG.out (hc' 1 _ rfl) n os
      have r2 : ∀ n os, (grow (wr.drewN n) os).cell? ⟨b', off' + k * 9 + 2, none⟩ = some (.int .i64 si) := fun n os => grown_cell hb' HG.out (hc' 2 _ rfl) n os
      have r3 : ∀ n os, (grow (wr.drewN n) os).cell? ⟨b', off' + k * 9 + 3, none⟩ = some (.int .i64 sp) := fun n os => grown_cell hb' HG.out (hc' 3 _ rfl) n os
      have r4 : ∀ n os, (grow (wr.drewN n) os).cell? ⟨b', off' + k * 9 + 4, none⟩ = some (.int .i64 di) := fun n os => grown_cell hb' HG.out (hc' 4 _ rfl) n os
      have r5 : ∀ n os, (grow (wr.drewN n) os).cell? ⟨b', off' + k * 9 + 5, none⟩ = some (.int .i64 dp) := fun n os => grown_cell hb' HG.out (hc' 5 _ rfl) n os
      have r6 : ∀ n os, (grow (wr.drewN n) os).cell? ⟨b', off' + k * 9 + 6, none⟩ = some (.int .i64 st) := fun n os => grown_cell hb' HG.out (hc' 6 _ rfl) n os
      have r7 : ∀ n os, (grow (wr.drewN n) os).cell? ⟨b', off' + k * 9 + 7, none⟩ = some (.int .i64 un) := fun n os => grown_cell hb' HG.out (hc' 7 _ rfl) n os
      have r8 : ∀ n os, (grow (wr.drewN n) os).cell? ⟨b', off' + k * 9 + 8, none⟩ = some (.int .i64 ow) := fun n os => grown_cell hb' HG.out (hc' 8 _ rfl) n os
      have HE : Hid (∀ w, Calls Tryz.prog 131 #[.agg #[.int .i64 pr, .string mc, .int .i64 si, .int .i64 sp, .int .i64 di, .int .i64 dp, .int .i64 st, .int .i64 un, .int .i64 ow], .agg #[.int .i64 pr, .string mc, .int .i64 si, .int .i64 sp, .int .i64 di, .int .i64 dp, .int .i64 st, .int .i64 un, .int .i64 ow]] w fun e w' => e = .returned (.bool true) ∧ Grw w w') := fun w => eqFlow_any pr mc si sp di dp st un ow w
      have hltz : (k : Int) < (len : Int) := by omega
      clear hc hc'
      go_wp2_with fail
      refine wp_region_quiet_grown (by assumption) (by kernel_rfl) ?_
      repeat (go_big_quiet_step (first | fail | (go_at_call 131; exact Calls.grown_of (HE.out _))))
      refine wpQuiet_nil ?_
      intro _ hw'
      obtain ⟨⟨nq, osq⟩, hw''⟩ := hw'
      subst hw''
      have HG2 : Hid (Grw w (grow (wr.drewN nq) osq)) := HG.out.trans ⟨nq, osq, rfl⟩
      clear q0 q1 q2 q3 q4 q5 q6 q7 q8 r0 r1 r2 r3 r4 r5 r6 r7 r8 HG HE
      go_wp2
      go_roundw
      case rel => exact ⟨k + 1, by omega, by go_num, HG2⟩
      case measure => simp [intOf]; omega
    · obtain rfl : k = len := by omega
      go_wp2
      go_ret
      exact ⟨rfl, HG.out⟩

set_option maxHeartbeats 1000000 in
theorem szFlow_any (pr : Int) (mc : ByteArray) (si sp di dp st un ow : Int) (l : Int) (w : World) (hmc : mc.size ≤ 9223372036854775807) (h0 : 0 ≤ l) (h1 : l ≤ 1048576) :
    Calls Tryz.prog 147 #[.agg #[.int .i64 pr, .string mc, .int .i64 si, .int .i64 sp, .int .i64 di, .int .i64 dp, .int .i64 st, .int .i64 un, .int .i64 ow], .int .i64 l] w fun e w' => ∃ r : Int, e = .returned (.int .i64 r) ∧ (0 ≤ r → r ≤ l ∧ (mc.size : Int) ≤ l) ∧ -1 ≤ r ∧ r ≤ 1048576 ∧ Grw w w' := by
  by_cases hx : (mc.size : Int) ≤ l
  · go_enter Tryz.func147, Tryz.ntmps147
    go_wp2
    go_ret
    exact ⟨_, rfl, fun _ => ⟨by omega, by omega⟩, by omega, by omega, (Grw.refl _).alloc _⟩
  · go_enter Tryz.func147, Tryz.ntmps147
    go_wp2
    go_ret
    exact ⟨-1, rfl, fun h => absurd h (by omega), by omega, by omega, (Grw.refl _).alloc _⟩
set_option maxHeartbeats 2000000 in
theorem szFlowS_any (a : Option Addr) (len cap : Nat) (xs : List FlowV) (l : Int) (w : World) (h : Rw FlR 9 w a xs) (hl : xs.length = len) (hlm : len ≤ 9223372036854775807) (h0 : 0 ≤ l) (h1 : l ≤ 1048576) :
    Calls Tryz.prog 72 #[.slice a len cap, .int .i64 l] w fun e w' => ∃ r : Int, e = .returned (.int .i64 r) ∧ (0 ≤ r → (len : Int) ≤ l ∧ r ≤ l ∧ ∀ x, x ∈ xs → (x.mc.size : Int) ≤ 1048576) ∧ -1 ≤ r ∧ r ≤ 1048576 ∧ Grw w w' := by
  have RW : Hid (Rw FlR 9 w a xs) := h
  clear h
  by_cases hle : (len : Int) ≤ l
  rotate_left
  · go_enter Tryz.func72, Tryz.ntmps72
    go_wp2
    go_ret
    exact ⟨-1, rfl, fun h => absurd h (by omega), by omega, by omega, Grw.refl _⟩
  go_enter Tryz.func72, Tryz.ntmps72
  go_wp2
  go_loopw [1, 5] (fun p x wr => ∃ (k : Nat) (r : Int), k ≤ len ∧ x = .int .i64 k ∧ p = .int .i64 r ∧ 0 ≤ r ∧ r ≤ l ∧ Hid (∀ x, x ∈ xs.take k → (x.mc.size : Int) ≤ 1048576) ∧ Hid (Grw w wr)) (fun _ x _ => len - (intOf x).toNat)
  case atStart => exact ⟨0, l - len, Nat.zero_le _, rfl, rfl, by omega, by omega, (fun x hx => by simp at hx), Grw.refl _⟩
  case round =>
    obtain ⟨k, r, hk, rfl, rfl, hr0, hr1, HR, HG⟩ := hrel
    by_cases hlt : k < len
    · obtain ⟨x, hx⟩ := at_of hl hlt
      obtain ⟨b, off, vs, rfl, hb, hvl, hR, hc⟩ := RW.out.at FR.kp HG.out.below hx
      have HS : Hid (xs.take (k + 1) = xs.take k ++ [x]) := takeS_next hx
      obtain ⟨pr, mc, si, sp, di, dp, st, un, ow⟩ := x
      obtain ⟨rfl, hok⟩ := hR
      have q0 : wr.cell? ⟨b, off + k * 9, none⟩ = some (.int .i64 pr) := hc 0 _ rfl
      have q1 : wr.cell? ⟨b, off + k * 9 + 1, none⟩ = some (.string mc) := hc 1 _ rfl
      have q2 : wr.cell? ⟨b, off + k * 9 + 2, none⟩ = some (.int .i64 si) := hc 2 _ rfl
      have q3 : wr.cell? ⟨b, off + k * 9 + 3, none⟩ = some (.int .i64 sp) := hc 3 _ rfl
      have q4 : wr.cell? ⟨b, off + k * 9 + 4, none⟩ = some (.int .i64 di) := hc 4 _ rfl
      have q5 : wr.cell? ⟨b, off + k * 9 + 5, none⟩ = some (.int .i64 dp) := hc 5 _ rfl
      have q6 : wr.cell? ⟨b, off + k * 9 + 6, none⟩ = some (.int .i64 st) := hc 6 _ rfl
      have q7 : wr.cell? ⟨b, off + k * 9 + 7, none⟩ = some (.int .i64 un) := hc 7 _ rfl
      have q8 : wr.cell? ⟨b, off + k * 9 + 8, none⟩ = some (.int .i64 ow) := hc 8 _ rfl
      have HN : Hid (∀ w, Calls Tryz.prog 147 #[.agg #[.int .i64 pr, .string mc, .int .i64 si, .int .i64 sp, .int .i64 di, .int .i64 dp, .int .i64 st, .int .i64 un, .int .i64 ow], .int .i64 r] w fun e w' => ∃ r' : Int, e = .returned (.int .i64 r') ∧ (0 ≤ r' → r' ≤ r ∧ (mc.size : Int) ≤ r) ∧ -1 ≤ r' ∧ r' ≤ 1048576 ∧ Grw w w') := fun w => by
        unfold FlRok maxLen at hok; dsimp only at hok
        exact szFlow_any pr mc si sp di dp st un ow r w (by omega) hr0 (by omega)
      have hltz : (k : Int) < (len : Int) := by omega
      clear hc hvl hx hok
      go_wp2_with fail
      refine (HN.out _).mono ?_
      rintro e w1 ⟨r', rfl, hr', hr2, hr3, g1⟩
      have HG1 : Hid (Grw w w1) := HG.out.trans g1
      clear q0 q1 q2 q3 q4 q5 q6 q7 q8 HN g1 HG
      by_cases hneg : r' < 0
      · go_wp2
        go_ret
        exact ⟨-1, rfl, fun h => absurd h (by omega), by omega, by omega, HG1.out⟩
      · have h2 := hr' (by omega)
        have HR' : Hid (∀ x, x ∈ xs.take (k + 1) → (x.mc.size : Int) ≤ 1048576) := by
          intro x hx
          rw [HS.out] at hx
          rcases List.mem_append.1 hx with h | h
          · exact HR.out x h
          · simp at h
            subst h
            show (mc.size : Int) ≤ 1048576
            omega
        have h3 : r' ≤ l := by omega
        clear HR HS hr' h2
        go_wp2
        go_roundw
        case rel => exact ⟨k + 1, r', by omega, by go_num, rfl, by omega, h3, HR', HG1⟩
        case measure => simp [intOf]; omega
    · obtain rfl : k = len := by omega
      have hfin : Hid (∀ x, x ∈ xs → (x.mc.size : Int) ≤ 1048576) := by
        have e1 := HR.out
        rw [List.take_of_length_le (by omega)] at e1
        exact e1
      go_wp2
      go_ret
      exact ⟨r, rfl, fun _ => ⟨by omega, by omega, hfin.out⟩, by omega, by omega, HG.out⟩

end Go.Proofs.YtlebblmlbhnppaaGreat

namespace Go.Proofs.YtlebblmlbhnppaaGreat
open Go.RowKit Go.PlainAid Go.Proofs.YtlebblmlbhnppaaGreat.Bt Go.Sort
set_option linter.unusedVariables false
set_option maxRecDepth 20000
set_option maxHeartbeats 2000000 in
theorem toConn_any (mc : ByteArray) (ip po di st un nx wa : Int) (inn out : ByteArray) (fin : Bool) (w : World) :
    Calls Tryz.prog 153 #[.agg #[.string mc, .int .i64 ip, .int .i64 po, .int .i64 di, .int .i64 st, .int .i64 un, .int .i64 nx, .int .i64 wa, .string inn, .string out, .bool fin]] w fun e w' => e = .returned (.agg #[.string mc, .int .i64 ip, .int .i64 po, .int .i64 di, .int .i64 st, .int .i64 un, .int .i64 nx, .int .i64 wa, .string inn, .string out, .bool fin]) ∧ Grw w w' := by
  go_enter Tryz.func153, Tryz.ntmps153
  go_wp2
  (try simp only [Exit.inBlock, Exit.then])
  refine bodyPost_ret (v := .agg #[.string mc, .int .i64 ip, .int .i64 po, .int .i64 di, .int .i64 st, .int .i64 un, .int .i64 nx, .int .i64 wa, .string inn, .string out, .bool fin]) (by simp [results, Tryz.results153, go_sem]; try rfl) rfl ?_
  exact ⟨rfl, ((((Grw.refl _).alloc _).alloc _).alloc _)⟩
set_option maxHeartbeats 1000000 in
theorem eqConn_any (mc : ByteArray) (ip po di st un nx wa : Int) (inn out : ByteArray) (fin : Bool) (w : World) :
    Calls Tryz.prog 132 #[.agg #[.string mc, .int .i64 ip, .int .i64 po, .int .i64 di, .int .i64 st, .int .i64 un, .int .i64 nx, .int .i64 wa, .string inn, .string out, .bool fin], .agg #[.string mc, .int .i64 ip, .int .i64 po, .int .i64 di, .int .i64 st, .int .i64 un, .int .i64 nx, .int .i64 wa, .string inn, .string out, .bool fin]] w fun e w' => e = .returned (.bool true) ∧ Grw w w' := by
  have h0 : (mc.toList == mc.toList) = true := by simp
  have h1 : (ip != ip) = false := by simp
  have h2 : (po != po) = false := by simp
  have h3 : (di != di) = false := by simp
  have h4 : (st != st) = false := by simp
  have h5 : (un != un) = false := by simp
  have h6 : (nx != nx) = false := by simp
  have h7 : (wa != wa) = false := by simp
  have h8 : (inn.toList == inn.toList) = true := by simp
  have h9 : (out.toList == out.toList) = true := by simp
  have h10 : (fin != fin) = false := by simp
  go_enter Tryz.func132, Tryz.ntmps132
  go_wp2
  go_ret
  exact ⟨rfl, ((Grw.refl _).alloc _).alloc _⟩
set_option maxHeartbeats 1000000 in
theorem szConn_any (mc : ByteArray) (ip po di st un nx wa : Int) (inn out : ByteArray) (fin : Bool) (l : Int) (w : World) (hmc : mc.size ≤ 9223372036854775807) (hinn : inn.size ≤ 9223372036854775807) (hout : out.size ≤ 9223372036854775807) (h0 : 0 ≤ l) (h1 : l ≤ 1048576) :
    Calls Tryz.prog 148 #[.agg #[.string mc, .int .i64 ip, .int .i64 po, .int .i64 di, .int .i64 st, .int .i64 un, .int .i64 nx, .int .i64 wa, .string inn, .string out, .bool fin], .int .i64 l] w fun e w' => ∃ r : Int, e = .returned (.int .i64 r) ∧ (0 ≤ r → r ≤ l ∧ (mc.size : Int) ≤ l ∧ (inn.size : Int) ≤ l ∧ (out.size : Int) ≤ l) ∧ -1 ≤ r ∧ r ≤ 1048576 ∧ Grw w w' := by
  by_cases hx0 : l - (mc.size : Int) < 0
  · go_enter Tryz.func148, Tryz.ntmps148
    go_wp2
    go_ret
    exact ⟨-1, rfl, fun h => absurd h (by omega), by omega, by omega, (Grw.refl _).alloc _⟩
  by_cases hx1 : l - (mc.size : Int) - (inn.size : Int) < 0
  · go_enter Tryz.func148, Tryz.ntmps148
    go_wp2
    go_ret
    exact ⟨-1, rfl, fun h => absurd h (by omega), by omega, by omega, (Grw.refl _).alloc _⟩
  by_cases hx2 : l - (mc.size : Int) - (inn.size : Int) - (out.size : Int) < 0
  · go_enter Tryz.func148, Tryz.ntmps148
    go_wp2
    go_ret
    exact ⟨-1, rfl, fun h => absurd h (by omega), by omega, by omega, (Grw.refl _).alloc _⟩
  go_enter Tryz.func148, Tryz.ntmps148
  go_wp2
  go_ret
  exact ⟨_, rfl, fun _ => ⟨by omega, by omega, by omega, by omega⟩, by omega, by omega, (Grw.refl _).alloc _⟩
theorem infoSegment : (Tryz.prog.info? 146).map (fun i => (i.zero, i.size, i.bytes)) = some (some (.agg #[.int .i64 0, .int .i64 0, .int .i64 0, .int .i64 0, .int .i64 0, .int .i64 0, .string ⟨#[]⟩]), 7, 64) := by kernel_rfl
end Go.Proofs.YtlebblmlbhnppaaGreat

namespace Go.Proofs.YtlebblmlbhnppaaGreat
open Go.RowKit Go.PlainAid Go.Proofs.YtlebblmlbhnppaaGreat.Bt Go.Sort
set_option linter.unusedVariables false
set_option maxRecDepth 20000
theorem infoConn : (Tryz.prog.info? 206).map (fun i => (i.zero, i.size, i.bytes)) = some (some (.agg #[.string ⟨#[]⟩, .int .i64 0, .int .i64 0, .int .i64 0, .int .i64 0, .int .i64 0, .int .i64 0, .int .i64 0, .string ⟨#[]⟩, .string ⟨#[]⟩, .bool false]), 11, 112) := by kernel_rfl
theorem zConn : (#[.string ⟨#[]⟩, .int .i64 0, .int .i64 0, .int .i64 0, .int .i64 0, .int .i64 0, .int .i64 0, .int .i64 0, .string ⟨#[]⟩, .string ⟨#[]⟩, .bool false] : Array Value).toList = cnG default := rfl
set_option maxHeartbeats 2000000 in
theorem toConnS_any (a : Option Addr) (len cap : Nat) (xs : List ConnV) (w : World) (h : Rw CnR 11 w a xs) (hl : xs.length = len) (hc : len ≤ 1048576) :
    Calls Tryz.prog 80 #[.slice a len cap] w fun e w' => e = .returned (.slice (some ⟨w.heap.size, 0, none⟩) len len) ∧ OwnS cnG 11 206 w' w.heap.size (.slice (some ⟨w.heap.size, 0, none⟩) len len) xs ∧ (∀ x, x ∈ xs → CnRok x) ∧ Below w.heap.size w w' := by
  have RW : Hid (Rw CnR 11 w a xs) := h
  have HK : Hid (∀ x, x ∈ xs → CnRok x) := by
    intro x hx
    obtain ⟨i, hi⟩ := List.getElem?_of_mem hx
    obtain ⟨b, off, vs, _, _, _, h2, _⟩ := h.at FR.kp (Below.refl _ _) hi
    exact h2.2
  clear h
  obtain ⟨i0, hi, hz0, hz1, hz2⟩ := info_parts infoConn
  have hmk := run_make (P := Tryz.prog) w 48 206 i0 (.agg #[.string ⟨#[]⟩, .int .i64 0, .int .i64 0, .int .i64 0, .int .i64 0, .int .i64 0, .int .i64 0, .int .i64 0, .string ⟨#[]⟩, .string ⟨#[]⟩, .bool false]) Tryz.underlying48 hi hz0 .i64 .i64 len len (by omega) (Int.le_refl _) (by rw [hz2]; omega) (by omega)
  rw [hz1, Int.toNat_natCast] at hmk
  have HM : Hid (OwnS cnG 11 206 (w.alloc (.cells (madeCells #[.string ⟨#[]⟩, .int .i64 0, .int .i64 0, .int .i64 0, .int .i64 0, .int .i64 0, .int .i64 0, .int .i64 0, .string ⟨#[]⟩, .string ⟨#[]⟩, .bool false] (len * 11)) 206)) w.heap.size (.slice (some ⟨w.heap.size, 0, none⟩) len len) (List.replicate len default) ∧ Below w.heap.size w (w.alloc (.cells (madeCells #[.string ⟨#[]⟩, .int .i64 0, .int .i64 0, .int .i64 0, .int .i64 0, .int .i64 0, .int .i64 0, .int .i64 0, .string ⟨#[]⟩, .string ⟨#[]⟩, .bool false] (len * 11)) 206))) := ⟨OwnS.made w _ _ len default _ zConn rfl (by omega) (Nat.le_refl _) (by unfold maxLen; omega), (Below.refl _ _).alloc (Nat.le_refl _) _⟩
  have hmk2 : (Instr.makeSlice 48 (.int .i64 (len : Int)) (.int .i64 (len : Int))).run Tryz.prog w = .ok (.slice (some ⟨w.heap.size, 0, none⟩) len len) (w.alloc (.cells (madeCells #[.string ⟨#[]⟩, .int .i64 0, .int .i64 0, .int .i64 0, .int .i64 0, .int .i64 0, .int .i64 0, .int .i64 0, .string ⟨#[]⟩, .string ⟨#[]⟩, .bool false] (len * 11)) 206)) := hmk
  clear hmk hi hz0 hz1 hz2
  obtain ⟨W, hW⟩ : ∃ W, W = w.alloc (.cells (madeCells #[.string ⟨#[]⟩, .int .i64 0, .int .i64 0, .int .i64 0, .int .i64 0, .int .i64 0, .int .i64 0, .int .i64 0, .string ⟨#[]⟩, .string ⟨#[]⟩, .bool false] (len * 11)) 206) := ⟨_, rfl⟩
  rw [← hW] at HM hmk2
  clear hW
  go_enter Tryz.func80, Tryz.ntmps80
  go_wp2
  go_loopw [4] (fun i wr => ∃ (k : Nat) (L : List ConnV), k ≤ len ∧ i = .int .i64 k ∧ Hid (OwnS cnG 11 206 wr w.heap.size (.slice (some ⟨w.heap.size, 0, none⟩) len len) L ∧ L.length = len ∧ L.take k = xs.take k ∧ Below w.heap.size w wr)) (fun i _ => len - (intOf i).toNat)
  case atStart => exact ⟨0, _, Nat.zero_le _, rfl, HM.out.1, List.length_replicate .., rfl, HM.out.2⟩
  case round =>
    obtain ⟨k, L, hk, rfl, X⟩ := hrel
    by_cases hlt : k < len
    · obtain ⟨x, hx⟩ := at_of hl hlt
      obtain ⟨b, off, vs, rfl, hb, hvl, hR, hc⟩ := RW.out.at FR.kp X.out.2.2.2 hx
      have TS : Hid ((L.set k x).take (k + 1) = xs.take (k + 1)) := takeS_set (by rw [X.out.2.1, hl]) hx X.out.2.2.1
      obtain ⟨mc, ip, po, di, st, un, nx, wa, inn, out, fin⟩ := x
      obtain ⟨rfl, hok⟩ := hR
      clear hok
      have q0 : wr.cell? ⟨b, off + k * 11, none⟩ = some (.string mc) := hc 0 _ rfl
      have q1 : wr.cell? ⟨b, off + k * 11 + 1, none⟩ = some (.int .i64 ip) := hc 1 _ rfl
      have q2 : wr.cell? ⟨b, off + k * 11 + 2, none⟩ = some (.int .i64 po) := hc 2 _ rfl
      have q3 : wr.cell? ⟨b, off + k * 11 + 3, none⟩ = some (.int .i64 di) := hc 3 _ rfl
      have q4 : wr.cell? ⟨b, off + k * 11 + 4, none⟩ = some (.int .i64 st) := hc 4 _ rfl
      have q5 : wr.cell? ⟨b, off + k * 11 + 5, none⟩ = some (.int .i64 un) := hc 5 _ rfl
      have q6 : wr.cell? ⟨b, off + k * 11 + 6, none⟩ = some (.int .i64 nx) := hc 6 _ rfl
      have q7 : wr.cell? ⟨b, off + k * 11 + 7, none⟩ = some (.int .i64 wa) := hc 7 _ rfl
      have q8 : wr.cell? ⟨b, off + k * 11 + 8, none⟩ = some (.string inn) := hc 8 _ rfl
      have q9 : wr.cell? ⟨b, off + k * 11 + 9, none⟩ = some (.string out) := hc 9 _ rfl
      have q10 : wr.cell? ⟨b, off + k * 11 + 10, none⟩ = some (.bool fin) := hc 10 _ rfl
      have HT : Hid (∀ w, Calls Tryz.prog 153 #[.agg #[.string mc, .int .i64 ip, .int .i64 po, .int .i64 di, .int .i64 st, .int .i64 un, .int .i64 nx, .int .i64 wa, .string inn, .string out, .bool fin]] w fun e w' => e = .returned (.agg #[.string mc, .int .i64 ip, .int .i64 po, .int .i64 di, .int .i64 st, .int .i64 un, .int .i64 nx, .int .i64 wa, .string inn, .string out, .bool fin]) ∧ Grw w w') := fun w => toConn_any mc ip po di st un nx wa inn out fin w
      have hltz : (k : Int) < (len : Int) := by omega
      clear hc
      go_wp2_with fail
      refine (HT.out _).mono ?_
      rintro e w1 ⟨rfl, g1⟩
      have b1 := g1.below
      have o1 := X.out.1.now b1
      obtain ⟨y, hy⟩ := at_of (k := k) X.out.2.1 hlt
      obtain ⟨c0, z0⟩ := o1.cell cnG_len (j := 0) hy rfl
      obtain ⟨c1, z1⟩ := o1.cell cnG_len (j := 1) hy rfl
      obtain ⟨c2, z2⟩ := o1.cell cnG_len (j := 2) hy rfl
      obtain ⟨c3, z3⟩ := o1.cell cnG_len (j := 3) hy rfl
      obtain ⟨c4, z4⟩ := o1.cell cnG_len (j := 4) hy rfl
      obtain ⟨c5, z5⟩ := o1.cell cnG_len (j := 5) hy rfl
      obtain ⟨c6, z6⟩ := o1.cell cnG_len (j := 6) hy rfl
      obtain ⟨c7, z7⟩ := o1.cell cnG_len (j := 7) hy rfl
      obtain ⟨c8, z8⟩ := o1.cell cnG_len (j := 8) hy rfl
      obtain ⟨c9, z9⟩ := o1.cell cnG_len (j := 9) hy rfl
      obtain ⟨c10, z10⟩ := o1.cell cnG_len (j := 10) hy rfl
      replace c0 : w1.cell? ⟨w.heap.size, k * 11, none⟩ = some (.string y.mc) := c0
      replace z0 : w1.frozen? ⟨w.heap.size, k * 11, none⟩ = false := z0
      have Y0 : ∀ W1, W1 = ((((((((((w1.setCell ⟨w.heap.size, k * 11, none⟩ (.string mc)).setCell ⟨w.heap.size, k * 11 + 1, none⟩ (.int .i64 ip)).setCell ⟨w.heap.size, k * 11 + 2, none⟩ (.int .i64 po)).setCell ⟨w.heap.size, k * 11 + 3, none⟩ (.int .i64 di)).setCell ⟨w.heap.size, k * 11 + 4, none⟩ (.int .i64 st)).setCell ⟨w.heap.size, k * 11 + 5, none⟩ (.int .i64 un)).setCell ⟨w.heap.size, k * 11 + 6, none⟩ (.int .i64 nx)).setCell ⟨w.heap.size, k * 11 + 7, none⟩ (.int .i64 wa)).setCell ⟨w.heap.size, k * 11 + 8, none⟩ (.string inn)).setCell ⟨w.heap.size, k * 11 + 9, none⟩ (.string out)).setCell ⟨w.heap.size, k * 11 + 10, none⟩ (.bool fin) → OwnS cnG 11 206 W1 w.heap.size (.slice (some ⟨w.heap.size, 0, none⟩) len len) (L.set k ⟨mc, ip, po, di, st, un, nx, wa, inn, out, fin⟩) ∧ (L.set k ⟨mc, ip, po, di, st, un, nx, wa, inn, out, fin⟩).length = len ∧ (L.set k ⟨mc, ip, po, di, st, un, nx, wa, inn, out, fin⟩).take (k + 1) = xs.take (k + 1) ∧ Below w.heap.size w W1 := by
        intro W1 hW1
        have h2 := o1.store cnG_len hlt ⟨mc, ip, po, di, st, un, nx, wa, inn, out, fin⟩
        have e3 : W1 = wsets w1 w.heap.size (k * 11) (cnG ⟨mc, ip, po, di, st, un, nx, wa, inn, out, fin⟩) := hW1
        rw [← e3] at h2
        exact ⟨h2.1, by rw [List.length_set]; exact X.out.2.1, TS.out, (X.out.2.2.2.trans (b1.mono X.out.2.2.2.size)).trans (below_row h2.2 (Nat.le_refl _) (Nat.le_trans X.out.2.2.2.size b1.size))⟩
      have Y : Hid (OwnS cnG 11 206 (((((((((((w1.setCell ⟨w.heap.size, k * 11, none⟩ (.string mc)).setCell ⟨w.heap.size, k * 11 + 1, none⟩ (.int .i64 ip)).setCell ⟨w.heap.size, k * 11 + 2, none⟩ (.int .i64 po)).setCell ⟨w.heap.size, k * 11 + 3, none⟩ (.int .i64 di)).setCell ⟨w.heap.size, k * 11 + 4, none⟩ (.int .i64 st)).setCell ⟨w.heap.size, k * 11 + 5, none⟩ (.int .i64 un)).setCell ⟨w.heap.size, k * 11 + 6, none⟩ (.int .i64 nx)).setCell ⟨w.heap.size, k * 11 + 7, none⟩ (.int .i64 wa)).setCell ⟨w.heap.size, k * 11 + 8, none⟩ (.string inn)).setCell ⟨w.heap.size, k * 11 + 9, none⟩ (.string out)).setCell ⟨w.heap.size, k * 11 + 10, none⟩ (.bool fin)) w.heap.size (.slice (some ⟨w.heap.size, 0, none⟩) len len) (L.set k ⟨mc, ip, po, di, st, un, nx, wa, inn, out, fin⟩) ∧ (L.set k ⟨mc, ip, po, di, st, un, nx, wa, inn, out, fin⟩).length = len ∧ (L.set k ⟨mc, ip, po, di, st, un, nx, wa, inn, out, fin⟩).take (k + 1) = xs.take (k + 1) ∧ Below w.heap.size w (((((((((((w1.setCell ⟨w.heap.size, k * 11, none⟩ (.string mc)).setCell ⟨w.heap.size, k * 11 + 1, none⟩ (.int .i64 ip)).setCell ⟨w.heap.size, k * 11 + 2, none⟩ (.int .i64 po)).setCell ⟨w.heap.size, k * 11 + 3, none⟩ (.int .i64 di)).setCell ⟨w.heap.size, k * 11 + 4, none⟩ (.int .i64 st)).setCell ⟨w.heap.size, k * 11 + 5, none⟩ (.int .i64 un)).setCell ⟨w.heap.size, k * 11 + 6, none⟩ (.int .i64 nx)).setCell ⟨w.heap.size, k * 11 + 7, none⟩ (.int .i64 wa)).setCell ⟨w.heap.size, k * 11 + 8, none⟩ (.string inn)).setCell ⟨w.heap.size, k * 11 + 9, none⟩ (.string out)).setCell ⟨w.heap.size, k * 11 + 10, none⟩ (.bool fin))) := Y0 _ rfl
      clear Y0
      clear o1 b1 g1 q0 q1 q2 q3 q4 q5 q6 q7 q8 q9 q10 HT X HM hmk2 hx hy TS
      go_wp2
      go_roundw
      case rel => exact ⟨k + 1, _, by omega, by go_num, Y⟩
      case measure => simp [intOf]; omega
    · obtain rfl : k = len := by omega
      have e1 : L = xs := by
        have := X.out.2.2.1
        rw [List.take_of_length_le (by rw [X.out.2.1]; exact Nat.le_refl _), List.take_of_length_le (by omega)] at this
        exact this
      subst e1
      go_wp2
      go_ret
      exact ⟨rfl, X.out.1, HK.out, X.out.2.2.2⟩
set_option maxHeartbeats 2000000 in
theorem eqConnS_yes (a a' : Option Addr) (len cap cap' : Nat) (xs : List ConnV) (w : World) (h : Rw CnR 11 w a xs) (h' : Rw CnR 11 w a' xs) (hl : xs.length = len) (hlen : len ≤ 9223372036854775807) :
    Calls Tryz.prog 52 #[.slice a len cap, .slice a' len cap'] w fun e w' => e = .returned (.bool true) ∧ Grw w w' := by
  have hne : ((len : Int) != (len : Int)) = false := by simp
  have hmix : Tryz.prog.follows .mixedOrders = true := by kernel_rfl
  have RW : Hid (Rw CnR 11 w a xs) := h
  have RW' : Hid (Rw CnR 11 w a' xs) := h'
  clear h h'
  go_enter Tryz.func52, Tryz.ntmps52
  go_wp2
  go_loopw [5] (fun i wr => ∃ k : Nat, k ≤ len ∧ i = .int .i64 k ∧ Hid (Grw w wr)) (fun i _ => len - (intOf i).toNat)
  case atStart => exact ⟨0, Nat.zero_le _, rfl, Grw.refl w⟩
  case round =>
    obtain ⟨k, hk, rfl, HG⟩ := hrel
    by_cases hlt : k < len
    · obtain ⟨x, hx⟩ := at_of hl hlt
      obtain ⟨b, off, vs, rfl, hb, hvl, hR, hc⟩ := RW.out.at FR.kp HG.out.below hx
      obtain ⟨b', off', vs', rfl, hb', hvl', hR', hc'⟩ := RW'.out.at FR.kp HG.out.below hx
      obtain ⟨mc, ip, po, di, st, un, nx, wa, inn, out, fin⟩ := x
      obtain ⟨rfl, -⟩ := hR
      obtain ⟨rfl, -⟩ := hR'
      have q0 : ∀ n os, (grow (wr.drewN n) os).cell? ⟨b, off + k * 11, none⟩ = some (.string mc) := fun n os => grown_cell hb HG.out (hc 0 _ rfl) n os
      have q1 : ∀ n os, (grow (wr.drewN n) os).cell? ⟨b, off + k * 11 + 1, none⟩ = some (.int .i64 ip) := fun n os => grown_cell hb HG.out (hc 1 _ rfl) n os
      have q2 : ∀ n os, (grow (wr.drewN n) os).cell? ⟨b, off + k * 11 + 2, none⟩ = some (.int .i64 po) := fun n os => grown_cell hb HG.out (hc 2 _ rfl) n os
      have q3 : ∀ n os, (grow (wr.drewN n) os).cell? ⟨b, off + k * 11 + 3, none⟩ = some (.int .i64 di) := fun n os => grown_cell hb HG.out (hc 3 _ rfl) n os
      have q4 : ∀ n os, (grow (wr.drewN n) os).cell? ⟨b, off + k * 11 + 4, none⟩ = some (.int .i64 st) := fun n os => grown_cell hb HG.out (hc 4 _ rfl) n os
      have q5 : ∀ n os, (grow (wr.drewN n) os).cell? ⟨b, off + k * 11 + 5, none⟩ = some (.int .i64 un) := fun n os => grown_cell hb HG.out (hc 5 _ rfl) n os
      have q6 : ∀ n os, (grow (wr.drewN n) os).cell? ⟨b, off + k * 11 + 6, none⟩ = some (.int .i64 nx) := fun n os => grown_cell hb HG.out (hc 6 _ rfl) n os
      have q7 : ∀ n os, (grow (wr.drewN n) os).cell? ⟨b, off + k * 11 + 7, none⟩ = some (.int .i64 wa) := fun n os => grown_cell hb HG.out (hc 7 _ rfl) n os
      have q8 : ∀ n os, (grow (wr.drewN n) os).cell? ⟨b, off + k * 11 + 8, none⟩ = some (.string inn) := fun n os => grown_cell hb HG.out (hc 8 _ rfl) n os
      have q9 : ∀ n os, (grow (wr.drewN n) os).cell? ⟨b, off + k * 11 + 9, none⟩ = some (.string out) := fun n os => grown_cell hb HG.out (hc 9 _ rfl) n os
      have q10 : ∀ n os, (grow (wr.drewN n) os).cell? ⟨b, off + k * 11 + 10, none⟩ = some (.bool fin) := fun n os => grown_cell hb HG.out (hc 10 _ rfl) n os
      have r0 : ∀ n os, (grow (wr.drewN n) os).cell? ⟨b', off' + k * 11, none⟩ = some (.string mc) := fun n os => grown_cell hb' HG.out (hc' 0 _ rfl) n os
      have r1 : ∀ n os, (grow (wr.drewN n) os).cell? ⟨b', off' + k * 11 + 1, none⟩ = some (.int .i64 ip) := fun n os => grown_cell hb' HG.out (hc' 1 _ rfl) n os
      have r2 : ∀ n os, (grow (wr.drewN n) os).cell? ⟨b', off' + k * 11 + 2, none⟩ = some (.int .i64 po) := fun n os => grown_cell hb' HG.out (hc' 2 _ rfl) n os
      have r3 : ∀ n os, (grow (wr.drewN n) os).cell? ⟨b', off' + k * 11 + 3, none⟩ = some (.int .i64 di) := fun n os => grown_cell hb' HG.out (hc' 3 _ rfl) n os
      have r4 : ∀ n os, (grow (wr.drewN n) os).cell? ⟨b', off' + k * 11 + 4, none⟩ = some (.int .i64 st) := fun n os => grown_cell hb' HG.out (hc' 4 _ rfl) n os
      have r5 : ∀ n os, (grow (wr.drewN n) os).cell? ⟨b', off' + k * 11 + 5, none⟩ = some (.int .i64 un) := fun n os => grown_cell hb' HG.out (hc' 5 _ rfl) n os
      have r6 : ∀ n os, (grow (wr.drewN n) os).cell? ⟨b', off' + k * 11 + 6, none⟩ = some (.int .i64 nx) := fun n os => grown_cell hb' HG.out (hc' 6 _ rfl) n os
      have r7 : ∀ n os, (grow (wr.drewN n) os).cell? ⟨b', off' + k * 11 + 7, none⟩ = some (.int .i64 wa) := fun n os => grown_cell hb' HG.out (hc' 7 _ rfl) n os
      have r8 : ∀ n os, (grow (wr.drewN n) os).cell? ⟨b', off' + k * 11 + 8, none⟩ = some (.string inn) := fun n os => grown_cell hb' HG.out (hc' 8 _ rfl) n os
      have r9 : ∀ n os, (grow (wr.drewN n) os).cell? ⟨b', off' + k * 11 + 9, none⟩ = some (.string out) := fun n os => grown_cell hb' HG.out (hc' 9 _ rfl) n os
      have r10 : ∀ n os, (grow (wr.drewN n) os).cell? ⟨b', off' + k * 11 + 10, none⟩ = some (.bool fin) := fun n os => grown_cell hb' HG.out (hc' 10 _ rfl) n os
      have HE : Hid (∀ w, Calls Tryz.prog 132 #[.agg #[.string mc, .int .i64 ip, .int .i64 po, .int .i64 di, .int .i64 st, .int .i64 un, .int .i64 nx, .int .i64 wa, .string inn, .string out, .bool fin], .agg #[.string mc, .int .i64 ip, .int .i64 po, .int .i64 di, .int .i64 st, .int .i64 un, .int .i64 nx, .int .i64 wa, .string inn, .string out, .bool fin]] w fun e w' => e = .returned (.bool true) ∧ Grw w w') := fun w => eqConn_any mc ip po di st un nx wa inn out fin w
      have hltz : (k : Int) < (len : Int) := by omega
      clear hc hc'
      go_wp2_with fail
      refine wp_region_quiet_grown (by assumption) (by kernel_rfl) ?_
      repeat (go_big_quiet_step (first | fail | (go_at_call 132; exact Calls.grown_of (HE.out _))))
      refine wpQuiet_nil ?_
      intro _ hw'
      obtain ⟨⟨nq, osq⟩, hw''⟩ := hw'
      subst hw''
      have HG2 : Hid (Grw w (grow (wr.drewN nq) osq)) := HG.out.trans ⟨nq, osq, rfl⟩
      clear q0 q1 q2 q3 q4 q5 q6 q7 q8 q9 q10 r0 r1 r2 r3 r4 r5 r6 r7 r8 r9 r10 HG HE
      go_wp2
      go_roundw
      case rel => exact ⟨k + 1, by omega, by go_num, HG2⟩
      case measure => simp [intOf]; omega
    · obtain rfl : k = len := by omega
      go_wp2
      go_ret
      exact ⟨rfl, HG.out⟩

set_option maxHeartbeats 2000000 in
theorem szConnS_any (a : Option Addr) (len cap : Nat) (xs : List ConnV) (l : Int) (w : World) (h : Rw CnR 11 w a xs) (hl : xs.length = len) (hlm : len ≤ 9223372036854775807) (h0 : 0 ≤ l) (h1 : l ≤ 1048576) :
    Calls Tryz.prog 73 #[.slice a len cap, .int .i64 l] w fun e w' => ∃ r : Int, e = .returned (.int .i64 r) ∧ (0 ≤ r → (len : Int) ≤ l ∧ r ≤ l ∧ ∀ x, x ∈ xs → ((x.mc.size : Int) ≤ 1048576 ∧ (x.inn.size : Int) ≤ 1048576 ∧ (x.out.size : Int) ≤ 1048576)) ∧ -1 ≤ r ∧ r ≤ 1048576 ∧ Grw w w' := by
  have RW : Hid (Rw CnR 11 w a xs) := h
  clear h
  by_cases hle : (len : Int) ≤ l
  rotate_left
  · go_enter Tryz.func73, Tryz.ntmps73
    go_wp2
    go_ret
    exact ⟨-1, rfl, fun h => absurd h (by omega), by omega, by omega, Grw.refl _⟩
  go_enter Tryz.func73, Tryz.ntmps73
  go_wp2
  go_loopw [1, 5] (fun p x wr => ∃ (k : Nat) (r : Int), k ≤ len ∧ x = .int .i64 k ∧ p = .int .i64 r ∧ 0 ≤ r ∧ r ≤ l ∧ Hid (∀ x, x ∈ xs.take k → ((x.mc.size : Int) ≤ 1048576 ∧ (x.inn.size : Int) ≤ 1048576 ∧ (x.out.size : Int) ≤ 1048576)) ∧ Hid (Grw w wr)) (fun _ x _ => len - (intOf x).toNat)
  case atStart => exact ⟨0, l - len, Nat.zero_le _, rfl, rfl, by omega, by omega, (fun x hx => by simp at hx), Grw.refl _⟩
  case round =>
    obtain ⟨k, r, hk, rfl, rfl, hr0, hr1, HR, HG⟩ := hrel
    by_cases hlt : k < len
    · obtain ⟨x, hx⟩ := at_of hl hlt
      obtain ⟨b, off, vs, rfl, hb, hvl, hR, hc⟩ := RW.out.at FR.kp HG.out.below hx
      have HS : Hid (xs.take (k + 1) = xs.take k ++ [x]) := takeS_next hx
      obtain ⟨mc, ip, po, di, st, un, nx, wa, inn, out, fin⟩ := x
      obtain ⟨rfl, hok⟩ := hR
      have q0 : wr.cell? ⟨b, off + k * 11, none⟩ = some (.string mc) := hc 0 _ rfl
      have q1 : wr.cell? ⟨b, off + k * 11 + 1, none⟩ = some (.int .i64 ip) := hc 1 _ rfl
      have q2 : wr.cell? ⟨b, off + k * 11 + 2, none⟩ = some (.int .i64 po) := hc 2 _ rfl
      have q3 : wr.cell? ⟨b, off + k * 11 + 3, none⟩ = some (.int .i64 di) := hc 3 _ rfl
      have q4 : wr.cell? ⟨b, off + k * 11 + 4, none⟩ = some (.int .i64 st) := hc 4 _ rfl
      have q5 : wr.cell? ⟨b, off + k * 11 + 5, none⟩ = some (.int .i64 un) := hc 5 _ rfl
      have q6 : wr.cell? ⟨b, off + k * 11 + 6, none⟩ = some (.int .i64 nx) := hc 6 _ rfl
      have q7 : wr.cell? ⟨b, off + k * 11 + 7, none⟩ = some (.int .i64 wa) := hc 7 _ rfl
      have q8 : wr.cell? ⟨b, off + k * 11 + 8, none⟩ = some (.string inn) := hc 8 _ rfl
      have q9 : wr.cell? ⟨b, off + k * 11 + 9, none⟩ = some (.string out) := hc 9 _ rfl
      have q10 : wr.cell? ⟨b, off + k * 11 + 10, none⟩ = some (.bool fin) := hc 10 _ rfl
      have HN : Hid (∀ w, Calls Tryz.prog 148 #[.agg #[.string mc, .int .i64 ip, .int .i64 po, .int .i64 di, .int .i64 st, .int .i64 un, .int .i64 nx, .int .i64 wa, .string inn, .string out, .bool fin], .int .i64 r] w fun e w' => ∃ r' : Int, e = .returned (.int .i64 r') ∧ (0 ≤ r' → r' ≤ r ∧ (mc.size : Int) ≤ r ∧ (inn.size : Int) ≤ r ∧ (out.size : Int) ≤ r) ∧ -1 ≤ r' ∧ r' ≤ 1048576 ∧ Grw w w') := fun w => by
        unfold CnRok maxLen at hok; dsimp only at hok
        exact szConn_any mc ip po di st un nx wa inn out fin r w (by omega) (by omega) (by omega) hr0 (by omega)
      have hltz : (k : Int) < (len : Int) := by omega
      clear hc hvl hx hok
      go_wp2_with fail
      refine (HN.out _).mono ?_
      rintro e w1 ⟨r', rfl, hr', hr2, hr3, g1⟩
      have HG1 : Hid (Grw w w1) := HG.out.trans g1
      clear q0 q1 q2 q3 q4 q5 q6 q7 q8 q9 q10 HN g1 HG
      by_cases hneg : r' < 0
      · go_wp2
        go_ret
        exact ⟨-1, rfl, fun h => absurd h (by omega), by omega, by omega, HG1.out⟩
      · have h2 := hr' (by omega)
        have HR' : Hid (∀ x, x ∈ xs.take (k + 1) → ((x.mc.size : Int) ≤ 1048576 ∧ (x.inn.size : Int) ≤ 1048576 ∧ (x.out.size : Int) ≤ 1048576)) := by
          intro x hx
          rw [HS.out] at hx
          rcases List.mem_append.1 hx with h | h
          · exact HR.out x h
          · simp at h
            subst h
            show (mc.size : Int) ≤ 1048576 ∧ (inn.size : Int) ≤ 1048576 ∧ (out.size : Int) ≤ 1048576
            omega
        have h3 : r' ≤ l := by omega
        clear HR HS hr' h2
        go_wp2
        go_roundw
        case rel => exact ⟨k + 1, r', by omega, by go_num, rfl, by omega, h3, HR', HG1⟩
        case measure => simp [intOf]; omega
    · obtain rfl : k = len := by omega
      have hfin : Hid (∀ x, x ∈ xs → ((x.mc.size : Int) ≤ 1048576 ∧ (x.inn.size : Int) ≤ 1048576 ∧ (x.out.size : Int) ≤ 1048576)) := by
        have e1 := HR.out
        rw [List.take_of_length_le (by omega)] at e1
        exact e1
      go_wp2
      go_ret
      exact ⟨r, rfl, fun _ => ⟨by omega, by omega, hfin.out⟩, by omega, by omega, HG.out⟩

end Go.Proofs.YtlebblmlbhnppaaGreat

namespace Go.Proofs.YtlebblmlbhnppaaGreat
open Go.RowKit Go.PlainAid Go.Sort
set_option linter.unusedVariables false
set_option maxRecDepth 20000
theorem grown_set (w : World) (a : Addr) (u : Value) : w.grownBy (w.setCell a u) (some a.block) :=
  ⟨rfl, rfl, rfl, by simp [World.setCell], fun k _ hk => Below.heap_setCell _ _ _ _ (fun e => hk (by rw [e]))⟩
/-- A box: its cells, and they may be written. -/
structure Bx (w : World) (q : Nat) (cs : List Value) : Prop where
  cl : w.rangeAt q 0 cs
  th : w.there q 0 cs.length
theorem Bx.cell {w : World} {q : Nat} {cs : List Value} (h : Bx w q cs) (j : Nat) {v : Value} (hj : cs[j]? = some v) : w.cell? ⟨q, j, none⟩ = some v := by
  have := h.cl j v hj
  rwa [Nat.zero_add] at this
theorem Bx.thaw {w : World} {q : Nat} {cs : List Value} (h : Bx w q cs) (j : Nat) (hj : j < cs.length) : w.frozen? ⟨q, j, none⟩ = false := by
  have := (h.th j hj).2
  rwa [Nat.zero_add] at this
theorem Bx.of {w : World} {q : Nat} {cs : List Value} (hc : ∀ j v, cs[j]? = some v → w.cell? ⟨q, j, none⟩ = some v) (hf : ∀ j, j < cs.length → w.frozen? ⟨q, j, none⟩ = false) : Bx w q cs :=
  ⟨fun j v hv => by rw [Nat.zero_add]; exact hc j v hv, fun j hj => by rw [Nat.zero_add]; exact ⟨by rw [hc j _ (List.getElem?_eq_getElem hj)]; rfl, hf j hj⟩⟩
theorem Bx.below {w w' : World} {q : Nat} {cs : List Value} (h : Bx w q cs) (hb : Below w.heap.size w w') : Bx w' q cs :=
  Bx.of (fun j v hv => bkeep hb (h.cell j hv)) (fun j hj => bthaw hb (h.cell j (List.getElem?_eq_getElem hj)) (h.thaw j hj))
theorem Bx.put {w : World} {q : Nat} {cs : List Value} (h : Bx w q cs) (vs : List Value) (hl : vs.length = cs.length) : Bx (w.setCells q 0 vs) q vs :=
  ⟨w.rangeAt_setCells_same q 0 vs (by rw [hl]; exact h.th), fun j hj => ⟨World.isSome_setCells q vs 0 w _ (h.th j (by omega)).1, by rw [World.frozen?_setCells]; exact (h.th j (by omega)).2⟩⟩
theorem Bx.apart {w : World} {q p : Nat} {cs : List Value} (h : Bx w q cs) (vs : List Value) (hne : q ≠ p) : Bx (w.setCells p 0 vs) q cs :=
  ⟨World.rangeAt_setCells_apart h.cl p 0 vs (.inl hne), fun j hj => ⟨World.isSome_setCells p vs 0 w _ (h.th j hj).1, by rw [World.frozen?_setCells]; exact (h.th j hj).2⟩⟩
theorem below_cells {n : Nat} {w : World} {q : Nat} (hq : n ≤ q) : ∀ (vs : List Value) (o : Nat) (W : World), Below n w W → Below n w (W.setCells q o vs)
  | [], _, _, h => h
  | v :: r, o, W, h => by
    rw [World.setCells]
    exact below_cells hq r (o + 1) _ (h.setCell hq v)
theorem Bx.field {w : World} {q : Nat} {cs : List Value} (h : Bx w q cs) (j : Nat) (v : Value) : Bx (w.setCell ⟨q, j, none⟩ v) q (cs.set j v) := by
  refine Bx.of (fun i u hu => ?_) (fun i hi => ?_)
  · by_cases e : i = j
    · subst e
      have hi : i < cs.length := by have := (List.getElem?_eq_some_iff.1 hu).1; simpa using this
      rw [List.getElem?_set_self hi] at hu
      cases hu
      exact World.cell?_setCell_same _ _ _ (h.cell i (List.getElem?_eq_getElem hi))
    · rw [List.getElem?_set_ne (fun h => e h.symm)] at hu
      rw [World.cell?_setCell_other _ _ _ _ (fun h => e (by cases h; rfl))]
      exact h.cell i hu
  · rw [List.length_set] at hi
    rw [World.frozen?_setCell]
    exact h.thaw i hi
theorem Bx.far {w : World} {q : Nat} {cs : List Value} (h : Bx w q cs) (a : Addr) (v : Value) (hne : a.block ≠ q) : Bx (w.setCell a v) q cs :=
  Bx.of (fun i u hu => by rw [World.cell?_setCell_other _ _ _ _ (fun h => hne (by cases h; rfl))]; exact h.cell i hu) (fun i hi => by rw [World.frozen?_setCell]; exact h.thaw i hi)
/-- What a region reads: a box, and all below kept. -/
structure XQ (cb : Nat) (cs : List Value) (w wx : World) : Prop where
  c : Bx wx cb cs
  out : Below w.heap.size w wx
theorem XQ.below {cb : Nat} {cs : List Value} {w wx wy : World} (h : XQ cb cs w wx) (hb : Below wx.heap.size wx wy) : XQ cb cs w wy := ⟨h.c.below hb, h.out.trans (hb.mono h.out.size)⟩
theorem XQ.cells {cb rb : Nat} {cs vs : List Value} {w wx : World} (h : XQ cb cs w wx) (h1 : cb ≠ rb) (h2 : w.heap.size ≤ rb) : XQ cb cs w (wx.setCells rb 0 vs) := ⟨h.c.apart _ h1, below_cells h2 _ _ _ h.out⟩
theorem Bx.new (w : World) (cs : Array Value) (t : TypeId) : Bx (w.alloc (.cells cs t)) w.heap.size cs.toList :=
  Bx.of (fun j v hv => by rw [Array.getElem?_toList] at hv; simp [go_sem, hv]) (fun j hj => by simp [go_sem])
theorem wpl_putT {P : Program} {ops : Array Oper} {rest : List Oper} {op : Oper} {a : Act} {w : World} {Q : Exit → Act → World → Prop} (t : TypeId) (hgd : op.guard = none) (x y : Operand) (ho : op.op = .store t x y)
    (q : Nat) (cells : Array Value) (hx : a.eval x = .pointer (some ⟨q, 0, none⟩)) (hy : a.eval y = .agg cells) {cs : List Value} (h0 : Bx w q cs) (hv : cells.size = cs.length) (hi : (P.info? t).map (·.size) = some cells.size) (h1 : cells.toList.all (·.oneCell') = true)
    (h : ∀ w', w' = w.setCells q 0 cells.toList → Bx w' q cells.toList → wpList P ops Q rest (a.put op.dst undef) w') : wpList P ops Q (op :: rest) a w :=
  wpList_store_mid hgd t x y ho q 0 cells hx hy (by rw [hv]; exact h0.th) hi (by rw [← Array.all_toList]; exact h1) (h _ rfl (h0.put _ (by simp [hv])))
theorem wpl_getT {P : Program} {ops : Array Oper} {rest : List Oper} {op : Oper} {a : Act} {w : World} {Q : Exit → Act → World → Prop} (t : TypeId) (hgd : op.guard = none) (x : Operand) (ho : op.op = .load t x)
    (q : Nat) (hx : a.eval x = .pointer (some ⟨q, 0, none⟩)) {cs : List Value} (h0 : Bx w q cs) (d : TypeDesc) (hu : P.underlying t = some d) (hd : d.isRow = true) (hi : (P.info? t).map (·.size) = some cs.length)
    (h : wpList P ops Q rest (a.put op.dst (.agg cs.toArray)) w) : wpList P ops Q (op :: rest) a w :=
  wpList_load_mid hgd t x ho q 0 hx cs d h0.cl hu hd hi h
theorem Bx.sets {q : Nat} : ∀ (vs : List Value) (o : Nat) (w : World) (cs : List Value), Bx w q cs → Bx (w.setCells q o vs) q (sets cs o vs)
  | [], _, _, _, h => h
  | v :: r, o, w, cs, h => by
    rw [World.setCells]
    unfold Go.Proofs.YtlebblmlbhnppaaGreat.sets
    exact Bx.sets r (o + 1) _ _ (h.field o v)
theorem Bx.part {w : World} {q : Nat} {cs : List Value} (h : Bx w q cs) (o : Nat) (vs : List Value) (hv : (cs.drop o).take vs.length = vs) : w.rangeAt q o vs := by
  intro j v hj
  refine h.cell (o + j) ?_
  have hl := (List.getElem?_eq_some_iff.1 hj).1
  rw [← hv, List.getElem?_take_of_lt hl, List.getElem?_drop] at hj
  exact hj
theorem Bx.thereAt {w : World} {q : Nat} {cs : List Value} (h : Bx w q cs) (o n : Nat) (hn : o + n ≤ cs.length) : w.there q o n := fun j hj => ⟨by rw [h.cell (o + j) (List.getElem?_eq_getElem (by omega))]; rfl, h.thaw (o + j) (by omega)⟩
theorem wpl_getO {P : Program} {ops : Array Oper} {rest : List Oper} {op : Oper} {a : Act} {w : World} {Q : Exit → Act → World → Prop} (t : TypeId) (hgd : op.guard = none) (x : Operand) (ho : op.op = .load t x)
    (q o : Nat) (vs : List Value) (hx : a.eval x = .pointer (some ⟨q, o, none⟩)) {cs : List Value} (h0 : Bx w q cs) (hv : (cs.drop o).take vs.length = vs) (d : TypeDesc) (hu : P.underlying t = some d) (hd : d.isRow = true) (hi : (P.info? t).map (·.size) = some vs.length)
    (h : wpList P ops Q rest (a.put op.dst (.agg vs.toArray)) w) : wpList P ops Q (op :: rest) a w :=
  wpList_load_mid hgd t x ho q o hx vs d (h0.part o vs hv) hu hd hi h
theorem wpl_putO {P : Program} {ops : Array Oper} {rest : List Oper} {op : Oper} {a : Act} {w : World} {Q : Exit → Act → World → Prop} (t : TypeId) (hgd : op.guard = none) (x y : Operand) (ho : op.op = .store t x y)
    (q o : Nat) (cells : Array Value) (hx : a.eval x = .pointer (some ⟨q, o, none⟩)) (hy : a.eval y = .agg cells) {cs : List Value} (h0 : Bx w q cs) (hn : (decide (o + cells.size ≤ cs.length)) = true) (hi : (P.info? t).map (·.size) = some cells.size) (h1 : cells.toList.all (·.oneCell') = true)
    (h : ∀ w', w' = w.setCells q o cells.toList → Bx w' q (sets cs o cells.toList) → wpList P ops Q rest (a.put op.dst undef) w') : wpList P ops Q (op :: rest) a w :=
  wpList_store_mid hgd t x y ho q o cells hx hy (h0.thereAt o _ (of_decide_eq_true hn)) hi (by rw [← Array.all_toList]; exact h1) (h _ rfl (h0.sets _ _ _ _))
/-- Rows, kept where blocks are. -/
theorem rw_keepB {α : Type} {R : World → α → List Value → Prop} {K : Nat} {w w' : World} {a : Option Addr} {xs : List α} {B : Nat → Prop} (h : Rw R K w a xs) (hs : w.heap.size ≤ w'.heap.size) (hk : ∀ k, B k → w'.heap[k]? = w.heap[k]?) (hb : ∀ b off, a = some ⟨b, off, none⟩ → b < w.heap.size → B b) (hR : ∀ x vs, R w x vs → R w' x vs) : Rw R K w' a xs := by
  intro h0
  obtain ⟨b, off, rfl, hlt, hc⟩ := h h0
  refine ⟨b, off, rfl, Nat.lt_of_lt_of_le hlt hs, fun i x hx => ?_⟩
  obtain ⟨vs, h1, h2, h3⟩ := hc i x hx
  refine ⟨vs, h1, hR _ _ h2, fun j v hv => ?_⟩
  have e : w'.cell? ⟨b, off + i * K + j, none⟩ = w.cell? ⟨b, off + i * K + j, none⟩ := by
    unfold World.cell?
    rw [show w'.heap[(⟨b, off + i * K + j, none⟩ : Addr).block]? = w.heap[(⟨b, off + i * K + j, none⟩ : Addr).block]? from hk b (hb b off rfl hlt)]
  rw [e]
  exact h3 j v hv
theorem heap_cellsA {q : Nat} : ∀ (vs : List Value) (o : Nat) (w : World), (w.setCells q o vs).heap.size = w.heap.size ∧ ∀ k, k ≠ q → (w.setCells q o vs).heap[k]? = w.heap[k]?
  | [], _, _ => ⟨rfl, fun _ _ => rfl⟩
  | v :: r, o, w => by
    rw [World.setCells]
    obtain ⟨h1, h5⟩ := heap_cellsA r (o + 1) (w.setCell ⟨q, o, none⟩ v)
    exact ⟨h1.trans (by simp [World.setCell]), fun k hk => (h5 k hk).trans (Below.heap_setCell _ _ _ _ hk)⟩
theorem Bx.apartO {w : World} {q p o : Nat} {cs : List Value} (h : Bx w q cs) (vs : List Value) (hne : q ≠ p) : Bx (w.setCells p o vs) q cs :=
  ⟨World.rangeAt_setCells_apart h.cl p o vs (.inl hne), fun j hj => ⟨World.isSome_setCells p vs o w _ (h.th j hj).1, by rw [World.frozen?_setCells]; exact (h.th j hj).2⟩⟩
end Go.Proofs.YtlebblmlbhnppaaGreat

namespace Go.Proofs.YtlebblmlbhnppaaGreat
open Go.RowKit Go.PlainAid Go.Proofs.YtlebblmlbhnppaaGreat.Bt Go.Sort
set_option linter.unusedVariables false
set_option maxRecDepth 20000
/-- What is known of a gateway that is not too large. -/
structure GtS (g : GtV) : Prop where
  gm : g.gm.size ≤ 1048576
  wm : g.wm.size ≤ 1048576
  ps : g.ps.length ≤ 1048576
  ros : g.ros.length ≤ 1048576
  us : g.us.length ≤ 1048576
  ss : g.ss.length ≤ 1048576
  fs : g.fs.length ≤ 1048576
  es : g.es.length ≤ 1048576
  fl : g.fl.length ≤ 1048576
  co : g.co.length ≤ 1048576
  szr : SzR g.ros
  szu : szL wtUser g.us ≤ 1048576
  szs : szL wtSession g.ss ≤ 1048576
  szf : szL wtFail g.fs ≤ 1048576
  szl : ∀ x, x ∈ g.fl → (x.mc.size : Int) ≤ 1048576
  szc : ∀ x, x ∈ g.co → (x.mc.size : Int) ≤ 1048576 ∧ (x.inn.size : Int) ≤ 1048576 ∧ (x.out.size : Int) ≤ 1048576
set_option maxHeartbeats 4000000 in
theorem szGateway_any (A : GtA) (g : GtV) (w : World) (h : GtR w A g) (hb : GtB A g) :
    Calls Tryz.prog 21 #[.agg #[.int .i64 g.ip, .int .i64 g.b, .int .i64 g.gt, .string g.gm, .string g.wm, .int .i64 g.rs, .slice A.x g.ps.length A.xc, .slice A.y g.ros.length A.yc, .slice A.ua g.us.length A.uc, .slice A.sa g.ss.length A.sc, .slice A.fa g.fs.length A.fc, .slice A.ra g.es.length A.rc, .int .i64 g.nx, .slice A.la g.fl.length A.lc, .slice A.ca g.co.length A.cc, .int .i64 g.nw, .int .i64 g.dr, .int .i64 g.sn], .int .i64 1048576] w fun e w' => ∃ r : Int, e = .returned (.int .i64 r) ∧ (0 ≤ r → GtS g) ∧ Below w.heap.size w w' := by
  have GR : Hid (GtR w A g) := h
  have HZ : Hid (∀ w, GtR w A g → Calls Tryz.prog 8 #[.agg #[.int .i64 g.ip, .int .i64 g.b, .int .i64 g.gt, .string g.gm, .string g.wm, .int .i64 g.rs, .slice A.x g.ps.length A.xc, .slice A.y g.ros.length A.yc], .int .i64 1048576] w fun e w' => ∃ r : Int, e = .returned (.int .i64 r) ∧ (0 ≤ r → (g.gm.size : Int) + g.wm.size + (g.ps.length : Int) + (g.ros.length : Int) + szR g.ros ≤ 1048576) ∧ -1 ≤ r ∧ r ≤ 1048576 ∧ Below w.heap.size w w') := fun w h => (szConfig_any _ _ _ _ _ _ _ _ _ _ _ _ g.ps g.ros w h.ps rfl h.ros rfl (Nat.le_trans hb.gm (by decide)) (Nat.le_trans hb.wm (by decide)) (Nat.le_trans hb.ps.1 (Nat.le_trans hb.ps.2 (by decide))) (Nat.le_trans hb.ros.1 (Nat.le_trans hb.ros.2 (by decide)))).mono fun e w' ⟨r, h1, h2, h3, h4, h5⟩ => ⟨r, h1, h2, h3, h4, h5.below⟩
  have HY : Hid (∀ (l : Int) w, 0 ≤ l → l ≤ 1048576 → GtR w A g → Calls Tryz.prog 9 #[.agg #[.slice A.ua g.us.length A.uc, .slice A.sa g.ss.length A.sc, .slice A.fa g.fs.length A.fc, .slice A.ra g.es.length A.rc, .int .i64 g.nx], .int .i64 l] w fun e w' => ∃ r : Int, e = .returned (.int .i64 r) ∧ (0 ≤ r → ((g.us.length : Int) + szL wtUser g.us + (g.ss.length : Int) + szL wtSession g.ss + (g.fs.length : Int) + szL wtFail g.fs + (g.es.length : Int)) ≤ l) ∧ -1 ≤ r ∧ r ≤ 1048576 ∧ Below w.heap.size w w') := fun l w h0 h1 h => (szGuests_any _ _ _ _ _ _ _ _ _ _ _ _ g.us g.ss g.fs g.es g.nx l w h.us rfl h.ss rfl h.fs rfl h.es rfl (Nat.le_trans hb.us.1 (Nat.le_trans hb.us.2 (by decide))) (Nat.le_trans hb.ss.1 (Nat.le_trans hb.ss.2 (by decide))) (Nat.le_trans hb.fs.1 (Nat.le_trans hb.fs.2 (by decide))) (Nat.le_trans hb.es.1 (Nat.le_trans hb.es.2 (by decide))) h0 h1).mono fun e w' ⟨r, h1, h2, h3, h4, h5⟩ => ⟨r, h1, h2, h3, h4, h5.below⟩
  have HF : Hid (∀ (l : Int) w, 0 ≤ l → l ≤ 1048576 → GtR w A g → Calls Tryz.prog 72 #[.slice A.la g.fl.length A.lc, .int .i64 l] w fun e w' => ∃ r : Int, e = .returned (.int .i64 r) ∧ (0 ≤ r → (g.fl.length : Int) ≤ l ∧ r ≤ l ∧ ∀ x, x ∈ g.fl → (x.mc.size : Int) ≤ 1048576) ∧ -1 ≤ r ∧ r ≤ 1048576 ∧ Below w.heap.size w w') := fun l w h0 h1 h => (szFlowS_any _ _ _ g.fl l w h.fl rfl (Nat.le_trans hb.fl.1 (Nat.le_trans hb.fl.2 (by decide))) h0 h1).mono fun e w' ⟨r, h1, h2, h3, h4, h5⟩ => ⟨r, h1, h2, h3, h4, h5.below⟩
  have HC : Hid (∀ (l : Int) w, 0 ≤ l → l ≤ 1048576 → GtR w A g → Calls Tryz.prog 73 #[.slice A.ca g.co.length A.cc, .int .i64 l] w fun e w' => ∃ r : Int, e = .returned (.int .i64 r) ∧ (0 ≤ r → (g.co.length : Int) ≤ l ∧ r ≤ l ∧ ∀ x, x ∈ g.co → ((x.mc.size : Int) ≤ 1048576 ∧ (x.inn.size : Int) ≤ 1048576 ∧ (x.out.size : Int) ≤ 1048576)) ∧ -1 ≤ r ∧ r ≤ 1048576 ∧ Below w.heap.size w w') := fun l w h0 h1 h => (szConnS_any _ _ _ g.co l w h.co rfl (Nat.le_trans hb.co.1 (Nat.le_trans hb.co.2 (by decide))) h0 h1).mono fun e w' ⟨r, h1, h2, h3, h4, h5⟩ => ⟨r, h1, h2, h3, h4, h5.below⟩
  clear h hb
  go_enter Tryz.func21, Tryz.ntmps21
  go_wp2_with fail
  refine (HZ.out _ (GR.out.below ((Below.refl w.heap.size w).alloc (by simp <;> omega) _))).mono ?_
  rintro e wx1 ⟨r1, rfl, hr1, hr2, hr3, bx⟩
  have c1_0_0 : wx1.cell? ⟨w.heap.size, 0, none⟩ = some (.int .i64 g.ip) := bkeep bx (by simp [go_sem])
  have c1_0_1 : wx1.cell? ⟨w.heap.size, 1, none⟩ = some (.int .i64 g.b) := bkeep bx (by simp [go_sem])
  have c1_0_2 : wx1.cell? ⟨w.heap.size, 2, none⟩ = some (.int .i64 g.gt) := bkeep bx (by simp [go_sem])
  have c1_0_3 : wx1.cell? ⟨w.heap.size, 3, none⟩ = some (.string g.gm) := bkeep bx (by simp [go_sem])
  have c1_0_4 : wx1.cell? ⟨w.heap.size, 4, none⟩ = some (.string g.wm) := bkeep bx (by simp [go_sem])
  have c1_0_5 : wx1.cell? ⟨w.heap.size, 5, none⟩ = some (.int .i64 g.rs) := bkeep bx (by simp [go_sem])
  have c1_0_6 : wx1.cell? ⟨w.heap.size, 6, none⟩ = some (.slice A.x g.ps.length A.xc) := bkeep bx (by simp [go_sem])
  have c1_0_7 : wx1.cell? ⟨w.heap.size, 7, none⟩ = some (.slice A.y g.ros.length A.yc) := bkeep bx (by simp [go_sem])
  have c1_0_8 : wx1.cell? ⟨w.heap.size, 8, none⟩ = some (.slice A.ua g.us.length A.uc) := bkeep bx (by simp [go_sem])
  have c1_0_9 : wx1.cell? ⟨w.heap.size, 9, none⟩ = some (.slice A.sa g.ss.length A.sc) := bkeep bx (by simp [go_sem])
  have c1_0_10 : wx1.cell? ⟨w.heap.size, 10, none⟩ = some (.slice A.fa g.fs.length A.fc) := bkeep bx (by simp [go_sem])
  have c1_0_11 : wx1.cell? ⟨w.heap.size, 11, none⟩ = some (.slice A.ra g.es.length A.rc) := bkeep bx (by simp [go_sem])
  have c1_0_12 : wx1.cell? ⟨w.heap.size, 12, none⟩ = some (.int .i64 g.nx) := bkeep bx (by simp [go_sem])
  have c1_0_13 : wx1.cell? ⟨w.heap.size, 13, none⟩ = some (.slice A.la g.fl.length A.lc) := bkeep bx (by simp [go_sem])
  have c1_0_14 : wx1.cell? ⟨w.heap.size, 14, none⟩ = some (.slice A.ca g.co.length A.cc) := bkeep bx (by simp [go_sem])
  have c1_0_15 : wx1.cell? ⟨w.heap.size, 15, none⟩ = some (.int .i64 g.nw) := bkeep bx (by simp [go_sem])
  have c1_0_16 : wx1.cell? ⟨w.heap.size, 16, none⟩ = some (.int .i64 g.dr) := bkeep bx (by simp [go_sem])
  have c1_0_17 : wx1.cell? ⟨w.heap.size, 17, none⟩ = some (.int .i64 g.sn) := bkeep bx (by simp [go_sem])
  have BX1 : Hid (Below w.heap.size w wx1) := ((Below.refl w.heap.size w).alloc (by simp <;> omega) _).trans (bx.mono (by simp <;> omega))
  clear bx
  by_cases k1 : r1 < 0
  · go_wp2
    go_ret
    exact ⟨-1, rfl, fun h => absurd h (by omega), BX1.out⟩
  have s1 : Hid ((g.gm.size : Int) + g.wm.size + (g.ps.length : Int) + (g.ros.length : Int) + szR g.ros ≤ 1048576) := hr1 (by omega)
  clear hr1
  go_wp2_with fail
  refine (HY.out r1 _ (by omega) (by omega) (GR.out.below BX1.out)).mono ?_
  rintro e wx2 ⟨r2, rfl, ht1, ht2, ht3, bx⟩
  have c2_0_0 : wx2.cell? ⟨w.heap.size, 0, none⟩ = some (.int .i64 g.ip) := bkeep bx (by first | (simp [go_sem]; done) | simp [go_sem, c1_0_0])
  have c2_0_1 : wx2.cell? ⟨w.heap.size, 1, none⟩ = some (.int .i64 g.b) := bkeep bx (by first | (simp [go_sem]; done) | simp [go_sem, c1_0_1])
  have c2_0_2 : wx2.cell? ⟨w.heap.size, 2, none⟩ = some (.int .i64 g.gt) := bkeep bx (by first | (simp [go_sem]; done) | simp [go_sem, c1_0_2])
  have c2_0_3 : wx2.cell? ⟨w.heap.size, 3, none⟩ = some (.string g.gm) := bkeep bx (by first | (simp [go_sem]; done) | simp [go_sem, c1_0_3])
  have c2_0_4 : wx2.cell? ⟨w.heap.size, 4, none⟩ = some (.string g.wm) := bkeep bx (by first | (simp [go_sem]; done) | simp [go_sem, c1_0_4])
  have c2_0_5 : wx2.cell? ⟨w.heap.size, 5, none⟩ = some (.int .i64 g.rs) := bkeep bx (by first | (simp [go_sem]; done) | simp [go_sem, c1_0_5])
  have c2_0_6 : wx2.cell? ⟨w.heap.size, 6, none⟩ = some (.slice A.x g.ps.length A.xc) := bkeep bx (by first | (simp [go_sem]; done) | simp [go_sem, c1_0_6])
  have c2_0_7 : wx2.cell? ⟨w.heap.size, 7, none⟩ = some (.slice A.y g.ros.length A.yc) := bkeep bx (by first | (simp [go_sem]; done) | simp [go_sem, c1_0_7])
  have c2_0_8 : wx2.cell? ⟨w.heap.size, 8, none⟩ = some (.slice A.ua g.us.length A.uc) := bkeep bx (by first | (simp [go_sem]; done) | simp [go_sem, c1_0_8])
  have c2_0_9 : wx2.cell? ⟨w.heap.size, 9, none⟩ = some (.slice A.sa g.ss.length A.sc) := bkeep bx (by first | (simp [go_sem]; done) | simp [go_sem, c1_0_9])
  have c2_0_10 : wx2.cell? ⟨w.heap.size, 10, none⟩ = some (.slice A.fa g.fs.length A.fc) := bkeep bx (by first | (simp [go_sem]; done) | simp [go_sem, c1_0_10])
  have c2_0_11 : wx2.cell? ⟨w.heap.size, 11, none⟩ = some (.slice A.ra g.es.length A.rc) := bkeep bx (by first | (simp [go_sem]; done) | simp [go_sem, c1_0_11])
  have c2_0_12 : wx2.cell? ⟨w.heap.size, 12, none⟩ = some (.int .i64 g.nx) := bkeep bx (by first | (simp [go_sem]; done) | simp [go_sem, c1_0_12])
  have c2_0_13 : wx2.cell? ⟨w.heap.size, 13, none⟩ = some (.slice A.la g.fl.length A.lc) := bkeep bx (by first | (simp [go_sem]; done) | simp [go_sem, c1_0_13])
  have c2_0_14 : wx2.cell? ⟨w.heap.size, 14, none⟩ = some (.slice A.ca g.co.length A.cc) := bkeep bx (by first | (simp [go_sem]; done) | simp [go_sem, c1_0_14])
  have c2_0_15 : wx2.cell? ⟨w.heap.size, 15, none⟩ = some (.int .i64 g.nw) := bkeep bx (by first | (simp [go_sem]; done) | simp [go_sem, c1_0_15])
  have c2_0_16 : wx2.cell? ⟨w.heap.size, 16, none⟩ = some (.int .i64 g.dr) := bkeep bx (by first | (simp [go_sem]; done) | simp [go_sem, c1_0_16])
  have c2_0_17 : wx2.cell? ⟨w.heap.size, 17, none⟩ = some (.int .i64 g.sn) := bkeep bx (by first | (simp [go_sem]; done) | simp [go_sem, c1_0_17])
  have BX2 : Hid (Below w.heap.size w wx2) := BX1.out.trans (bx.mono (by have := BX1.out.size; simp <;> omega))
  clear bx c1_0_0 c1_0_1 c1_0_2 c1_0_3 c1_0_4 c1_0_5 c1_0_6 c1_0_7 c1_0_8 c1_0_9 c1_0_10 c1_0_11 c1_0_12 c1_0_13 c1_0_14 c1_0_15 c1_0_16 c1_0_17 BX1
  by_cases k2 : r2 < 0
  · go_wp2
    go_ret
    exact ⟨-1, rfl, fun h => absurd h (by omega), BX2.out⟩
  have s2 : Hid (((g.us.length : Int) + szL wtUser g.us + (g.ss.length : Int) + szL wtSession g.ss + (g.fs.length : Int) + szL wtFail g.fs + (g.es.length : Int)) ≤ r1) := ht1 (by omega)
  clear ht1
  go_wp2_with fail
  refine (HF.out r2 _ (by omega) (by omega) (GR.out.below BX2.out)).mono ?_
  rintro e wx3 ⟨r3, rfl, hu1, hu2, hu3, bx⟩
  have c3_0_0 : wx3.cell? ⟨w.heap.size, 0, none⟩ = some (.int .i64 g.ip) := bkeep bx (by first | (simp [go_sem]; done) | simp [go_sem, c2_0_0])
  have c3_0_1 : wx3.cell? ⟨w.heap.size, 1, none⟩ = some (.int .i64 g.b) := bkeep bx (by first | (simp [go_sem]; done) | simp [go_sem, c2_0_1])
  have c3_0_2 : wx3.cell? ⟨w.heap.size, 2, none⟩ = some (.int .i64 g.gt) := bkeep bx (by first | (simp [go_sem]; done) | simp [go_sem, c2_0_2])
  have c3_0_3 : wx3.cell? ⟨w.heap.size, 3, none⟩ = some (.string g.gm) := bkeep bx (by first | (simp [go_sem]; done) | simp [go_sem, c2_0_3])
  have c3_0_4 : wx3.cell? ⟨w.heap.size, 4, none⟩ = some (.string g.wm) := bkeep bx (by first | (simp [go_sem]; done) | simp [go_sem, c2_0_4])
  have c3_0_5 : wx3.cell? ⟨w.heap.size, 5, none⟩ = some (.int .i64 g.rs) := bkeep bx (by first | (simp [go_sem]; done) | simp [go_sem, c2_0_5])
  have c3_0_6 : wx3.cell? ⟨w.heap.size, 6, none⟩ = some (.slice A.x g.ps.length A.xc) := bkeep bx (by first | (simp [go_sem]; done) | simp [go_sem, c2_0_6])
  have c3_0_7 : wx3.cell? ⟨w.heap.size, 7, none⟩ = some (.slice A.y g.ros.length A.yc) := bkeep bx (by first | (simp [go_sem]; done) | simp [go_sem, c2_0_7])
  have c3_0_8 : wx3.cell? ⟨w.heap.size, 8, none⟩ = some (.slice A.ua g.us.length A.uc) := bkeep bx (by first | (simp [go_sem]; done) | simp [go_sem, c2_0_8])
  have c3_0_9 : wx3.cell? ⟨w.heap.size, 9, none⟩ = some (.slice A.sa g.ss.length A.sc) := bkeep bx (by first | (simp [go_sem]; done) | simp [go_sem, c2_0_9])
  have c3_0_10 : wx3.cell? ⟨w.heap.size, 10, none⟩ = some (.slice A.fa g.fs.length A.fc) := bkeep bx (by first | (simp [go_sem]; done) | simp [go_sem, c2_0_10])
  have c3_0_11 : wx3.cell? ⟨w.heap.size, 11, none⟩ = some (.slice A.ra g.es.length A.rc) := bkeep bx (by first | (simp [go_sem]; done) | simp [go_sem, c2_0_11])
  have c3_0_12 : wx3.cell? ⟨w.heap.size, 12, none⟩ = some (.int .i64 g.nx) := bkeep bx (by first | (simp [go_sem]; done) | simp [go_sem, c2_0_12])
  have c3_0_13 : wx3.cell? ⟨w.heap.size, 13, none⟩ = some (.slice A.la g.fl.length A.lc) := bkeep bx (by first | (simp [go_sem]; done) | simp [go_sem, c2_0_13])
  have c3_0_14 : wx3.cell? ⟨w.heap.size, 14, none⟩ = some (.slice A.ca g.co.length A.cc) := bkeep bx (by first | (simp [go_sem]; done) | simp [go_sem, c2_0_14])
  have c3_0_15 : wx3.cell? ⟨w.heap.size, 15, none⟩ = some (.int .i64 g.nw) := bkeep bx (by first | (simp [go_sem]; done) | simp [go_sem, c2_0_15])
  have c3_0_16 : wx3.cell? ⟨w.heap.size, 16, none⟩ = some (.int .i64 g.dr) := bkeep bx (by first | (simp [go_sem]; done) | simp [go_sem, c2_0_16])
  have c3_0_17 : wx3.cell? ⟨w.heap.size, 17, none⟩ = some (.int .i64 g.sn) := bkeep bx (by first | (simp [go_sem]; done) | simp [go_sem, c2_0_17])
  have BX3 : Hid (Below w.heap.size w wx3) := BX2.out.trans (bx.mono (by have := BX2.out.size; simp <;> omega))
  clear bx c2_0_0 c2_0_1 c2_0_2 c2_0_3 c2_0_4 c2_0_5 c2_0_6 c2_0_7 c2_0_8 c2_0_9 c2_0_10 c2_0_11 c2_0_12 c2_0_13 c2_0_14 c2_0_15 c2_0_16 c2_0_17 BX2
  by_cases k3 : r3 < 0
  · go_wp2
    go_ret
    exact ⟨-1, rfl, fun h => absurd h (by omega), BX3.out⟩
  have s3 : Hid ((g.fl.length : Int) ≤ r2 ∧ ∀ x, x ∈ g.fl → (x.mc.size : Int) ≤ 1048576) := ⟨(hu1 (by omega)).1, (hu1 (by omega)).2.2⟩
  clear hu1
  go_wp2_with fail
  refine (HC.out r3 _ (by omega) (by omega) (GR.out.below BX3.out)).mono ?_
  rintro e wx4 ⟨r4, rfl, hv1, hv2, hv3, bx⟩
  have c4_0_0 : wx4.cell? ⟨w.heap.size, 0, none⟩ = some (.int .i64 g.ip) := bkeep bx (by first | (simp [go_sem]; done) | simp [go_sem, c3_0_0])
  have c4_0_1 : wx4.cell? ⟨w.heap.size, 1, none⟩ = some (.int .i64 g.b) := bkeep bx (by first | (simp [go_sem]; done) | simp [go_sem, c3_0_1])
  have c4_0_2 : wx4.cell? ⟨w.heap.size, 2, none⟩ = some (.int .i64 g.gt) := bkeep bx (by first | (simp [go_sem]; done) | simp [go_sem, c3_0_2])
  have c4_0_3 : wx4.cell? ⟨w.heap.size, 3, none⟩ = some (.string g.gm) := bkeep bx (by first | (simp [go_sem]; done) | simp [go_sem, c3_0_3])
  have c4_0_4 : wx4.cell? ⟨w.heap.size, 4, none⟩ = some (.string g.wm) := bkeep bx (by first | (simp [go_sem]; done) | simp [go_sem, c3_0_4])
  have c4_0_5 : wx4.cell? ⟨w.heap.size, 5, none⟩ = some (.int .i64 g.rs) := bkeep bx (by first | (simp [go_sem]; done) | simp [go_sem, c3_0_5])
  have c4_0_6 : wx4.cell? ⟨w.heap.size, 6, none⟩ = some (.slice A.x g.ps.length A.xc) := bkeep bx (by first | (simp [go_sem]; done) | simp [go_sem, c3_0_6])
  have c4_0_7 : wx4.cell? ⟨w.heap.size, 7, none⟩ = some (.slice A.y g.ros.length A.yc) := bkeep bx (by first | (simp [go_sem]; done) | simp [go_sem, c3_0_7])
  have c4_0_8 : wx4.cell? ⟨w.heap.size, 8, none⟩ = some (.slice A.ua g.us.length A.uc) := bkeep bx (by first | (simp [go_sem]; done) | simp [go_sem, c3_0_8])
  have c4_0_9 : wx4.cell? ⟨w.heap.size, 9, none⟩ = some (.slice A.sa g.ss.length A.sc) := bkeep bx (by first | (simp [go_sem]; done) | simp [go_sem, c3_0_9])
  have c4_0_10 : wx4.cell? ⟨w.heap.size, 10, none⟩ = some (.slice A.fa g.fs.length A.fc) := bkeep bx (by first | (simp [go_sem]; done) | simp [go_sem, c3_0_10])
  have c4_0_11 : wx4.cell? ⟨w.heap.size, 11, none⟩ = some (.slice A.ra g.es.length A.rc) := bkeep bx (by first | (simp [go_sem]; done) | simp [go_sem, c3_0_11])
  have c4_0_12 : wx4.cell? ⟨w.heap.size, 12, none⟩ = some (.int .i64 g.nx) := bkeep bx (by first | (simp [go_sem]; done) | simp [go_sem, c3_0_12])
  have c4_0_13 : wx4.cell? ⟨w.heap.size, 13, none⟩ = some (.slice A.la g.fl.length A.lc) := bkeep bx (by first | (simp [go_sem]; done) | simp [go_sem, c3_0_13])
  have c4_0_14 : wx4.cell? ⟨w.heap.size, 14, none⟩ = some (.slice A.ca g.co.length A.cc) := bkeep bx (by first | (simp [go_sem]; done) | simp [go_sem, c3_0_14])
  have c4_0_15 : wx4.cell? ⟨w.heap.size, 15, none⟩ = some (.int .i64 g.nw) := bkeep bx (by first | (simp [go_sem]; done) | simp [go_sem, c3_0_15])
  have c4_0_16 : wx4.cell? ⟨w.heap.size, 16, none⟩ = some (.int .i64 g.dr) := bkeep bx (by first | (simp [go_sem]; done) | simp [go_sem, c3_0_16])
  have c4_0_17 : wx4.cell? ⟨w.heap.size, 17, none⟩ = some (.int .i64 g.sn) := bkeep bx (by first | (simp [go_sem]; done) | simp [go_sem, c3_0_17])
  have BX4 : Hid (Below w.heap.size w wx4) := BX3.out.trans (bx.mono (by have := BX3.out.size; simp <;> omega))
  clear bx c3_0_0 c3_0_1 c3_0_2 c3_0_3 c3_0_4 c3_0_5 c3_0_6 c3_0_7 c3_0_8 c3_0_9 c3_0_10 c3_0_11 c3_0_12 c3_0_13 c3_0_14 c3_0_15 c3_0_16 c3_0_17 BX3
  by_cases k4 : r4 < 0
  · go_wp2
    go_ret
    exact ⟨-1, rfl, fun h => absurd h (by omega), BX4.out⟩
  have s4 : Hid ((g.co.length : Int) ≤ r3 ∧ ∀ x, x ∈ g.co → ((x.mc.size : Int) ≤ 1048576 ∧ (x.inn.size : Int) ≤ 1048576 ∧ (x.out.size : Int) ≤ 1048576)) := ⟨(hv1 (by omega)).1, (hv1 (by omega)).2.2⟩
  clear hv1
  have FIN : Hid (GtS g) := by
    have a1 := s1.out; have a2 := s2.out; have a3 := s3.out; have a4 := s4.out
    have n1 := szR_nonneg g.ros
    have n2 := szL_nonneg wtUser_nn g.us
    have n3 := szL_nonneg wtSession_nn g.ss
    have n4 := szL_nonneg wtFail_nn g.fs
    exact ⟨by omega, by omega, by omega, by omega, by omega, by omega, by omega, by omega, by omega, by omega, SzR_of (n := 1048576) (by omega) (by omega), by omega, by omega, by omega, a3.2, a4.2⟩
  clear s1 s2 s3 s4
  go_wp2
  go_ret
  exact ⟨r4, rfl, fun _ => FIN.out, BX4.out⟩
theorem row_put {α : Type} {R : World → α → List Value → Prop} {K : Nat} {w : World} {b q o : Nat} {xs : List α} {vs : List Value} (h : Rw R K w (some ⟨b, 0, none⟩) xs) (hne : q ≠ b) (hR : ∀ w w' x vs, R w x vs → R w' x vs) : Rw R K (w.setCells q o vs) (some ⟨b, 0, none⟩) xs :=
  rw_keepB (B := fun k => k ≠ q) h (Nat.le_of_eq (heap_cellsA vs o w).1.symm) (fun k hk => (heap_cellsA vs o w).2 k hk) (fun b' off e _ => by cases e; exact fun e => hne e.symm) (fun _ _ h => hR _ _ _ _ h)
theorem row_putR {K : Nat} {w : World} {b q o lo : Nat} {xs : List RoleV} {vs : List Value} (h : Rw (RoR lo) K w (some ⟨b, 0, none⟩) xs) (hne : q ≠ b) (hlo : q < lo) : Rw (RoR lo) K (w.setCells q o vs) (some ⟨b, 0, none⟩) xs :=
  rw_keepB (B := fun k => k ≠ q) h (Nat.le_of_eq (heap_cellsA vs o w).1.symm) (fun k hk => (heap_cellsA vs o w).2 k hk) (fun b' off e _ => by cases e; exact fun e => hne e.symm) (fun x us h => by
    obtain ⟨a, cap, h1, h2, h3, h4, h5, h6⟩ := h
    refine ⟨a, cap, h1, h2, h3, h4, rw_keepB (B := fun k => k ≠ q) h5 (Nat.le_of_eq (heap_cellsA vs o w).1.symm) (fun k hk => (heap_cellsA vs o w).2 k hk) (fun b' off e _ => ?_) (fun _ _ h => h), h6⟩
    have := h6 b' off e
    omega)
/-- The three boxes of toGateway. -/
structure TG (w : World) (A : GtA) (g : GtV) (cs : List Value) (W : World) : Prop where
  a : Bx W w.heap.size (gtC A g)
  r : Bx W (w.heap.size + 1) [.int .i64 0, .int .i64 0, .int .i64 0, .string ⟨#[]⟩, .string ⟨#[]⟩, .int .i64 0, .slice none 0 0, .slice none 0 0, .slice none 0 0, .slice none 0 0, .slice none 0 0, .slice none 0 0, .int .i64 0, .slice none 0 0, .slice none 0 0, .int .i64 0, .int .i64 0, .int .i64 0]
  n : Bx W (w.heap.size + 1 + 1) cs
  b : Below w.heap.size w W
  z : w.heap.size + 1 + 1 + 1 ≤ W.heap.size
theorem TG.call {w : World} {A : GtA} {g : GtV} {cs : List Value} {W W' : World} (h : TG w A g cs W) (hb : Below W.heap.size W W') : TG w A g cs W' := ⟨h.a.below hb, h.r.below hb, h.n.below hb, h.b.trans (hb.mono h.b.size), Nat.le_trans h.z hb.size⟩
theorem TG.put {w : World} {A : GtA} {g : GtV} {cs : List Value} {W : World} (h : TG w A g cs W) (o : Nat) (vs : List Value) : TG w A g (sets cs o vs) (W.setCells (w.heap.size + 1 + 1) o vs) :=
  ⟨h.a.apartO vs (by omega), h.r.apartO vs (by omega), h.n.sets vs o _ _, below_cells (by omega) vs o _ h.b, by rw [(heap_cellsA vs o W).1]; exact h.z⟩
theorem TG.new (w : World) (A : GtA) (g : GtV) : TG w A g [.int .i64 0, .int .i64 0, .int .i64 0, .string ⟨#[]⟩, .string ⟨#[]⟩, .int .i64 0, .slice none 0 0, .slice none 0 0, .slice none 0 0, .slice none 0 0, .slice none 0 0, .slice none 0 0, .int .i64 0, .slice none 0 0, .slice none 0 0, .int .i64 0, .int .i64 0, .int .i64 0] (((w.alloc (.cells #[.int .i64 g.ip, .int .i64 g.b, .int .i64 g.gt, .string g.gm, .string g.wm, .int .i64 g.rs, .slice A.x g.ps.length A.xc, .slice A.y g.ros.length A.yc, .slice A.ua g.us.length A.uc, .slice A.sa g.ss.length A.sc, .slice A.fa g.fs.length A.fc, .slice A.ra g.es.length A.rc, .int .i64 g.nx, .slice A.la g.fl.length A.lc, .slice A.ca g.co.length A.cc, .int .i64 g.nw, .int .i64 g.dr, .int .i64 g.sn] 65)).alloc (.cells #[.int .i64 0, .int .i64 0, .int .i64 0, .string ⟨#[]⟩, .string ⟨#[]⟩, .int .i64 0, .slice none 0 0, .slice none 0 0, .slice none 0 0, .slice none 0 0, .slice none 0 0, .slice none 0 0, .int .i64 0, .slice none 0 0, .slice none 0 0, .int .i64 0, .int .i64 0, .int .i64 0] 50)).alloc (.cells #[.int .i64 0, .int .i64 0, .int .i64 0, .string ⟨#[]⟩, .string ⟨#[]⟩, .int .i64 0, .slice none 0 0, .slice none 0 0, .slice none 0 0, .slice none 0 0, .slice none 0 0, .slice none 0 0, .int .i64 0, .slice none 0 0, .slice none 0 0, .int .i64 0, .int .i64 0, .int .i64 0] 50)) := by
  refine ⟨?_, ?_, ?_, ?_, ?_⟩
  · exact ((Bx.new w #[.int .i64 g.ip, .int .i64 g.b, .int .i64 g.gt, .string g.gm, .string g.wm, .int .i64 g.rs, .slice A.x g.ps.length A.xc, .slice A.y g.ros.length A.yc, .slice A.ua g.us.length A.uc, .slice A.sa g.ss.length A.sc, .slice A.fa g.fs.length A.fc, .slice A.ra g.es.length A.rc, .int .i64 g.nx, .slice A.la g.fl.length A.lc, .slice A.ca g.co.length A.cc, .int .i64 g.nw, .int .i64 g.dr, .int .i64 g.sn] 65).below ((Below.refl _ _).alloc (Nat.le_refl _) _)).below ((Below.refl _ _).alloc (Nat.le_refl _) _)
  · have h := Bx.new (w.alloc (.cells #[.int .i64 g.ip, .int .i64 g.b, .int .i64 g.gt, .string g.gm, .string g.wm, .int .i64 g.rs, .slice A.x g.ps.length A.xc, .slice A.y g.ros.length A.yc, .slice A.ua g.us.length A.uc, .slice A.sa g.ss.length A.sc, .slice A.fa g.fs.length A.fc, .slice A.ra g.es.length A.rc, .int .i64 g.nx, .slice A.la g.fl.length A.lc, .slice A.ca g.co.length A.cc, .int .i64 g.nw, .int .i64 g.dr, .int .i64 g.sn] 65)) #[.int .i64 0, .int .i64 0, .int .i64 0, .string ⟨#[]⟩, .string ⟨#[]⟩, .int .i64 0, .slice none 0 0, .slice none 0 0, .slice none 0 0, .slice none 0 0, .slice none 0 0, .slice none 0 0, .int .i64 0, .slice none 0 0, .slice none 0 0, .int .i64 0, .int .i64 0, .int .i64 0] 50
    rw [World.size_alloc] at h
    exact h.below ((Below.refl _ _).alloc (Nat.le_refl _) _)
  · have h := Bx.new ((w.alloc (.cells #[.int .i64 g.ip, .int .i64 g.b, .int .i64 g.gt, .string g.gm, .string g.wm, .int .i64 g.rs, .slice A.x g.ps.length A.xc, .slice A.y g.ros.length A.yc, .slice A.ua g.us.length A.uc, .slice A.sa g.ss.length A.sc, .slice A.fa g.fs.length A.fc, .slice A.ra g.es.length A.rc, .int .i64 g.nx, .slice A.la g.fl.length A.lc, .slice A.ca g.co.length A.cc, .int .i64 g.nw, .int .i64 g.dr, .int .i64 g.sn] 65)).alloc (.cells #[.int .i64 0, .int .i64 0, .int .i64 0, .string ⟨#[]⟩, .string ⟨#[]⟩, .int .i64 0, .slice none 0 0, .slice none 0 0, .slice none 0 0, .slice none 0 0, .slice none 0 0, .slice none 0 0, .int .i64 0, .slice none 0 0, .slice none 0 0, .int .i64 0, .int .i64 0, .int .i64 0] 50)) #[.int .i64 0, .int .i64 0, .int .i64 0, .string ⟨#[]⟩, .string ⟨#[]⟩, .int .i64 0, .slice none 0 0, .slice none 0 0, .slice none 0 0, .slice none 0 0, .slice none 0 0, .slice none 0 0, .int .i64 0, .slice none 0 0, .slice none 0 0, .int .i64 0, .int .i64 0, .int .i64 0] 50
    rw [World.size_alloc, World.size_alloc] at h
    exact h
  · exact (((Below.refl _ _).alloc (Nat.le_refl _) _).alloc (by simp) _).alloc (by simp; omega) _
  · simp
theorem w0_size (w : World) (A : GtA) (g : GtV) : (((w.alloc (.cells #[.int .i64 g.ip, .int .i64 g.b, .int .i64 g.gt, .string g.gm, .string g.wm, .int .i64 g.rs, .slice A.x g.ps.length A.xc, .slice A.y g.ros.length A.yc, .slice A.ua g.us.length A.uc, .slice A.sa g.ss.length A.sc, .slice A.fa g.fs.length A.fc, .slice A.ra g.es.length A.rc, .int .i64 g.nx, .slice A.la g.fl.length A.lc, .slice A.ca g.co.length A.cc, .int .i64 g.nw, .int .i64 g.dr, .int .i64 g.sn] 65)).alloc (.cells #[.int .i64 0, .int .i64 0, .int .i64 0, .string ⟨#[]⟩, .string ⟨#[]⟩, .int .i64 0, .slice none 0 0, .slice none 0 0, .slice none 0 0, .slice none 0 0, .slice none 0 0, .slice none 0 0, .int .i64 0, .slice none 0 0, .slice none 0 0, .int .i64 0, .int .i64 0, .int .i64 0] 50)).alloc (.cells #[.int .i64 0, .int .i64 0, .int .i64 0, .string ⟨#[]⟩, .string ⟨#[]⟩, .int .i64 0, .slice none 0 0, .slice none 0 0, .slice none 0 0, .slice none 0 0, .slice none 0 0, .slice none 0 0, .int .i64 0, .slice none 0 0, .slice none 0 0, .int .i64 0, .int .i64 0, .int .i64 0] 50)).heap.size = w.heap.size + 1 + 1 + 1 := by simp
end Go.Proofs.YtlebblmlbhnppaaGreat

namespace Go.Proofs.YtlebblmlbhnppaaGreat
open Go.RowKit Go.PlainAid Go.Sort
set_option linter.unusedVariables false
set_option maxRecDepth 20000
theorem run_storeVar_at {P : Program} (w : World) (b o : Nat) (ty : TypeId) (v : Value) (ht : w.there b o 1) (hi : (P.info? ty).map (·.size) = some 1) (h1 : v.oneCell' = true) :
    (storeVar ty ⟨b, o, none⟩ v).run P w = .ok () (w.setCells b o [v]) := by
  have hc : v.cells = #[v] := by cases v <;> first | rfl | cases h1
  have := run_storeCells_cells (P := P) b o [v] 0 w (fun j hj => by simpa using (ht j (by simpa using hj)).1) (fun j hj => by simpa using (ht j (by simpa using hj)).2)
    (fun u hu => by simp at hu; subst hu; exact h1)
  cases hq : P.info? ty with
  | none => simp [hq] at hi
  | some i =>
    have hs : i.size = 1 := by simpa [hq] using hi
    simp only [Nat.add_zero] at this
    simp [storeVar, sizeOf, typeInfo, hq, hc, hs, this]
theorem wpl_put1 {P : Program} {ops : Array Oper} {rest : List Oper} {op : Oper} {a : Act} {w : World} {Q : Exit → Act → World → Prop} (t : TypeId) (hgd : op.guard = none) (x y : Operand) (ho : op.op = .store t x y)
    (q o : Nat) (v : Value) (hx : a.eval x = .pointer (some ⟨q, o, none⟩)) (hy : a.eval y = v) {cs : List Value} (h0 : Bx w q cs) (hn : (decide (o + 1 ≤ cs.length)) = true) (hi : (P.info? t).map (·.size) = some 1) (h1 : v.oneCell' = true)
    (h : ∀ w', w' = w.setCells q o [v] → wpList P ops Q rest (a.put op.dst undef) w') : wpList P ops Q (op :: rest) a w :=
  wpList_plain hgd fun _ hK => by
    unfold Oper.wp execOp
    simp only [ho, hx, hy, Instr.storeAt, Instr.sureAddr, Sem.run_bind, Sem.run_pure, Result.andThen_ok, run_storeVar_at w q o t v (h0.thereAt o 1 (of_decide_eq_true hn)) hi h1]
    exact hK _ _ (h _ rfl)
/-- A struct result that lies in a box is read whole. -/
theorem results_cell {P : Program} {fn : Func} {tmps : Array Value} {w : World} {a : Tmp} {t : TypeId} (hr : fn.results = #[.cell a t]) (q : Nat) (hp : tmps.getD a undef = .pointer (some ⟨q, 0, none⟩)) {cs : List Value} (hb : Bx w q cs)
    (d : TypeDesc) (hu : P.underlying t = some d) (hd : d.isRow = true) (hi : (P.info? t).map (·.size) = some cs.length) : (results fn tmps).run P w = .ok (.agg cs.toArray) w := by
  have h := run_loadVar_mid w q 0 t cs d hb.cl hu hd hi
  unfold results
  rw [hr]
  have hp' : tmps[a]?.getD undef = .pointer (some ⟨q, 0, none⟩) := by rw [← Array.getD_eq_getD_getElem?]; exact hp
  simp [hp', asAddr, h]
end Go.Proofs.YtlebblmlbhnppaaGreat
